/- More on rows that the call itself has made: an append of all elements of a slice inside a statement that leaves its order open; a cell of another block is written. No condition; no program is named. -/
import Derived.Test.YtmdljknlbmlacabGreatDoorMem
import Derived.Deep.RegionLaw
namespace Go.Proofs.YtmdljknlbmlacabGreatDoor
open Go.RowKit

theorem step_append_all {α : Type} {E : Enc α} {P : Program} {ops : Array Oper} {o : Oper} {a : Act} {w : World} {K : Act → World → Prop} {Q : Exit → Act → World → Prop} {X : Prop}
    (hg : o.guard = none) (s x : Operand) (t : TypeId) (ho : o.op = Op.call { callee := Callee.builtin Builtin.append, args := #[s, x], argTypes := #[t, t] })
    (base lo : Nat) (e : TypeId) (bytes : Nat) (z : Value) (ht : P.underlying t = some (.slice e)) (hinfo : (P.info? e).map (fun i => (i.zero, i.size, i.bytes)) = some (some z, E.size, bytes)) (hzs : z.cells.size = E.size) (hsz : 0 < E.size)
    (v : Value) (l : List α) (hs : a.eval s = v) (hown : OwnG E w base lo e v l)
    (vx : Value) (m : List α) (hx : a.eval x = vx) (S : Nat → Prop) (hm : Sl E w S m vx) (hS : ∀ y cs, E.rd w S y cs → E.rd w (Off lo w v) y cs)
    (hbytes : (l.length + m.length) * bytes ≤ 140737488355328) (h63 : l.length + m.length ≤ maxLen) (hbase : base ≤ w.heap.size)
    (h : ∀ v' w', OwnG E w' base lo e v' (l ++ m) → w.grownBy w' v.ownBlock → Moved w v v' → K (a.put o.dst v') w') :
    if Region.wanted o (yielded ops a.tmps) = true then Oper.wp P o a w K Q else X := by
  have hw : Region.wanted o (yielded ops a.tmps) = true := by simp [Region.wanted, hg]
  rw [if_pos hw]
  have key : ∃ v' w', (Builtin.append_ #[t, t] o.type #[v, vx]).run P w = .ok v' w' ∧ OwnG E w' base lo e v' (l ++ m) ∧ w.grownBy w' v.ownBlock ∧ Moved w v v' := by
    obtain ⟨us, h1, h2⟩ := hown
    have hm' := hm
    obtain ⟨A, c, rfl, hc1, hc2, hn, h4⟩ := hm
    cases A with
    | none =>
      have hc := hn rfl
      subst hc
      obtain rfl : m = [] := List.length_eq_zero_iff.1 (by omega)
      obtain ⟨i, hi, hz0, hz1, hz2⟩ := info_parts hinfo
      exact ⟨v, w, run_append_owned_none (P := P) (w := w) base t o.type e i E.size ht hi v l.length us h1, by rw [List.append_nil]; exact ⟨us, h1, h2⟩, ⟨rfl, rfl, rfl, Nat.le_refl _, fun _ _ _ => rfl⟩, Moved.refl _ _⟩
    | some ad =>
      obtain ⟨vs, v1, v2, v3, v4⟩ := hm'.cells
      obtain ⟨v', w', hr, ho', hg', hmv⟩ := run_append_mine (P := P) w base t o.type e E.size bytes z ht hinfo hzs hsz v l.length us h1 ad m.length c vs v1 v3 v4 h63 hbytes hbase
      exact ⟨v', w', hr, OwnG.grown h1.1 h2 ho' hg' hmv (fun i y hy => by obtain ⟨cs, c1, c2⟩ := v2 i y hy; exact ⟨cs, hS y cs c1, c2⟩), hg', hmv⟩
  obtain ⟨v', w', hr, ho', hg', hmv⟩ := key
  unfold Oper.wp execOp
  simp only [ho, resolve, invoke, builtin, Sem.run_bind, Sem.run_pure, Result.andThen_ok, List.map_toArray, List.map_cons, List.map_nil, hs, hx, hr]
  exact h v' w' ho' hg' hmv

/-- a row stands while a cell of a block that it does not reach is written -/
theorem OwnG.setCell {α : Type} {E : Enc α} {w : World} {base lo e g o : Nat} {v x : Value} {l : List α} (h : OwnG E w base lo e v l) (hb : g < lo) (hv : v.ownBlock ≠ some g) : OwnG E (w.setCell ⟨g, o, none⟩ x) base lo e v l := by
  obtain ⟨us, h1, h2⟩ := h
  have hz : (w.setCell ⟨g, o, none⟩ x).heap.size = w.heap.size := by simp [World.setCell]
  refine ⟨us, ownsRow_keep h1 (fun g' hg' => ?_), ?_⟩
  · exact RowKit.Below.heap_setCell _ _ _ _ (by intro hh; apply hv; rw [hg', hh])
  · refine (h2.keep (w' := w.setCell ⟨g, o, none⟩ x) fun p hp => ?_).more fun k hk => ⟨hk.1, by rw [hz]; exact hk.2.1, hk.2.2⟩
    exact World.cell?_of_block (RowKit.Below.heap_setCell _ _ _ _ (by have := hp.1; show p.block ≠ g; omega))

end Go.Proofs.YtmdljknlbmlacabGreatDoor
