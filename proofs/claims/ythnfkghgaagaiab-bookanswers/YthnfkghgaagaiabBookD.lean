/- book.Order, as a Lean function of what its argument reads as. Conditions: the book reads as lists in old memory; the names of its tables are different; names and lists fit into 2^47 bytes. -/
import Derived.Test.YthnfkghgaagaiabBookC
import Derived.Deep.RegionLaw
namespace Go.Proofs.Ythnfkghgaagaiab
open Go.RowKit Go.Shelf

set_option maxHeartbeats 1000000 in
theorem index_order (wait : List ByteArray) (l : List TabD) (v : Value) (w : World) (M mb n c : Nat) (h : WaitAt w M mb n c wait) (hl : Sl Enc.tab w (Old w) l v) (hs : ∀ t, t ∈ l → smallT t) :
    Calls Try.prog 41 #[v, .func (.func 42) #[] #[.pointer (some ⟨M, 0, none⟩)]] w fun e w' => ((e = .returned (.int .i64 (-1)) ∧ Hid (l.find? (readyT wait) = none)) ∨ ∃ (k : Nat) (t : TabD), e = .returned (.int .i64 k) ∧ k < l.length ∧ Hid (l[k]? = some t) ∧ Hid (l.find? (readyT wait) = some t)) ∧ Below w.heap.size w w' := by
  have H := Lib.hid hl
  have HW := Lib.hid h
  have HS := Lib.hid hs
  obtain ⟨A, cp, rfl, hc1, hc2, -⟩ := hl
  unfold maxLen at hc2
  clear h hs
  have eg : ∀ args w, (callFunc 42 args).run Try.prog w = .ok (.enter 42 args) w := enters_of Try.func42 (by kernel_rfl) rfl
  go_enter Try.func41, Try.ntmps41
  go_wp2
  go_loopw [8] (fun i wr => ∃ k : Nat, k ≤ l.length ∧ i = .int .i64 k ∧ Hid ((l.take k).find? (readyT wait) = none) ∧ Below w.heap.size w wr) (fun i _ => l.length - (intOf i).toNat)
  case atStart => exact ⟨0, Nat.zero_le _, rfl, rfl, Below.refl _ _⟩
  case round =>
    obtain ⟨k, hk, rfl, hf, hb⟩ := hrel
    by_cases hlt : k < l.length
    · obtain ⟨b, o, nm, pol, comp, ins, rules, vi, vr, rfl, _, hx, c1, c2, c3, c4, c5, hi, hr⟩ := (H.out.onOld hb).tab_at hlt
      have HT : Hid (TabAt wr (Old wr) ⟨nm, pol, comp, ins, rules⟩ (.agg #[.string nm, .int .i64 pol, .bool comp, vi, vr])) := ⟨_, _, rfl, hi, hr⟩
      obtain ⟨Ai, ci, rfl, -, -⟩ := hi.form
      obtain ⟨Ar, cr, rfl, -, -⟩ := hr.form
      clear hi hr
      have HX := Lib.hid (HS.out _ (List.mem_of_getElem? hx.out))
      have HW1 := Lib.hid (HW.out.next hb)
      go_wp2_with fail
      refine (order_fn wait ⟨nm, pol, comp, ins, rules⟩ _ _ M mb n c HW1.out HT.out HX.out).mono ?_
      rintro e w1 ⟨rfl, hb1⟩
      have hb01 := bx hb hb1
      cases hq : readyT wait ⟨nm, pol, comp, ins, rules⟩
      · have HQ := Lib.hid (find_more hf.out hx.out hq)
        clear hq
        go_wp2
        exact ⟨⟨k + 1, by omega, by go_num, HQ, hb01⟩, by simp [intOf]; omega⟩
      · have HQ := Lib.hid (find_at hf.out hx.out hq)
        clear hq
        go_wp2
        go_ret
        exact ⟨.inr ⟨k, _, rfl, hlt, hx, HQ⟩, hb01⟩
    · have e : l.take k = l := List.take_of_length_le (by omega)
      have hf' := hf.out
      rw [e] at hf'
      have HQ := Lib.hid hf'
      clear hf'
      go_wp2
      go_ret
      exact ⟨.inl ⟨rfl, HQ⟩, hb⟩

def lenV : Value → Nat
  | .slice _ n _ => n
  | _ => 0
theorem str_under : Try.prog.underlying 22 = some (.slice 9) := by kernel_rfl
theorem str_info : (Try.prog.info? 9).map (fun i => (i.zero, i.size, i.bytes)) = some (some (.string ⟨#[]⟩), 1, 16) := by kernel_rfl
theorem cell_one_newS (w : World) (v : Value) (e : Nat) : ∀ j u, [v][j]? = some u → (w.alloc (.cells #[v] e)).cell? ((⟨w.heap.size, 0, none⟩ : Addr).add j) = some u := by
  intro j u hu
  match j with
  | 0 => simp at hu; subst hu; exact cell_new _ _ _ _ _ rfl
  | j + 1 => simp at hu
def OrderPost (R : Option (List ByteArray)) (w : World) (e : Ending) (w' : World) : Prop := ∃ v, e = .returned (.tuple #[v, .bool R.isSome]) ∧ Sl Enc.str w' (From w.heap.size w') (R.getD []) v ∧ Below w.heap.size w w'
theorem wait_len {w : World} {b n c : Nat} {f : ByteArray → Option Value} (h : MapS Try.prog 9 w b n c f) (ty : TypeId) : (Builtin.len_ #[61] ty #[.map (some b)]).run Try.prog w = .ok (.int .i64 c) w := h.len b_under ty
theorem names_take {l : List TabD} {k : Nat} {t : TabD} (h : l[k]? = some t) : namesT (l.take (k + 1)) = namesT (l.take k) ++ [t.name] := by unfold namesT; rw [take_at h, List.map_append]; rfl
theorem names_new {l : List TabD} (hn : (namesT l).Nodup) {k : Nat} {t : TabD} (h : l[k]? = some t) : t.name ∉ namesT (l.take k) := by
  intro hm
  have e : l = l.take k ++ t :: l.drop (k + 1) := by rw [← drop_at h, List.take_append_drop]
  rw [e] at hn
  unfold namesT at hn hm
  rw [List.map_append, List.nodup_append] at hn
  exact hn.2.2 _ hm t.name (by simp) rfl
theorem WaitAt.put {w w' : World} {M mb n c : Nat} {wait : List ByteArray} {s : ByteArray} (h : WaitAt w M mb n c wait) (hne : M ≠ mb) (hs : s ∉ wait) (hm : MapS Try.prog 9 w' mb (n + 1) (if (boolF wait s).isSome then c else c + 1) (fun x => if sameS x s then some (.bool true) else boolF wait x)) (hg : w.grownBy w' (some mb)) : WaitAt w' M mb (n + 1) (c + 1) (wait ++ [s]) := by
  rw [boolF_some, hasN_false.2 hs] at hm
  refine ⟨(World.cell?_of_block (a := ⟨M, 0, none⟩) (hg.block _ h.lt (by intro e; injection e with e; exact hne e))).trans h.cell, Nat.lt_of_lt_of_le h.lt hg.size, hm.congr fun x => boolF_put wait s x⟩
theorem WaitAt.del {w w' : World} {M mb n c : Nat} {wait : List ByteArray} {s : ByteArray} (h : WaitAt w M mb n c wait) (hne : M ≠ mb) (hs : s ∈ wait) (hm : MapS Try.prog 9 w' mb n (if (boolF wait s).isSome then c - 1 else c) (fun x => if sameS x s then none else boolF wait x)) (hg : w.grownBy w' (some mb)) : WaitAt w' M mb n (c - 1) (dropN wait s) := by
  rw [boolF_some, hasN_iff.2 hs] at hm
  refine ⟨(World.cell?_of_block (a := ⟨M, 0, none⟩) (hg.block _ h.lt (by intro e; injection e with e; exact hne e))).trans h.cell, Nat.lt_of_lt_of_le h.lt hg.size, hm.congr fun x => boolF_del wait s x⟩
theorem WaitAt.kept {w w' : World} {M mb n c : Nat} {wait : List ByteArray} {row : Option Nat} (h : WaitAt w M mb n c wait) (hg : w.grownBy w' row) (h1 : some M ≠ row) (h2 : some mb ≠ row) : WaitAt w' M mb n c wait :=
  ⟨(World.cell?_of_block (a := ⟨M, 0, none⟩) (hg.block _ h.lt h1)).trans h.cell, Nat.lt_of_lt_of_le h.lt hg.size, h.map.kept hg h2⟩
/-- a write into an elder block leaves a row of the call's own as it is -/
theorem OwnG.aside {α : Type} {E : Enc α} {w w' : World} {base lo e g : Nat} {v : Value} {l : List α} (h : OwnG E w base lo e v l) (hg : w.grownBy w' (some g)) (hb : g < base) (hl : g < lo) : OwnG E w' base lo e v l := by
  have hlt := h.lt
  obtain ⟨us, h1, h2⟩ := h
  refine ⟨us, ownsRow_keep h1 (fun k hk => hg.block k (hlt k hk).2 (by intro e; injection e with e; have := (hlt k hk).1; omega)), ?_⟩
  exact (h2.keep (w' := w') fun p hp => World.cell?_of_block (hg.block _ hp.2.1 (by intro e; injection e with e; have := hp.1; omega))).more fun k hk => ⟨hk.1, Nat.lt_of_lt_of_le hk.2.1 hg.size, hk.2.2⟩

end Go.Proofs.Ythnfkghgaagaiab
