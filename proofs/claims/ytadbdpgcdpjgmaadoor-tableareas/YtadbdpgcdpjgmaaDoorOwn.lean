/- Appending to a row of the call's own, with a word on where the new row lies. Conditions: the row is the call's own and fits into 2^47 bytes. -/
import Derived.Test.YtadbdpgcdpjgmaaDoorMem
import Derived.ArgAppend
namespace Go.Proofs.YtadbdpgcdpjgmaaDoor
open Go.RowKit

/-- the new value lies in the old one's block, or in a new one -/
def Moved (w : World) (v v' : Value) : Prop := ∀ g, v'.ownBlock = some g → v.ownBlock = some g ∨ w.heap.size ≤ g
theorem Moved.refl (w : World) (v : Value) : Moved w v v := fun _ h => .inl h
theorem Moved.later {w w2 : World} {v v' : Value} (h : Moved w2 v v') (hs : w.heap.size ≤ w2.heap.size) : Moved w v v' :=
  fun g hg => (h g hg).imp id (fun h => Nat.le_trans hs h)
theorem Moved.trans {w w2 : World} {v v2 v3 : Value} (h : Moved w v v2) (h' : Moved w2 v2 v3) (hs : w.heap.size ≤ w2.heap.size) : Moved w v v3 := by
  intro g hg
  rcases h' g hg with h1 | h1
  · exact h g h1
  · exact .inr (Nat.le_trans hs h1)

theorem wpList_append_mine {P : Program} (w : World) {ops : Array Oper} {rest : List Oper} {o : Oper} {a : Act} {Q : Exit → Act → World → Prop} (hgd : o.guard = none) (s x : Operand) (t : TypeId)
    (ho : o.op = .call { callee := .builtin .append, args := #[s, x], argTypes := #[t, t] })
    (base : Nat) (e : TypeId) (size bytes : Nat) (z : Value) (ht : P.underlying t = some (.slice e)) (hinfo : (P.info? e).map (fun i => (i.zero, i.size, i.bytes)) = some (some z, size, bytes)) (hzs : z.cells.size = size) (hsz : 0 < size)
    (v : Value) (n : Nat) (xs : List Value) (hs : a.eval s = v) (hown : w.ownsRow base e size v n xs)
    (ad : Addr) (m c : Nat) (news : List Value) (hx : a.eval x = .slice (some ad) m c) (hl : news.length = m * size) (hnews : ∀ j u, news[j]? = some u → w.cell? (ad.add j) = some u) (h1 : ∀ u ∈ news, u.oneCell' = true)
    (h63 : n + m ≤ maxLen) (hbytes : (n + m) * bytes ≤ 140737488355328) (hbase : base ≤ w.heap.size) (hm : 0 < m)
    (h : ∀ v' w', w'.ownsRow base e size v' (n + m) (xs ++ news) → w.grownBy w' v.ownBlock → Moved w v v' → wpList P ops Q rest (a.put o.dst v') w') : wpList P ops Q (o :: rest) a w := by
  obtain ⟨i, hi, hz0, hz1, hz2⟩ := info_parts hinfo
  have up : ∀ {w' : World} {v' : Value} {k : Nat} {ys : List Value}, w'.ownsRow w.heap.size e size v' k ys → w'.ownsRow base e size v' k ys ∧ (∀ g, v'.ownBlock = some g → w.heap.size ≤ g) := by
    intro w' v' k ys ho'
    refine ⟨⟨ho'.1, ?_⟩, fun g hg => (ho'.lt g hg).1⟩
    rcases ho'.2 with h2 | ⟨g, cap, cur, h1, h2, h3⟩
    · exact .inl h2
    · exact .inr ⟨g, cap, cur, h1, Nat.le_trans hbase h2, h3⟩
  rcases hown.2 with ⟨rfl, rfl⟩ | ⟨g, cap, cur, rfl, hg1, hg2, hg3, hg4, hg5, hg6⟩
  · have hxs : xs = [] := List.length_eq_zero_iff.1 (by rw [hown.1]; simp)
    subst hxs
    refine wpList_append_grows w hgd s x t ho e i z size bytes ht hi hz0 hz1 hz2 hzs hsz none 0 0 [] hs (fun _ => ⟨rfl, rfl⟩) (by simp) (fun b hb => by cases hb) ad m c news hx hl hnews h1 (by omega) h63 hbytes ?_
    intro v' w' ho' hgr
    exact h v' w' (up ho').1 (World.grownBy.mono hgr) (fun g hg => .inr ((up ho').2 g hg))
  · by_cases hroom : n + m ≤ cap
    · refine wpList_append_fits w hgd s x t ho base e i size ht hi hz1 g n cap xs hs hown ad m c news hx hl hnews h1 hroom ?_
      intro w' ho' hgr
      exact h _ w' ho' hgr (fun g' hg' => .inl hg')
    · have hc := hown.cells (g := g) rfl
      refine wpList_append_grows w hgd s x t ho e i z size bytes ht hi hz0 hz1 hz2 hzs hsz (some ⟨g, 0, none⟩) n cap xs hs (fun h => by cases h) hown.1 (fun b hb j u hu => by injection hb with hb; subst hb; exact hc j u hu) ad m c news hx hl hnews h1 (by omega) h63 hbytes ?_
      intro v' w' ho' hgr
      exact h v' w' (up ho').1 (World.grownBy.mono hgr) (fun g hg => .inr ((up ho').2 g hg))

/-- one element of a slice of slices -/
theorem Sl.sl_at {α : Type} {E : Enc α} {w : World} {S : Nat → Prop} {l : List (List α)} {A : Option Addr} {n c : Nat} (h : Sl E.slice w S l (.slice A n c)) {k : Nat} (hk : k < l.length) :
    ∃ b o s u, A = some ⟨b, o, none⟩ ∧ S b ∧ Hid (l[k]? = some s) ∧ w.cell? ⟨b, o + k, none⟩ = some u ∧ Sl E w S s u := by
  obtain ⟨A, c, e, h2, h3, _, h4⟩ := h
  injection e with e1 e2 e3
  subst e1 e2 e3
  obtain ⟨b, o, rfl, h6, h7⟩ := h4 (by omega)
  obtain ⟨cs, ⟨u, rfl, hu⟩, h9⟩ := h7 k l[k] (List.getElem?_eq_getElem hk)
  refine ⟨b, o, l[k], u, rfl, h6, List.getElem?_eq_getElem hk, ?_, hu⟩
  have := h9 0 u rfl
  have es : E.slice.size = 1 := rfl
  rw [es, Nat.mul_one, Nat.add_zero] at this
  exact this

/-- a store into another block leaves the row as it is -/
theorem OwnR.setCell_other {w : World} {base e : Nat} {v : Value} {l : List (Int × Int)} (h : OwnR w base e v l) {p : Addr} (hp : v.ownBlock ≠ some p.block) (u : Value) : OwnR (w.setCell p u) base e v l := by
  refine ⟨h.1, ?_⟩
  rcases h.2 with h2 | ⟨g, cap, cur, rfl, h2, h3, h4⟩
  · exact .inl h2
  · refine .inr ⟨g, cap, cur, rfl, h2, ?_, h4⟩
    rw [Below.heap_setCell _ _ _ _ (by intro hg; subst hg; exact hp rfl)]
    exact h3

end Go.Proofs.YtadbdpgcdpjgmaaDoor
