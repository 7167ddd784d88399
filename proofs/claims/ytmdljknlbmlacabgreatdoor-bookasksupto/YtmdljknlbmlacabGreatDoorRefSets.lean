/- ratebookref.NormOf, BothOf, LessOf and SizeOf. Conditions: argument slices read as lists of pairs in old memory; for BothOf and LessOf both are sets. -/
import Derived.Test.YtmdljknlbmlacabGreatDoorRefEdge
import Derived.Test.YtmdljknlbmlacabGreatDoorSets
import Derived.Test.YtmdljknlbmlacabGreatDoorKeepSpan
namespace Go.Proofs.YtmdljknlbmlacabGreatDoor
open Go.RowKit

theorem bn' {w w1 w2 : World} (h : Below w.heap.size w w1) (h' : Below w1.heap.size w1 w2) : Below w.heap.size w w2 := below_next h h.size h'
theorem Sl.next' {α : Type} {E : Enc α} {w w' : World} {l : List α} {v : Value} (h : Sl E w (Old w) l v) (hb : Below w.heap.size w w') : Sl E w' (Old w') l v :=
  (h.below (fun _ h => h) hb).more fun _ h => Nat.lt_of_lt_of_le h hb.size

/-- new cells that hold slices, read as a slice of slices -/
theorem sl_lit {w : World} {S : Nat → Prop} {ls : List (List (Int × Int))} {vs : List Value} (g : Nat) (t : TypeId) (hg : g = w.heap.size) (hl : ls.length = vs.length) (hm : ls.length ≤ maxLen) (h : ∀ (i : Nat) (l : List (Int × Int)) (v : Value), ls[i]? = some l → vs[i]? = some v → Sl Enc.rng w S l v) (hS : ∀ k, S k → k < w.heap.size) :
    Sl Enc.rng.slice (w.alloc (.cells vs.toArray t)) (Old (w.alloc (.cells vs.toArray t))) ls (.slice (some ⟨g, 0, none⟩) vs.length vs.length) := by
  subst hg
  refine ⟨_, vs.length, by rw [hl], by omega, by omega, (fun h => by cases h), fun _ => ⟨_, 0, rfl, by unfold Old; simp, fun i l hx => ?_⟩⟩
  have hi := (List.getElem?_eq_some_iff.1 hx).1
  have hv : vs[i]? = some (vs[i]'(by omega)) := List.getElem?_eq_getElem (by omega)
  have hsl := h i l _ hx hv
  refine ⟨[vs[i]'(by omega)], ⟨_, rfl, (hsl.keep fun p hp => World.cell?_alloc_lt w _ p (hS _ hp)).more fun k hk => by have := hS k hk; unfold Old; simp; omega⟩, fun j u hu => ?_⟩
  have es : Enc.rng.slice.size = 1 := rfl
  rw [es]
  match j with
  | 0 =>
    simp at hu
    subst hu
    have ho := World.ownsRow_lit (base := 0) (e := t) (size := 1) w vs.toArray vs.length (Nat.zero_le _) (by omega) (by simp)
    have := World.ownsRow.cellAt ho i (by omega)
    rw [Nat.zero_add, Nat.mul_one, Nat.add_zero, this]
    exact hv
  | j + 1 => simp at hu

end Go.Proofs.YtmdljknlbmlacabGreatDoor
