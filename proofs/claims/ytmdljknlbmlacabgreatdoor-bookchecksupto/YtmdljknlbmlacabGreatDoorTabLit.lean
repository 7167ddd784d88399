/- A table that a literal lays. No condition. -/
import Derived.Test.YtmdljknlbmlacabGreatDoorTableF
namespace Go.Proofs.YtmdljknlbmlacabGreatDoor
open Go.RowKit

theorem lit_old {α : Type} {E : Enc α} (w : World) (l : List α) (cs : Array Value) (e : Nat) (hm : l.length ≤ maxLen) (hs : cs.size = l.length * E.size) (he : Elems E w (Old w) l cs.toList) :
    Sl E (w.alloc (.cells cs e)) (Old (w.alloc (.cells cs e))) l (.slice (some ⟨w.heap.size, 0, none⟩) l.length l.length) := by
  have h : OwnG E (w.alloc (.cells cs e)) 0 0 e (.slice (some ⟨w.heap.size, 0, none⟩) l.length l.length) l :=
    OwnG.lit w l cs (Nat.zero_le _) hm hs ((he.keep (w' := w.alloc (.cells cs e)) fun p hp => (below_alloc1 w (.cells cs e)).cell hp).more fun k hk => ⟨Nat.zero_le _, hk⟩)
  exact h.slOld (Nat.le_refl _)
theorem maxLen_ge {n : Nat} (h : n ≤ 1000) : n ≤ maxLen := by unfold maxLen; omega

def tabT : TabD := ⟨⟨#[97]⟩, 5, false, [⟨#[98]⟩], [([(false, [(1, 4)])], 7), ([(false, [])], 5)]⟩
theorem tabT_two : saysV tabT [2] = (7, true, 0) := by decide +kernel
theorem tabT_nine : saysV tabT [9] = (5, true, 0) := by decide +kernel
theorem tabT_small : smallT tabT := by
  refine ⟨by decide, fun s hs => ?_, by decide⟩
  have : s = ⟨#[98]⟩ := by simpa [tabT] using hs
  subst this; decide

/-- the words of the literal, world by world -/
def litW (w : World) : World :=
  (((((w.alloc (.cells #[.string ⟨#[98]⟩] 9)).alloc (.cells #[.int .i64 1, .int .i64 4] 107)).alloc (.cells #[.bool false, .slice (some ⟨w.heap.size + 1, 0, none⟩) 1 1] 79)).alloc (.cells #[.bool false, .slice none 0 0] 79)).alloc
    (.cells #[.slice (some ⟨w.heap.size + 1 + 1, 0, none⟩) 1 1, .int .i64 7, .slice (some ⟨w.heap.size + 1 + 1 + 1, 0, none⟩) 1 1, .int .i64 5] 82)).alloc
    (.cells #[.string ⟨#[97]⟩, .int .i64 5, .bool false, .slice (some ⟨w.heap.size, 0, none⟩) 1 1, .slice (some ⟨w.heap.size + 1 + 1 + 1 + 1, 0, none⟩) 2 2] 59)
def litV (w : World) : Value := .agg #[.string ⟨#[97]⟩, .int .i64 5, .bool false, .slice (some ⟨w.heap.size, 0, none⟩) 1 1, .slice (some ⟨w.heap.size + 1 + 1 + 1 + 1, 0, none⟩) 2 2]
theorem lit_table (w : World) : TabAt (litW w) (Old (litW w)) tabT (litV w) ∧ Below w.heap.size w (litW w) ∧ (litW w).heap.size = w.heap.size + 1 + 1 + 1 + 1 + 1 + 1 := by
  have s0 := lit_old (E := Enc.str) w [⟨#[98]⟩] #[.string ⟨#[98]⟩] 9 (maxLen_ge (by decide)) rfl (Elems.one rfl)
  have b0 := below_alloc1 w (.cells #[.string ⟨#[98]⟩] 9)
  have z0 : (w.alloc (.cells #[.string ⟨#[98]⟩] 9)).heap.size = w.heap.size + 1 := by simp
  unfold litW
  generalize w.alloc (.cells #[.string ⟨#[98]⟩] 9) = w0 at *
  have s1 := lit_old (E := Enc.rng) w0 [(1, 4)] #[.int .i64 1, .int .i64 4] 107 (maxLen_ge (by decide)) rfl (Elems.one rfl)
  have b1 := below_alloc1 w0 (.cells #[.int .i64 1, .int .i64 4] 107)
  have z1 : (w0.alloc (.cells #[.int .i64 1, .int .i64 4] 107)).heap.size = w.heap.size + 1 + 1 := by simp [z0]
  rw [z0] at s1
  generalize w0.alloc (.cells #[.int .i64 1, .int .i64 4] 107) = w1 at *
  have s2 := lit_old (E := Enc.cell) w1 [(false, [(1, 4)])] #[.bool false, .slice (some ⟨w.heap.size + 1, 0, none⟩) 1 1] 79 (maxLen_ge (by decide)) rfl (Elems.one (Enc.cell_rd.2 ⟨_, rfl, s1⟩))
  have b2 := below_alloc1 w1 (.cells #[.bool false, .slice (some ⟨w.heap.size + 1, 0, none⟩) 1 1] 79)
  have z2 : (w1.alloc (.cells #[.bool false, .slice (some ⟨w.heap.size + 1, 0, none⟩) 1 1] 79)).heap.size = w.heap.size + 1 + 1 + 1 := by simp [z1]
  rw [z1] at s2
  generalize w1.alloc (.cells #[.bool false, .slice (some ⟨w.heap.size + 1, 0, none⟩) 1 1] 79) = w2 at *
  have s3 := lit_old (E := Enc.cell) w2 [(false, [])] #[.bool false, .slice none 0 0] 79 (maxLen_ge (by decide)) rfl (Elems.one (Enc.cell_rd.2 ⟨_, rfl, Sl.nil⟩))
  have b3 := below_alloc1 w2 (.cells #[.bool false, .slice none 0 0] 79)
  have z3 : (w2.alloc (.cells #[.bool false, .slice none 0 0] 79)).heap.size = w.heap.size + 1 + 1 + 1 + 1 := by simp [z2]
  rw [z2] at s3
  generalize w2.alloc (.cells #[.bool false, .slice none 0 0] 79) = w3 at *
  have s4 := lit_old (E := Enc.rule) w3 [([(false, [(1, 4)])], 7), ([(false, [])], 5)] #[.slice (some ⟨w.heap.size + 1 + 1, 0, none⟩) 1 1, .int .i64 7, .slice (some ⟨w.heap.size + 1 + 1 + 1, 0, none⟩) 1 1, .int .i64 5] 82 (maxLen_ge (by decide)) rfl
    (Elems.append (us := [.slice (some ⟨w.heap.size + 1 + 1, 0, none⟩) 1 1, .int .i64 7]) (l := [([(false, [(1, 4)])], 7)]) (m := [([(false, [])], 5)]) (Elems.one (Enc.rule_rd.2 ⟨_, rfl, s2.onOld b3⟩)) (Elems.one (Enc.rule_rd.2 ⟨_, rfl, s3⟩)) rfl)
  have b4 := below_alloc1 w3 (.cells #[.slice (some ⟨w.heap.size + 1 + 1, 0, none⟩) 1 1, .int .i64 7, .slice (some ⟨w.heap.size + 1 + 1 + 1, 0, none⟩) 1 1, .int .i64 5] 82)
  have z4 : (w3.alloc (.cells #[.slice (some ⟨w.heap.size + 1 + 1, 0, none⟩) 1 1, .int .i64 7, .slice (some ⟨w.heap.size + 1 + 1 + 1, 0, none⟩) 1 1, .int .i64 5] 82)).heap.size = w.heap.size + 1 + 1 + 1 + 1 + 1 := by simp [z3]
  rw [z3] at s4
  generalize w3.alloc (.cells #[.slice (some ⟨w.heap.size + 1 + 1, 0, none⟩) 1 1, .int .i64 7, .slice (some ⟨w.heap.size + 1 + 1 + 1, 0, none⟩) 1 1, .int .i64 5] 82) = w4 at *
  have b5 := below_alloc1 w4 (.cells #[.string ⟨#[97]⟩, .int .i64 5, .bool false, .slice (some ⟨w.heap.size, 0, none⟩) 1 1, .slice (some ⟨w.heap.size + 1 + 1 + 1 + 1, 0, none⟩) 2 2] 59)
  refine ⟨⟨_, _, rfl, s0.onOld (bx b1 (bx b2 (bx b3 (bx b4 b5)))), s4.onOld b5⟩, bx b0 (bx b1 (bx b2 (bx b3 (bx b4 b5)))), by simp [z4]⟩
theorem lit_cells (w : World) (j : Nat) (v : Value) (h : (#[.string ⟨#[97]⟩, .int .i64 5, .bool false, .slice (some ⟨w.heap.size, 0, none⟩) 1 1, .slice (some ⟨w.heap.size + 1 + 1 + 1 + 1, 0, none⟩) 2 2] : Array Value)[j]? = some v) :
    (litW w).cell? ⟨w.heap.size + 1 + 1 + 1 + 1 + 1, j, none⟩ = some v := by
  unfold litW
  have z : ∀ (x : World) (o : Obj), (x.alloc o).heap.size = x.heap.size + 1 := fun x o => by simp
  have := cell_new (((((w.alloc (.cells #[.string ⟨#[98]⟩] 9)).alloc (.cells #[.int .i64 1, .int .i64 4] 107)).alloc (.cells #[.bool false, .slice (some ⟨w.heap.size + 1, 0, none⟩) 1 1] 79)).alloc (.cells #[.bool false, .slice none 0 0] 79)).alloc
    (.cells #[.slice (some ⟨w.heap.size + 1 + 1, 0, none⟩) 1 1, .int .i64 7, .slice (some ⟨w.heap.size + 1 + 1 + 1, 0, none⟩) 1 1, .int .i64 5] 82)) _ 59 j v h
  rw [z, z, z, z, z] at this
  exact this
theorem lit_ints (w : World) (n : Int) : Sl Enc.int (w.alloc (.cells #[.int .i64 n] 3)) (Old (w.alloc (.cells #[.int .i64 n] 3))) [n] (.slice (some ⟨w.heap.size, 0, none⟩) 1 1) :=
  lit_old (E := Enc.int) w [n] #[.int .i64 n] 3 (maxLen_ge (by simp)) rfl (Elems.one rfl)

end Go.Proofs.YtmdljknlbmlacabGreatDoor
