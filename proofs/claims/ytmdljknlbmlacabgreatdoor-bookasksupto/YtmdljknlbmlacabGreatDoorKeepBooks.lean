/- The self-tests books of the two packages of laws return true; the book that their literal lays. No condition. -/
import Derived.Test.YtmdljknlbmlacabGreatDoorBookM
import Derived.Test.YtmdljknlbmlacabGreatDoorTabLit
namespace Go.Proofs.YtmdljknlbmlacabGreatDoor
open Go.RowKit

def dA : DomD := (⟨#[97]⟩, 0, 9)
def tB : TabD := ⟨⟨#[116]⟩, 7, false, [⟨#[97]⟩], [([(false, [])], 0)]⟩
def bkT : BookD := ⟨[dA], [tB]⟩
theorem bkT_four : askV bkT [4] = ([(⟨#[116]⟩, true, 1)], 0) := by decide +kernel
theorem bkT_small : smallB bkT := by
  refine ⟨fun d hd => ?_, fun t ht => ?_⟩
  · have : d = dA := by simpa [bkT] using hd
    subst this; decide
  · have : t = tB := by simpa [bkT] using ht
    subst this
    refine ⟨by decide, fun s hs => ?_, by decide⟩
    have : s = ⟨#[97]⟩ := by simpa [tB] using hs
    subst this; decide
/-- the words of the literal, world by world -/
def bkW (w : World) : World :=
  ((((((w.alloc (.cells #[.string ⟨#[97]⟩, .int .i64 0, .int .i64 9] 69)).alloc (.cells #[.string ⟨#[97]⟩] 9)).alloc (.cells #[.bool false, .slice none 0 0] 79)).alloc (.cells #[.slice (some ⟨w.heap.size + 1 + 1, 0, none⟩) 1 1, .int .i64 0] 82)).alloc (.cells #[.string ⟨#[116]⟩, .int .i64 7, .bool false, .slice (some ⟨w.heap.size + 1, 0, none⟩) 1 1, .slice (some ⟨w.heap.size + 1 + 1 + 1, 0, none⟩) 1 1] 59)).alloc (.cells #[.slice (some ⟨w.heap.size, 0, none⟩) 1 1, .slice (some ⟨w.heap.size + 1 + 1 + 1 + 1, 0, none⟩) 1 1] 25))
theorem lit_book (w : World) : BookAt (bkW w) (Old (bkW w)) bkT (.agg #[.slice (some ⟨w.heap.size, 0, none⟩) 1 1, .slice (some ⟨w.heap.size + 1 + 1 + 1 + 1, 0, none⟩) 1 1]) ∧ Below w.heap.size w (bkW w) ∧ (bkW w).heap.size = w.heap.size + 1 + 1 + 1 + 1 + 1 + 1 ∧ Cs (bkW w) (w.heap.size + 1 + 1 + 1 + 1 + 1) [.slice (some ⟨w.heap.size, 0, none⟩) 1 1, .slice (some ⟨w.heap.size + 1 + 1 + 1 + 1, 0, none⟩) 1 1] := by
  unfold bkW
  have s0 := lit_old (E := Enc.dom) w [dA] #[.string ⟨#[97]⟩, .int .i64 0, .int .i64 9] 69 (maxLen_ge (by decide)) rfl (Elems.one (Enc.dom_rd.2 rfl))
  have b0 := below_alloc1 w (.cells #[.string ⟨#[97]⟩, .int .i64 0, .int .i64 9] 69)
  have z0 : (w.alloc (.cells #[.string ⟨#[97]⟩, .int .i64 0, .int .i64 9] 69)).heap.size = w.heap.size + 1 := by simp
  generalize w.alloc (.cells #[.string ⟨#[97]⟩, .int .i64 0, .int .i64 9] 69) = w0 at *
  have s1 := lit_old (E := Enc.str) w0 [⟨#[97]⟩] #[.string ⟨#[97]⟩] 9 (maxLen_ge (by decide)) rfl (Elems.one (rfl))
  have b1 := below_alloc1 w0 (.cells #[.string ⟨#[97]⟩] 9)
  have z1 : (w0.alloc (.cells #[.string ⟨#[97]⟩] 9)).heap.size = w.heap.size + 1 + 1 := by simp [z0]
  rw [z0] at s1
  generalize w0.alloc (.cells #[.string ⟨#[97]⟩] 9) = w1 at *
  have s2 := lit_old (E := Enc.cell) w1 [(false, [])] #[.bool false, .slice none 0 0] 79 (maxLen_ge (by decide)) rfl (Elems.one (Enc.cell_rd.2 ⟨_, rfl, Sl.nil⟩))
  have b2 := below_alloc1 w1 (.cells #[.bool false, .slice none 0 0] 79)
  have z2 : (w1.alloc (.cells #[.bool false, .slice none 0 0] 79)).heap.size = w.heap.size + 1 + 1 + 1 := by simp [z1]
  rw [z1] at s2
  generalize w1.alloc (.cells #[.bool false, .slice none 0 0] 79) = w2 at *
  have s3 := lit_old (E := Enc.rule) w2 [([(false, [])], 0)] #[.slice (some ⟨w.heap.size + 1 + 1, 0, none⟩) 1 1, .int .i64 0] 82 (maxLen_ge (by decide)) rfl (Elems.one (Enc.rule_rd.2 ⟨_, rfl, s2⟩))
  have b3 := below_alloc1 w2 (.cells #[.slice (some ⟨w.heap.size + 1 + 1, 0, none⟩) 1 1, .int .i64 0] 82)
  have z3 : (w2.alloc (.cells #[.slice (some ⟨w.heap.size + 1 + 1, 0, none⟩) 1 1, .int .i64 0] 82)).heap.size = w.heap.size + 1 + 1 + 1 + 1 := by simp [z2]
  rw [z2] at s3
  generalize w2.alloc (.cells #[.slice (some ⟨w.heap.size + 1 + 1, 0, none⟩) 1 1, .int .i64 0] 82) = w3 at *
  have s4 := lit_old (E := Enc.tab) w3 [tB] #[.string ⟨#[116]⟩, .int .i64 7, .bool false, .slice (some ⟨w.heap.size + 1, 0, none⟩) 1 1, .slice (some ⟨w.heap.size + 1 + 1 + 1, 0, none⟩) 1 1] 59 (maxLen_ge (by decide)) rfl (Elems.one (Enc.tab_rd.2 ⟨_, _, rfl, s1.onOld (bx b2 b3), s3⟩))
  have b4 := below_alloc1 w3 (.cells #[.string ⟨#[116]⟩, .int .i64 7, .bool false, .slice (some ⟨w.heap.size + 1, 0, none⟩) 1 1, .slice (some ⟨w.heap.size + 1 + 1 + 1, 0, none⟩) 1 1] 59)
  have z4 : (w3.alloc (.cells #[.string ⟨#[116]⟩, .int .i64 7, .bool false, .slice (some ⟨w.heap.size + 1, 0, none⟩) 1 1, .slice (some ⟨w.heap.size + 1 + 1 + 1, 0, none⟩) 1 1] 59)).heap.size = w.heap.size + 1 + 1 + 1 + 1 + 1 := by simp [z3]
  rw [z3] at s4
  generalize w3.alloc (.cells #[.string ⟨#[116]⟩, .int .i64 7, .bool false, .slice (some ⟨w.heap.size + 1, 0, none⟩) 1 1, .slice (some ⟨w.heap.size + 1 + 1 + 1, 0, none⟩) 1 1] 59) = w4 at *
  have b5 := below_alloc1 w4 (.cells #[.slice (some ⟨w.heap.size, 0, none⟩) 1 1, .slice (some ⟨w.heap.size + 1 + 1 + 1 + 1, 0, none⟩) 1 1] 25)
  have c5 := Cs.new w4 [.slice (some ⟨w.heap.size, 0, none⟩) 1 1, .slice (some ⟨w.heap.size + 1 + 1 + 1 + 1, 0, none⟩) 1 1] 25
  rw [z4] at c5
  exact ⟨⟨_, _, rfl, s0.onOld (bx b1 (bx b2 (bx b3 (bx b4 b5)))), s4.onOld b5⟩, bx b0 (bx b1 (bx b2 (bx b3 (bx b4 b5)))), by simp [z4], c5⟩

set_option maxRecDepth 100000 in
set_option maxHeartbeats 1000000 in
theorem law_books (w : World) : Calls Tryz.prog 11 #[] w fun e w' => e = .returned (.bool true) ∧ Below w.heap.size w w' := by
  obtain ⟨ht, hb, hz, hc⟩ := lit_book w
  have k0 := hc.at 0 rfl
  have k1 := hc.at 1 rfl
  clear hc
  unfold bkW at ht hb hz k0 k1
  go_enter Tryz.func11, Tryz.ntmps11
  go_wp2_with fail
  generalize ((((((w.alloc (.cells #[.string ⟨#[97]⟩, .int .i64 0, .int .i64 9] 69)).alloc (.cells #[.string ⟨#[97]⟩] 9)).alloc (.cells #[.bool false, .slice none 0 0] 79)).alloc (.cells #[.slice (some ⟨w.heap.size + 1 + 1, 0, none⟩) 1 1, .int .i64 0] 82)).alloc (.cells #[.string ⟨#[116]⟩, .int .i64 7, .bool false, .slice (some ⟨w.heap.size + 1, 0, none⟩) 1 1, .slice (some ⟨w.heap.size + 1 + 1 + 1, 0, none⟩) 1 1] 59)).alloc (.cells #[.slice (some ⟨w.heap.size, 0, none⟩) 1 1, .slice (some ⟨w.heap.size + 1 + 1 + 1 + 1, 0, none⟩) 1 1] 25)) = w6 at *
  have hi := lit_ints w6 4
  rw [hz] at hi
  have hb6 := below_alloc1 w6 (.cells #[.int .i64 4] 3)
  refine (book_Ask bkT [4] _ _ _ (ht.onOld hb6) hi bkT_small).mono ?_
  rintro e w7 ⟨v7, rfl, hn7, hb7⟩
  rw [bkT_four] at hn7 ⊢
  simp only at hn7 ⊢
  have hb07 := bx hb (bx hb6 hb7)
  obtain ⟨A7, c7, rfl, -, -⟩ := hn7.form
  obtain ⟨b7, o7, nm, f, m, rfl, -, hx, q0, q1, q2⟩ := hn7.ans_at (k := 0) (by simp)
  have hx' := hx.out
  simp at hx'
  obtain ⟨rfl, rfl, rfl⟩ := hx'
  rw [Nat.zero_mul, Nat.add_zero] at q0 q1 q2
  clear hn7 hi hx k0 k1 ht hb hz hb6 hb7
  simp only [List.length_cons, List.length_nil]
  go_wp2
  go_ret
  exact ⟨rfl, hb07⟩

end Go.Proofs.YtmdljknlbmlacabGreatDoor
