/- ratebookkeep.spans: package span answers at all. No condition. -/
import Derived.Test.YtmdljknlbmlacaaKeepSpan
import Derived.Test.YtmdljknlbmlacaaSpanNorm
namespace Go.Proofs.Ytmdljknlbmlacaa
open Go.RowKit

theorem norm_ex : normL [(5, 9), (1, 4)] = [(1, 9)] := by
  refine good_unique (normL_good _).1 (b := [(1, 9)]) (L' := -1000002) (by rfl) fun n => ?_
  rw [(normL_good _).2, Bool.eq_iff_iff]
  simp [hasB]
  omega
theorem own_lit (w : World) (l : List (Int × Int)) (cs : Array Value) (h : cs.toList = cellsR l) (hl : l.length ≤ maxLen) : OwnR (w.alloc (.cells cs 61)) w.heap.size 61 (.slice (some ⟨w.heap.size, 0, none⟩) l.length l.length) l := by
  have := World.ownsRow_lit (base := w.heap.size) (e := 61) (size := 2) w cs l.length (Nat.le_refl _) hl (by rw [← Array.length_toList, h, cellsR_length])
  rw [h] at this
  exact this

set_option maxHeartbeats 400000 in
theorem keep_spans (w : World) :
    Calls Try.prog 28 #[] w fun e w' => e = .returned (.bool true) ∧ Below w.heap.size w w' := by
  go_enter Try.func28, Try.ntmps28
  go_wp2_with fail
  refine (span_Norm [(5, 9), (1, 4)] _ _ (own_lit w [(5, 9), (1, 4)] _ rfl (by unfold maxLen; simp)).slOld (by simp)).mono ?_
  rintro e w1 ⟨v1, rfl, ho1, hg1, _⟩
  rw [norm_ex] at ho1
  have hb1 : Below w.heap.size w w1 := below_next ((Below.refl _ _).alloc (Nat.le_refl _) _) (by simp) (below_of_grown hg1 (Nat.le_refl _) (fun _ h => by cases h))
  obtain ⟨A, c, rfl, hc1, hc2⟩ := ho1.form'
  obtain ⟨b, o, x, y, rfl, _, hx, h1, h2⟩ := ho1.sl.rng_at (k := 0) (by simp)
  have hx' := hx.out
  simp at hx'
  obtain ⟨rfl, rfl⟩ := hx'
  have HS := Lib.hid ho1.slOld
  clear ho1 hg1 hx
  have h1' : w1.cell? ⟨b, o, none⟩ = some (.int .i64 1) := by simpa using h1
  have h2' : w1.cell? ⟨b, o + 1, none⟩ = some (.int .i64 9) := by simpa using h2
  clear h1 h2
  have heq := fun w => eqRange 1 9 1 9 w
  go_wp2_with fail
  refine (span_Has [(1, 9)] _ 4 _ HS.out).mono ?_
  rintro e w2 ⟨rfl, hb2⟩
  rw [show hasB [(1, 9)] 4 = true from rfl]
  have HS2 := Lib.hid ((HS.out.below (fun _ h => h) hb2).more (S' := Old w2) fun _ h => Nat.lt_of_lt_of_le h hb2.size)
  go_wp2_with fail
  refine (span_Size [(1, 9)] _ _ HS2.out (by simp)).mono ?_
  rintro e w3 ⟨rfl, hb3⟩
  rw [show sumL (normL [(1, 9)]) = 9 from by rw [normL_of_good (by rfl)]; rfl]
  go_wp2
  go_ret
  exact ⟨rfl, below_next (below_next hb1 hb1.size hb2) (Nat.le_trans hb1.size hb2.size) hb3⟩

end Go.Proofs.Ytmdljknlbmlacaa
