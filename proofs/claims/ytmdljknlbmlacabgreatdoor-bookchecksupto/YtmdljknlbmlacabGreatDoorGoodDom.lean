/- text.GoodDomain, as a Lean function of what its argument reads as. Condition: the name has at most 2^47 bytes. -/
import Derived.Test.YtmdljknlbmlacabGreatDoorTxt
import Derived.Test.YtmdljknlbmlacabGreatDoorTableF
namespace Go.Proofs.YtmdljknlbmlacabGreatDoor
open Go.RowKit

set_option maxRecDepth 100000 in
set_option maxHeartbeats 1000000 in
theorem text_GoodDomain (nm : ByteArray) (lo hi : Int) (w : World) (hs : nm.size ≤ 140737488355328) :
    Calls Tryz.prog 50 #[.agg #[.string nm, .int .i64 lo, .int .i64 hi]] w fun e w' => e = .returned (.bool (goodD (nm, lo, hi))) ∧ Below w.heap.size w w' := by
  have hw0 := below_alloc1 w (.cells #[.string nm, .int .i64 lo, .int .i64 hi] 69)
  have C0 := Lib.hid (Cs.new w [.string nm, .int .i64 lo, .int .i64 hi] 69)
  have c0 := C0.out.at 0 rfl
  have c1 := C0.out.at 1 rfl
  have c2 := C0.out.at 2 rfl
  have HE : Hid (goodD (nm, lo, hi) = (nameB nm && decide (-1000000 ≤ lo) && decide (lo ≤ hi) && decide (hi ≤ 1000000))) := rfl
  generalize goodD (nm, lo, hi) = R at *
  go_enter Tryz.func50, Tryz.ntmps50
  go_wp2_with fail
  change Cs (w.alloc (.cells #[.string nm, .int .i64 lo, .int .i64 hi] 69)) _ _ at C0
  generalize w.alloc (.cells #[.string nm, .int .i64 lo, .int .i64 hi] 69) = w0 at *
  refine (table_Named nm _ hs).mono ?_
  rintro e w1 ⟨rfl, hb1⟩
  have C1 := Lib.hid (Cs.next C0 hb1)
  have d1 := C1.out.at 1 rfl
  have d2 := C1.out.at 2 rfl
  have B1 := Lib.hid (bx hw0 hb1)
  clear c0 c1 c2 hw0 hb1
  cases hN : nameB nm
  · have HE' : Hid (R = false) := by show R = false; rw [HE.out, hN]; rfl
    clear HE
    go_wp2
    go_ret
    exact ⟨ret_bool HE'.out.symm, B1.out⟩
  · by_cases h1 : -1000000 ≤ lo
    · by_cases h2 : lo ≤ hi
      · by_cases h3 : hi ≤ 1000000
        · have HE' : Hid (R = true) := by show R = true; rw [HE.out, hN]; simp [h1, h2, h3]
          clear HE
          go_wp2
          go_ret
          exact ⟨ret_bool HE'.out.symm, B1.out⟩
        · have HE' : Hid (R = false) := by show R = false; rw [HE.out, hN]; simp [h1, h2, h3]
          have h3' : 1000000 < hi := by omega
          clear HE
          go_wp2
          go_ret
          exact ⟨ret_bool (by rw [HE'.out]; simp [h3]), B1.out⟩
      · have HE' : Hid (R = false) := by show R = false; rw [HE.out, hN]; simp [h1, h2]
        have h2' : hi < lo := by omega
        clear HE
        go_wp2
        go_ret
        exact ⟨ret_bool HE'.out.symm, B1.out⟩
    · have HE' : Hid (R = false) := by show R = false; rw [HE.out, hN]; simp [h1]
      have h1' : lo < -1000000 := by omega
      clear HE
      go_wp2
      go_ret
      exact ⟨ret_bool HE'.out.symm, B1.out⟩

end Go.Proofs.YtmdljknlbmlacabGreatDoor
