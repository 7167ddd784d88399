/- ratebooklaw.SpanNorms returns true. Conditions: the argument takes at most 2^47 bytes, and its upper ends are ints. -/
import Derived.Test.YtmdljknlbmlacaaRefSets2
import Derived.Test.YtmdljknlbmlacaaLawSpanSplits
namespace Go.Proofs.Ytmdljknlbmlacaa
open Go.RowKit

set_option maxHeartbeats 2000000 in
theorem law_SpanNorms (l : List (Int × Int)) (v : Value) (n : Int) (w : World) (h : Sl Enc.rng w (Old w) l v) (hl : l.length * 16 ≤ 140737488355328) (hw : loIn l) :
    Calls Try.prog 3 #[v, .int .i64 n] w fun e w' => e = .returned (.bool true) ∧ Below w.heap.size w w' := by
  have H := Lib.hid h
  have HW := Lib.hid hw
  clear h hw
  go_enter Try.func3, Try.ntmps3
  go_wp2_with fail
  refine (law_ranges l v _ H.out hl).mono ?_
  rintro e wz1 hpz
  obtain ⟨vc, rfl, hxz, hbz⟩ := hpz.below
  have c_1 := Lib.hid hxz
  clear hxz hpz
  have l_1 := Lib.hid (H.out.next hbz)
  have bel1 := hbz
  clear hbz
  go_wp2_with fail
  refine (span_Norm l vc _ c_1.out hl).mono ?_
  rintro e wz2 hpz
  obtain ⟨vx, rfl, hxz, hbz⟩ := hpz.below
  have x_2 := Lib.hid hxz
  clear hxz hpz
  have l_2 := Lib.hid (l_1.out.next hbz)
  have c_2 := Lib.hid (c_1.out.next hbz)
  have bel2 := bn bel1 hbz
  clear hbz
  clear bel1
  go_wp2_with fail
  refine (ref_NormOf l v _ l_2.out HW.out).mono ?_
  rintro e wz3 hpz
  obtain ⟨vy, rfl, hxz, hbz⟩ := hpz.below
  have y_3 := Lib.hid hxz
  clear hxz hpz
  have l_3 := Lib.hid (l_2.out.next hbz)
  have c_3 := Lib.hid (c_2.out.next hbz)
  have x_3 := Lib.hid (x_2.out.next hbz)
  have bel3 := bn bel2 hbz
  clear hbz
  clear bel2
  go_wp2_with fail
  refine (ref_SameSet (normL l) (normL l) vx vy _ x_3.out y_3.out).mono ?_
  rintro e wz4 ⟨rfl, hbz⟩
  rw [decide_eq_true (Eq.refl (normL l))]
  have l_4 := Lib.hid (l_3.out.next hbz)
  have c_4 := Lib.hid (c_3.out.next hbz)
  have x_4 := Lib.hid (x_3.out.next hbz)
  have y_4 := Lib.hid (y_3.out.next hbz)
  have bel4 := bn bel3 hbz
  clear hbz
  clear bel3
  go_wp2_with fail
  refine (span_Good l vc _ c_4.out).mono ?_
  rintro e wz5 ⟨rfl, hbz⟩
  have l_5 := Lib.hid (l_4.out.next hbz)
  have c_5 := Lib.hid (c_4.out.next hbz)
  have x_5 := Lib.hid (x_4.out.next hbz)
  have y_5 := Lib.hid (y_4.out.next hbz)
  have bel5 := bn bel4 hbz
  clear hbz
  clear bel4
  go_wp2_with fail
  refine (ref_IsSet l v _ l_5.out).mono ?_
  rintro e wz6 ⟨rfl, hbz⟩
  have l_6 := Lib.hid (l_5.out.next hbz)
  have c_6 := Lib.hid (c_5.out.next hbz)
  have x_6 := Lib.hid (x_5.out.next hbz)
  have y_6 := Lib.hid (y_5.out.next hbz)
  have bel6 := bn bel5 hbz
  clear hbz
  clear bel5
  generalize goodB l = gb at *
  go_wp2_with fail
  refine (span_Has l vc n _ c_6.out).mono ?_
  rintro e wz7 ⟨rfl, hbz⟩
  have l_7 := Lib.hid (l_6.out.next hbz)
  have c_7 := Lib.hid (c_6.out.next hbz)
  have x_7 := Lib.hid (x_6.out.next hbz)
  have y_7 := Lib.hid (y_6.out.next hbz)
  have bel7 := bn bel6 hbz
  clear hbz
  clear bel6
  go_wp2_with fail
  refine (ref_InSet l v n _ l_7.out).mono ?_
  rintro e wz8 ⟨rfl, hbz⟩
  have l_8 := Lib.hid (l_7.out.next hbz)
  have c_8 := Lib.hid (c_7.out.next hbz)
  have x_8 := Lib.hid (x_7.out.next hbz)
  have y_8 := Lib.hid (y_7.out.next hbz)
  have bel8 := bn bel7 hbz
  clear hbz
  clear bel7
  generalize hasB l n = hb at *
  go_wp2_with fail
  refine (span_Size l vc _ c_8.out hl).mono ?_
  rintro e wz9 ⟨rfl, hbz⟩
  have l_9 := Lib.hid (l_8.out.next hbz)
  have c_9 := Lib.hid (c_8.out.next hbz)
  have x_9 := Lib.hid (x_8.out.next hbz)
  have y_9 := Lib.hid (y_8.out.next hbz)
  have bel9 := bn bel8 hbz
  clear hbz
  clear bel8
  go_wp2_with fail
  refine (ref_SizeOf l v _ l_9.out HW.out).mono ?_
  rintro e wz10 ⟨rfl, hbz⟩
  have l_10 := Lib.hid (l_9.out.next hbz)
  have c_10 := Lib.hid (c_9.out.next hbz)
  have x_10 := Lib.hid (x_9.out.next hbz)
  have y_10 := Lib.hid (y_9.out.next hbz)
  have bel10 := bn bel9 hbz
  clear hbz
  clear bel9
  have heq : ((sumL (normL l) : Int) == sumL (normL l)) = true := beq_self_eq_true _
  generalize sumL (normL l) = s1 at *
  go_wp2_with fail
  refine (ref_SameSet l l vc v _ c_10.out l_10.out).mono ?_
  rintro e wz11 ⟨rfl, hbz⟩
  rw [decide_eq_true (Eq.refl l)]
  have l_11 := Lib.hid (l_10.out.next hbz)
  have c_11 := Lib.hid (c_10.out.next hbz)
  have x_11 := Lib.hid (x_10.out.next hbz)
  have y_11 := Lib.hid (y_10.out.next hbz)
  have bel11 := bn bel10 hbz
  clear hbz
  clear bel10
  go_wp2_with fail
  refine (law_spans _).mono ?_
  rintro e wz12 ⟨rfl, hbz⟩
  have l_12 := Lib.hid (l_11.out.next hbz)
  have c_12 := Lib.hid (c_11.out.next hbz)
  have x_12 := Lib.hid (x_11.out.next hbz)
  have y_12 := Lib.hid (y_11.out.next hbz)
  have bel12 := bn bel11 hbz
  clear hbz
  clear bel11
  go_wp2
  go_ret
  exact ⟨rfl, bel12⟩

end Go.Proofs.Ytmdljknlbmlacaa
