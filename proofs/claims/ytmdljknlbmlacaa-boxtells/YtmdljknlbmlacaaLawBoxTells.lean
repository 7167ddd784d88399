/- ratebooklaw.BoxTells returns true. Conditions: what the arguments read as; the boxes and their sets take at most 2^47 bytes each. -/
import Derived.Test.YtmdljknlbmlacaaRefBoth
import Derived.Test.YtmdljknlbmlacaaKeepBox
namespace Go.Proofs.Ytmdljknlbmlacaa
open Go.RowKit

set_option maxHeartbeats 4000000 in
theorem law_BoxTells (a b : List (List (Int × Int))) (i : List Int) (n : Int) (va vb vi : Value) (w : World) (ha : Sl Enc.rng.slice w (Old w) a va) (hb : Sl Enc.rng.slice w (Old w) b vb) (hi : Sl Enc.int w (Old w) i vi)
    (la : a.length * 24 ≤ 140737488355328) (sa : ∀ s, s ∈ a → s.length * 16 ≤ 140737488355328) (lb : b.length * 24 ≤ 140737488355328) (sb : ∀ s, s ∈ b → s.length * 16 ≤ 140737488355328) :
    Calls Try.prog 7 #[va, vb, vi, .int .i64 n] w fun e w' => e = .returned (.bool true) ∧ Below w.heap.size w w' := by
  have HA := Lib.hid ha
  have HB := Lib.hid hb
  have HI := Lib.hid hi
  have SA := Lib.hid sa
  have SB := Lib.hid sb
  clear ha hb hi sa sb
  go_enter Try.func7, Try.ntmps7
  go_wp2_with fail
  refine (ref_CopyBox a _ _ HA.out la SA.out).mono ?_
  rintro e wz1 ⟨vc, rfl, hxz, hbz⟩
  have c_1 := Lib.hid (hxz.slOld (Nat.le_refl _))
  clear hxz
  have a_1 := Lib.hid (HA.out.onOld hbz)
  have b_1 := Lib.hid (HB.out.onOld hbz)
  have i_1 := Lib.hid (HI.out.onOld hbz)
  have bel1 := hbz
  clear hbz
  go_wp2_with fail
  refine (ref_CopyBox b _ _ b_1.out lb SB.out).mono ?_
  rintro e wz2 ⟨vd, rfl, hxz, hbz⟩
  have d_2 := Lib.hid (hxz.slOld (Nat.le_refl _))
  clear hxz
  have a_2 := Lib.hid (a_1.out.onOld hbz)
  have b_2 := Lib.hid (b_1.out.onOld hbz)
  have i_2 := Lib.hid (i_1.out.onOld hbz)
  have c_2 := Lib.hid (c_1.out.onOld hbz)
  have bel2 := bx bel1 hbz
  clear hbz
  clear bel1
  go_wp2_with fail
  refine (box_Both a b _ _ _ c_2.out d_2.out).mono ?_
  rintro e wz3 ⟨vx, rfl, hxz, hbz⟩
  have x_3 := Lib.hid (hxz.more (S' := Old wz3) (fun _ h => h.2))
  clear hxz
  have a_3 := Lib.hid (a_2.out.onOld hbz)
  have b_3 := Lib.hid (b_2.out.onOld hbz)
  have i_3 := Lib.hid (i_2.out.onOld hbz)
  have c_3 := Lib.hid (c_2.out.onOld hbz)
  have d_3 := Lib.hid (d_2.out.onOld hbz)
  have bel3 := bx bel2 hbz
  clear hbz
  clear bel2
  go_wp2_with fail
  refine (ref_BothBoxes a b _ _ _ a_3.out b_3.out).mono ?_
  rintro e wz4 ⟨vy, rfl, hxz, hbz⟩
  have y_4 := Lib.hid (hxz.more (S' := Old wz4) (fun _ h => h.2))
  clear hxz
  have a_4 := Lib.hid (a_3.out.onOld hbz)
  have b_4 := Lib.hid (b_3.out.onOld hbz)
  have i_4 := Lib.hid (i_3.out.onOld hbz)
  have c_4 := Lib.hid (c_3.out.onOld hbz)
  have d_4 := Lib.hid (d_3.out.onOld hbz)
  have x_4 := Lib.hid (x_3.out.onOld hbz)
  have bel4 := bx bel3 hbz
  clear hbz
  clear bel3
  have e1 : (bothOk a b == bothOk a b) = true := beq_self_eq_true _
  generalize hOK : bothOk a b = OK at *
  clear hOK
  go_wp2_with fail
  refine (ref_SameBox (bothBox a b) (bothBox a b) _ _ _ x_4.out y_4.out).mono ?_
  rintro e wz5 ⟨rfl, hbz⟩
  rw [decide_eq_true (Eq.refl (bothBox a b))]
  have a_5 := Lib.hid (a_4.out.onOld hbz)
  have b_5 := Lib.hid (b_4.out.onOld hbz)
  have i_5 := Lib.hid (i_4.out.onOld hbz)
  have c_5 := Lib.hid (c_4.out.onOld hbz)
  have d_5 := Lib.hid (d_4.out.onOld hbz)
  have x_5 := Lib.hid (x_4.out.onOld hbz)
  have y_5 := Lib.hid (y_4.out.onOld hbz)
  have bel5 := bx bel4 hbz
  clear hbz
  clear bel4
  go_wp2_with fail
  refine (box_Good a _ n _ c_5.out).mono ?_
  rintro e wz6 ⟨rfl, hbz⟩
  have a_6 := Lib.hid (a_5.out.onOld hbz)
  have b_6 := Lib.hid (b_5.out.onOld hbz)
  have i_6 := Lib.hid (i_5.out.onOld hbz)
  have c_6 := Lib.hid (c_5.out.onOld hbz)
  have d_6 := Lib.hid (d_5.out.onOld hbz)
  have bel6 := bx bel5 hbz
  clear hbz
  clear bel5
  go_wp2_with fail
  refine (ref_IsBox a _ n _ a_6.out).mono ?_
  rintro e wz7 ⟨rfl, hbz⟩
  have a_7 := Lib.hid (a_6.out.onOld hbz)
  have b_7 := Lib.hid (b_6.out.onOld hbz)
  have i_7 := Lib.hid (i_6.out.onOld hbz)
  have c_7 := Lib.hid (c_6.out.onOld hbz)
  have d_7 := Lib.hid (d_6.out.onOld hbz)
  have bel7 := bx bel6 hbz
  clear hbz
  clear bel6
  have e2 : (goodBox a n == goodBox a n) = true := beq_self_eq_true _
  generalize goodBox a n = G at *
  go_wp2_with fail
  refine (box_Has a i _ _ _ c_7.out i_7.out).mono ?_
  rintro e wz8 ⟨rfl, hbz⟩
  have a_8 := Lib.hid (a_7.out.onOld hbz)
  have b_8 := Lib.hid (b_7.out.onOld hbz)
  have i_8 := Lib.hid (i_7.out.onOld hbz)
  have c_8 := Lib.hid (c_7.out.onOld hbz)
  have d_8 := Lib.hid (d_7.out.onOld hbz)
  have bel8 := bx bel7 hbz
  clear hbz
  clear bel7
  go_wp2_with fail
  refine (ref_InBox a i _ _ _ a_8.out i_8.out).mono ?_
  rintro e wz9 ⟨rfl, hbz⟩
  have a_9 := Lib.hid (a_8.out.onOld hbz)
  have b_9 := Lib.hid (b_8.out.onOld hbz)
  have i_9 := Lib.hid (i_8.out.onOld hbz)
  have c_9 := Lib.hid (c_8.out.onOld hbz)
  have d_9 := Lib.hid (d_8.out.onOld hbz)
  have bel9 := bx bel8 hbz
  clear hbz
  clear bel8
  have e3 : (hasBox a i == hasBox a i) = true := beq_self_eq_true _
  generalize hasBox a i = Z at *
  go_wp2_with fail
  refine (box_Size a _ _ c_9.out).mono ?_
  rintro e wz10 ⟨rfl, hbz⟩
  have a_10 := Lib.hid (a_9.out.onOld hbz)
  have b_10 := Lib.hid (b_9.out.onOld hbz)
  have c_10 := Lib.hid (c_9.out.onOld hbz)
  have d_10 := Lib.hid (d_9.out.onOld hbz)
  have bel10 := bx bel9 hbz
  clear hbz
  clear bel9
  go_wp2_with fail
  refine (ref_BoxSize a _ _ a_10.out).mono ?_
  rintro e wz11 ⟨rfl, hbz⟩
  have a_11 := Lib.hid (a_10.out.onOld hbz)
  have b_11 := Lib.hid (b_10.out.onOld hbz)
  have c_11 := Lib.hid (c_10.out.onOld hbz)
  have d_11 := Lib.hid (d_10.out.onOld hbz)
  have bel11 := bx bel10 hbz
  clear hbz
  clear bel10
  have e4 : (sizeBox a == sizeBox a) = true := beq_self_eq_true _
  generalize sizeBox a = Y at *
  go_wp2_with fail
  refine (ref_SameBox a a _ _ _ c_11.out a_11.out).mono ?_
  rintro e wz12 ⟨rfl, hbz⟩
  rw [decide_eq_true (Eq.refl a)]
  have a_12 := Lib.hid (a_11.out.onOld hbz)
  have b_12 := Lib.hid (b_11.out.onOld hbz)
  have c_12 := Lib.hid (c_11.out.onOld hbz)
  have d_12 := Lib.hid (d_11.out.onOld hbz)
  have bel12 := bx bel11 hbz
  clear hbz
  clear bel11
  go_wp2_with fail
  refine (ref_SameBox b b _ _ _ d_12.out b_12.out).mono ?_
  rintro e wz13 ⟨rfl, hbz⟩
  rw [decide_eq_true (Eq.refl b)]
  have b_13 := Lib.hid (b_12.out.onOld hbz)
  have d_13 := Lib.hid (d_12.out.onOld hbz)
  have bel13 := bx bel12 hbz
  clear hbz
  clear bel12
  go_wp2_with fail
  refine (law_boxes _).mono ?_
  rintro e wz14 ⟨rfl, hbz⟩
  have bel14 := bx bel13 hbz
  clear hbz
  clear bel13
  go_wp2
  go_ret
  exact ⟨rfl, bel14⟩

end Go.Proofs.Ytmdljknlbmlacaa
