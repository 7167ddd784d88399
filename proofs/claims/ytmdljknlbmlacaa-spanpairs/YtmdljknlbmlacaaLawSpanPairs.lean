/- ratebooklaw.SpanPairs returns true. No condition beside what the arguments read as. -/
import Derived.Test.YtmdljknlbmlacaaRefSets2
import Derived.Test.YtmdljknlbmlacaaLawSpanSplits
namespace Go.Proofs.Ytmdljknlbmlacaa
open Go.RowKit

set_option maxHeartbeats 2000000 in
theorem law_SpanPairs (a b : List (Int × Int)) (va vb : Value) (w : World) (ha : Sl Enc.rng w (Old w) a va) (hb : Sl Enc.rng w (Old w) b vb) :
    Calls Try.prog 4 #[va, vb] w fun e w' => e = .returned (.bool true) ∧ Below w.heap.size w w' := by
  have HA := Lib.hid ha
  have HB := Lib.hid hb
  clear ha hb
  cases hga : goodB a
  · have G := Lib.hid hga
    clear hga
    go_enter Try.func4, Try.ntmps4
    go_wp2_with fail
    refine (ref_IsSet a va _ HA.out).mono ?_
    rintro e w1 ⟨rfl, hb1⟩
    rw [G.out]
    go_wp2_with fail
    refine (law_spans _).mono ?_
    rintro e w2 ⟨rfl, hb2⟩
    go_wp2
    go_ret
    exact ⟨rfl, bn hb1 hb2⟩
  · have GA := Lib.hid hga
    clear hga
    cases hgb : goodB b
    · have G := Lib.hid hgb
      clear hgb
      go_enter Try.func4, Try.ntmps4
      go_wp2_with fail
      refine (ref_IsSet a va _ HA.out).mono ?_
      rintro e w1 ⟨rfl, hb1⟩
      rw [GA.out]
      have HB1 := Lib.hid (HB.out.next hb1)
      go_wp2_with fail
      refine (ref_IsSet b vb _ HB1.out).mono ?_
      rintro e w2 ⟨rfl, hb2⟩
      rw [G.out]
      go_wp2_with fail
      refine (law_spans _).mono ?_
      rintro e w3 ⟨rfl, hb3⟩
      go_wp2
      go_ret
      exact ⟨rfl, bn (bn hb1 hb2) hb3⟩
    · have GB := Lib.hid hgb
      clear hgb
      have LA := good_length_le GA.out
      have LB := good_length_le GB.out
      go_enter Try.func4, Try.ntmps4
      go_wp2_with fail
      refine (ref_IsSet a va _ HA.out).mono ?_
      rintro e wz1 ⟨rfl, hbz⟩
      rw [GA.out]
      have a_1 := Lib.hid (HA.out.next hbz)
      have b_1 := Lib.hid (HB.out.next hbz)
      have bel1 := hbz
      clear hbz
      go_wp2_with fail
      refine (ref_IsSet b vb _ b_1.out).mono ?_
      rintro e wz2 ⟨rfl, hbz⟩
      rw [GB.out]
      have a_2 := Lib.hid (a_1.out.next hbz)
      have b_2 := Lib.hid (b_1.out.next hbz)
      have bel2 := bn bel1 hbz
      clear hbz
      clear bel1
      go_wp2_with fail
      refine (law_ranges a va _ a_2.out (by omega)).mono ?_
      rintro e wz3 hpz
      obtain ⟨vc, rfl, hxz, hbz⟩ := hpz.below
      have c_3 := Lib.hid hxz
      clear hxz hpz
      have a_3 := Lib.hid (a_2.out.next hbz)
      have b_3 := Lib.hid (b_2.out.next hbz)
      have bel3 := bn bel2 hbz
      clear hbz
      clear bel2
      go_wp2_with fail
      refine (law_ranges b vb _ b_3.out (by omega)).mono ?_
      rintro e wz4 hpz
      obtain ⟨vd, rfl, hxz, hbz⟩ := hpz.below
      have d_4 := Lib.hid hxz
      clear hxz hpz
      have a_4 := Lib.hid (a_3.out.next hbz)
      have b_4 := Lib.hid (b_3.out.next hbz)
      have c_4 := Lib.hid (c_3.out.next hbz)
      have bel4 := bn bel3 hbz
      clear hbz
      clear bel3
      go_wp2_with fail
      refine (span_Both a b vc vd _ c_4.out d_4.out (by omega)).mono ?_
      rintro e wz5 hpz
      obtain ⟨vx, rfl, hxz, hbz⟩ := hpz.below
      have x_5 := Lib.hid hxz
      clear hxz hpz
      have a_5 := Lib.hid (a_4.out.next hbz)
      have b_5 := Lib.hid (b_4.out.next hbz)
      have c_5 := Lib.hid (c_4.out.next hbz)
      have d_5 := Lib.hid (d_4.out.next hbz)
      have bel5 := bn bel4 hbz
      clear hbz
      clear bel4
      go_wp2_with fail
      refine (ref_BothOf a b va vb _ a_5.out b_5.out GA.out GB.out).mono ?_
      rintro e wz6 hpz
      obtain ⟨vy, rfl, hxz, hbz⟩ := hpz.below
      have y_6 := Lib.hid hxz
      clear hxz hpz
      have a_6 := Lib.hid (a_5.out.next hbz)
      have b_6 := Lib.hid (b_5.out.next hbz)
      have c_6 := Lib.hid (c_5.out.next hbz)
      have d_6 := Lib.hid (d_5.out.next hbz)
      have x_6 := Lib.hid (x_5.out.next hbz)
      have bel6 := bn bel5 hbz
      clear hbz
      clear bel5
      go_wp2_with fail
      refine (ref_SameSet (bothF a b) (bothF a b) vx vy _ x_6.out y_6.out).mono ?_
      rintro e wz7 ⟨rfl, hbz⟩
      rw [decide_eq_true (Eq.refl (bothF a b))]
      have a_7 := Lib.hid (a_6.out.next hbz)
      have b_7 := Lib.hid (b_6.out.next hbz)
      have c_7 := Lib.hid (c_6.out.next hbz)
      have d_7 := Lib.hid (d_6.out.next hbz)
      have x_7 := Lib.hid (x_6.out.next hbz)
      have y_7 := Lib.hid (y_6.out.next hbz)
      have bel7 := bn bel6 hbz
      clear hbz
      clear bel6
      go_wp2_with fail
      refine (law_ranges a va _ a_7.out (by omega)).mono ?_
      rintro e wz8 hpz
      obtain ⟨vc2, rfl, hxz, hbz⟩ := hpz.below
      have c2_8 := Lib.hid hxz
      clear hxz hpz
      have a_8 := Lib.hid (a_7.out.next hbz)
      have b_8 := Lib.hid (b_7.out.next hbz)
      have c_8 := Lib.hid (c_7.out.next hbz)
      have d_8 := Lib.hid (d_7.out.next hbz)
      have x_8 := Lib.hid (x_7.out.next hbz)
      have y_8 := Lib.hid (y_7.out.next hbz)
      have bel8 := bn bel7 hbz
      clear hbz
      clear bel7
      go_wp2_with fail
      refine (law_ranges b vb _ b_8.out (by omega)).mono ?_
      rintro e wz9 hpz
      obtain ⟨vd2, rfl, hxz, hbz⟩ := hpz.below
      have d2_9 := Lib.hid hxz
      clear hxz hpz
      have a_9 := Lib.hid (a_8.out.next hbz)
      have b_9 := Lib.hid (b_8.out.next hbz)
      have c_9 := Lib.hid (c_8.out.next hbz)
      have d_9 := Lib.hid (d_8.out.next hbz)
      have x_9 := Lib.hid (x_8.out.next hbz)
      have y_9 := Lib.hid (y_8.out.next hbz)
      have c2_9 := Lib.hid (c2_8.out.next hbz)
      have bel9 := bn bel8 hbz
      clear hbz
      clear bel8
      go_wp2_with fail
      refine (span_Less a b vc2 vd2 _ c2_9.out d2_9.out (by omega) (good_allIn GB.out)).mono ?_
      rintro e wz10 hpz
      obtain ⟨vx2, rfl, hxz, hbz⟩ := hpz.below
      have x2_10 := Lib.hid hxz
      clear hxz hpz
      have a_10 := Lib.hid (a_9.out.next hbz)
      have b_10 := Lib.hid (b_9.out.next hbz)
      have c_10 := Lib.hid (c_9.out.next hbz)
      have d_10 := Lib.hid (d_9.out.next hbz)
      have x_10 := Lib.hid (x_9.out.next hbz)
      have y_10 := Lib.hid (y_9.out.next hbz)
      have c2_10 := Lib.hid (c2_9.out.next hbz)
      have d2_10 := Lib.hid (d2_9.out.next hbz)
      have bel10 := bn bel9 hbz
      clear hbz
      clear bel9
      go_wp2_with fail
      refine (ref_LessOf a b va vb _ a_10.out b_10.out GA.out GB.out).mono ?_
      rintro e wz11 hpz
      obtain ⟨vy2, rfl, hxz, hbz⟩ := hpz.below
      have y2_11 := Lib.hid hxz
      clear hxz hpz
      have a_11 := Lib.hid (a_10.out.next hbz)
      have b_11 := Lib.hid (b_10.out.next hbz)
      have c_11 := Lib.hid (c_10.out.next hbz)
      have d_11 := Lib.hid (d_10.out.next hbz)
      have x_11 := Lib.hid (x_10.out.next hbz)
      have y_11 := Lib.hid (y_10.out.next hbz)
      have c2_11 := Lib.hid (c2_10.out.next hbz)
      have d2_11 := Lib.hid (d2_10.out.next hbz)
      have x2_11 := Lib.hid (x2_10.out.next hbz)
      have bel11 := bn bel10 hbz
      clear hbz
      clear bel10
      go_wp2_with fail
      refine (ref_SameSet (lessF a b) (lessF a b) vx2 vy2 _ x2_11.out y2_11.out).mono ?_
      rintro e wz12 ⟨rfl, hbz⟩
      rw [decide_eq_true (Eq.refl (lessF a b))]
      have a_12 := Lib.hid (a_11.out.next hbz)
      have b_12 := Lib.hid (b_11.out.next hbz)
      have c_12 := Lib.hid (c_11.out.next hbz)
      have d_12 := Lib.hid (d_11.out.next hbz)
      have x_12 := Lib.hid (x_11.out.next hbz)
      have y_12 := Lib.hid (y_11.out.next hbz)
      have c2_12 := Lib.hid (c2_11.out.next hbz)
      have d2_12 := Lib.hid (d2_11.out.next hbz)
      have x2_12 := Lib.hid (x2_11.out.next hbz)
      have y2_12 := Lib.hid (y2_11.out.next hbz)
      have bel12 := bn bel11 hbz
      clear hbz
      clear bel11
      go_wp2_with fail
      refine (law_spans _).mono ?_
      rintro e wz13 ⟨rfl, hbz⟩
      have a_13 := Lib.hid (a_12.out.next hbz)
      have b_13 := Lib.hid (b_12.out.next hbz)
      have c_13 := Lib.hid (c_12.out.next hbz)
      have d_13 := Lib.hid (d_12.out.next hbz)
      have x_13 := Lib.hid (x_12.out.next hbz)
      have y_13 := Lib.hid (y_12.out.next hbz)
      have c2_13 := Lib.hid (c2_12.out.next hbz)
      have d2_13 := Lib.hid (d2_12.out.next hbz)
      have x2_13 := Lib.hid (x2_12.out.next hbz)
      have y2_13 := Lib.hid (y2_12.out.next hbz)
      have bel13 := bn bel12 hbz
      clear hbz
      clear bel12
      go_wp2
      go_ret
      exact ⟨rfl, bel13⟩

end Go.Proofs.Ytmdljknlbmlacaa
