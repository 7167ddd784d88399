/- ratebookkeep.SpanSplits returns true. No condition beside what the arguments read as. -/
import Derived.Test.YtmdljknlbmlacaaLawSpanOnce
namespace Go.Proofs.Ytmdljknlbmlacaa
open Go.RowKit

theorem AddPost.below {w w' : World} {e : Ending} {l : List (Int × Int)} (h : AddPost w.heap.size (.slice none 0 0) l w e w') : ∃ v, e = .returned v ∧ Sl Enc.rng w' (Old w') l v ∧ Below w.heap.size w w' := by
  obtain ⟨v, rfl, ho, hg, _⟩ := h
  exact ⟨v, rfl, ho.slOld, below_of_grown hg (Nat.le_refl _) (fun _ h => by cases h)⟩

set_option maxHeartbeats 2000000 in
theorem law_SpanSplits (a b : List (Int × Int)) (va vb : Value) (n : Int) (w : World) (ha : Sl Enc.rng w (Old w) a va) (hb : Sl Enc.rng w (Old w) b vb) :
    Calls Try.prog 6 #[va, vb, .int .i64 n] w fun e w' => e = .returned (.bool true) ∧ Below w.heap.size w w' := by
  have HA := Lib.hid ha
  have HB := Lib.hid hb
  clear ha hb
  cases hga : goodB a
  · have G := Lib.hid hga
    clear hga
    go_enter Try.func6, Try.ntmps6
    go_wp2_with fail
    refine (span_Good a va _ HA.out).mono ?_
    rintro e w1 ⟨rfl, hb1⟩
    rw [G.out]
    go_wp2_with fail
    refine (keep_spans _).mono ?_
    rintro e w2 ⟨rfl, hb2⟩
    go_wp2
    go_ret
    exact ⟨rfl, bn hb1 hb2⟩
  · have GA := Lib.hid hga
    clear hga
    cases hgb : goodB b
    · have G := Lib.hid hgb
      clear hgb
      go_enter Try.func6, Try.ntmps6
      go_wp2_with fail
      refine (span_Good a va _ HA.out).mono ?_
      rintro e w1 ⟨rfl, hb1⟩
      rw [GA.out]
      have HB1 := Lib.hid (HB.out.next hb1)
      go_wp2_with fail
      refine (span_Good b vb _ HB1.out).mono ?_
      rintro e w2 ⟨rfl, hb2⟩
      rw [G.out]
      go_wp2_with fail
      refine (keep_spans _).mono ?_
      rintro e w3 ⟨rfl, hb3⟩
      go_wp2
      go_ret
      exact ⟨rfl, bn (bn hb1 hb2) hb3⟩
    · have GB := Lib.hid hgb
      clear hgb
      have LA := good_length_le GA.out
      have LB := good_length_le GB.out
      have GX : Hid (goodB (bothF a b) = true) := good_le (bothF_good GA.out GB.out).1 (by omega)
      have GY : Hid (goodB (lessF a b) = true) := (lessF_good GA.out GB.out).1
      have MX := Lib.hid ((bothF_good GA.out GB.out).2 n)
      have MY := Lib.hid ((lessF_good GA.out GB.out).2 n)
      have SUM := Lib.hid (sum_split GA.out GB.out)
      have NX := Lib.hid (normL_of_good GX.out)
      have NY := Lib.hid (normL_of_good GY.out)
      have NA := Lib.hid (normL_of_good GA.out)
      have LX := good_length_le GX.out
      have LY := good_length_le GY.out
      have SX := sumL_bounds GX.out (bothF a b).length
      have SY := sumL_bounds GY.out (lessF a b).length
      rw [List.take_length] at SX SY
      obtain ⟨sx1, sx2⟩ := SX
      obtain ⟨sy1, sy2⟩ := SY
      have SYM : Hid (bothF b a = bothF a b) := good_unique (bothF_good GB.out GA.out).1 (bothF_good GA.out GB.out).1 (fun m => by rw [(bothF_good GB.out GA.out).2, (bothF_good GA.out GB.out).2, Bool.and_comm])
      cases hA' : hasB a n
      · have hA := Lib.hid hA'
        rw [hA.out] at MX MY
        clear hA'
        cases hB' : hasB b n
        · have hB := Lib.hid hB'
          rw [hB.out] at MX MY
          clear hB'
          go_enter Try.func6, Try.ntmps6
          go_wp2_with fail
          refine (span_Good a va _ HA.out).mono ?_
          rintro e wz1 ⟨rfl, hbz⟩
          rw [GA.out]
          have a_1 := Lib.hid (HA.out.next hbz)
          have b_1 := Lib.hid (HB.out.next hbz)
          have bel1 := hbz
          clear hbz
          go_wp2_with fail
          refine (span_Good b vb _ b_1.out).mono ?_
          rintro e wz2 ⟨rfl, hbz⟩
          rw [GB.out]
          have a_2 := Lib.hid (a_1.out.next hbz)
          have b_2 := Lib.hid (b_1.out.next hbz)
          have bel2 := bn bel1 hbz
          clear hbz
          clear bel1
          go_wp2_with fail
          refine (span_Both a b va vb _ a_2.out b_2.out (by omega)).mono ?_
          rintro e wz3 hpz
          obtain ⟨vx, rfl, hxz, hbz⟩ := hpz.below
          have x_3 := Lib.hid hxz
          clear hxz hpz
          have a_3 := Lib.hid (a_2.out.next hbz)
          have b_3 := Lib.hid (b_2.out.next hbz)
          have bel3 := bn bel2 hbz
          clear hbz
          clear bel2
          go_wp2_with fail
          refine (span_Less a b va vb _ a_3.out b_3.out (by omega) (good_allIn GB.out)).mono ?_
          rintro e wz4 hpz
          obtain ⟨vy, rfl, hxz, hbz⟩ := hpz.below
          have y_4 := Lib.hid hxz
          clear hxz hpz
          have a_4 := Lib.hid (a_3.out.next hbz)
          have b_4 := Lib.hid (b_3.out.next hbz)
          have x_4 := Lib.hid (x_3.out.next hbz)
          have bel4 := bn bel3 hbz
          clear hbz
          clear bel3
          go_wp2_with fail
          refine (span_Good (bothF a b) vx _ x_4.out).mono ?_
          rintro e wz5 ⟨rfl, hbz⟩
          rw [GX.out]
          have a_5 := Lib.hid (a_4.out.next hbz)
          have b_5 := Lib.hid (b_4.out.next hbz)
          have x_5 := Lib.hid (x_4.out.next hbz)
          have y_5 := Lib.hid (y_4.out.next hbz)
          have bel5 := bn bel4 hbz
          clear hbz
          clear bel4
          go_wp2_with fail
          refine (span_Good (lessF a b) vy _ y_5.out).mono ?_
          rintro e wz6 ⟨rfl, hbz⟩
          rw [GY.out]
          have a_6 := Lib.hid (a_5.out.next hbz)
          have b_6 := Lib.hid (b_5.out.next hbz)
          have x_6 := Lib.hid (x_5.out.next hbz)
          have y_6 := Lib.hid (y_5.out.next hbz)
          have bel6 := bn bel5 hbz
          clear hbz
          clear bel5
          go_wp2_with fail
          refine (span_Has (bothF a b) vx n _ x_6.out).mono ?_
          rintro e wz7 ⟨rfl, hbz⟩
          rw [MX.out]
          have a_7 := Lib.hid (a_6.out.next hbz)
          have b_7 := Lib.hid (b_6.out.next hbz)
          have x_7 := Lib.hid (x_6.out.next hbz)
          have y_7 := Lib.hid (y_6.out.next hbz)
          have bel7 := bn bel6 hbz
          clear hbz
          clear bel6
          go_wp2_with fail
          refine (span_Has a va n _ a_7.out).mono ?_
          rintro e wz8 ⟨rfl, hbz⟩
          rw [hA.out]
          have a_8 := Lib.hid (a_7.out.next hbz)
          have b_8 := Lib.hid (b_7.out.next hbz)
          have x_8 := Lib.hid (x_7.out.next hbz)
          have y_8 := Lib.hid (y_7.out.next hbz)
          have bel8 := bn bel7 hbz
          clear hbz
          clear bel7
          go_wp2_with fail
          refine (span_Has (lessF a b) vy n _ y_8.out).mono ?_
          rintro e wz9 ⟨rfl, hbz⟩
          rw [MY.out]
          have a_9 := Lib.hid (a_8.out.next hbz)
          have b_9 := Lib.hid (b_8.out.next hbz)
          have x_9 := Lib.hid (x_8.out.next hbz)
          have y_9 := Lib.hid (y_8.out.next hbz)
          have bel9 := bn bel8 hbz
          clear hbz
          clear bel8
          go_wp2_with fail
          refine (span_Has a va n _ a_9.out).mono ?_
          rintro e wz10 ⟨rfl, hbz⟩
          rw [hA.out]
          have a_10 := Lib.hid (a_9.out.next hbz)
          have b_10 := Lib.hid (b_9.out.next hbz)
          have x_10 := Lib.hid (x_9.out.next hbz)
          have y_10 := Lib.hid (y_9.out.next hbz)
          have bel10 := bn bel9 hbz
          clear hbz
          clear bel9
          go_wp2_with fail
          refine (span_Size (bothF a b) vx _ x_10.out (by omega)).mono ?_
          rintro e wz11 ⟨rfl, hbz⟩
          rw [NX.out]
          have a_11 := Lib.hid (a_10.out.next hbz)
          have b_11 := Lib.hid (b_10.out.next hbz)
          have x_11 := Lib.hid (x_10.out.next hbz)
          have y_11 := Lib.hid (y_10.out.next hbz)
          have bel11 := bn bel10 hbz
          clear hbz
          clear bel10
          go_wp2_with fail
          refine (span_Size (lessF a b) vy _ y_11.out (by omega)).mono ?_
          rintro e wz12 ⟨rfl, hbz⟩
          rw [NY.out]
          have a_12 := Lib.hid (a_11.out.next hbz)
          have b_12 := Lib.hid (b_11.out.next hbz)
          have x_12 := Lib.hid (x_11.out.next hbz)
          have y_12 := Lib.hid (y_11.out.next hbz)
          have bel12 := bn bel11 hbz
          clear hbz
          clear bel11
          go_wp2_with fail
          refine (span_Size a va _ a_12.out (by omega)).mono ?_
          rintro e wz13 ⟨rfl, hbz⟩
          rw [NA.out, ← SUM.out]
          have a_13 := Lib.hid (a_12.out.next hbz)
          have b_13 := Lib.hid (b_12.out.next hbz)
          have x_13 := Lib.hid (x_12.out.next hbz)
          have y_13 := Lib.hid (y_12.out.next hbz)
          have bel13 := bn bel12 hbz
          clear hbz
          clear bel12
          have heq : ((sumL (bothF a b) + sumL (lessF a b) : Int) == sumL (bothF a b) + sumL (lessF a b)) = true := beq_self_eq_true _
          generalize sumL (bothF a b) = s1 at *
          generalize sumL (lessF a b) = s2 at *
          go_wp2_with fail
          refine (span_Both b a vb va _ b_13.out a_13.out (by omega)).mono ?_
          rintro e wz14 hpz
          obtain ⟨vz, rfl, hxz, hbz⟩ := hpz.below
          rw [SYM.out] at hxz
          have z_14 := Lib.hid hxz
          clear hxz hpz
          have a_14 := Lib.hid (a_13.out.next hbz)
          have b_14 := Lib.hid (b_13.out.next hbz)
          have x_14 := Lib.hid (x_13.out.next hbz)
          have y_14 := Lib.hid (y_13.out.next hbz)
          have bel14 := bn bel13 hbz
          clear hbz
          clear bel13
          go_wp2_with fail
          refine (keep_same (bothF a b) (bothF a b) vx vz _ x_14.out z_14.out).mono ?_
          rintro e wz15 ⟨rfl, hbz⟩
          rw [decide_eq_true (Eq.refl (bothF a b))]
          have a_15 := Lib.hid (a_14.out.next hbz)
          have b_15 := Lib.hid (b_14.out.next hbz)
          have x_15 := Lib.hid (x_14.out.next hbz)
          have y_15 := Lib.hid (y_14.out.next hbz)
          have z_15 := Lib.hid (z_14.out.next hbz)
          have bel15 := bn bel14 hbz
          clear hbz
          clear bel14
          go_wp2_with fail
          refine (keep_spans _).mono ?_
          rintro e wz16 ⟨rfl, hbz⟩
          have a_16 := Lib.hid (a_15.out.next hbz)
          have b_16 := Lib.hid (b_15.out.next hbz)
          have x_16 := Lib.hid (x_15.out.next hbz)
          have y_16 := Lib.hid (y_15.out.next hbz)
          have z_16 := Lib.hid (z_15.out.next hbz)
          have bel16 := bn bel15 hbz
          clear hbz
          clear bel15
          go_wp2
          go_ret
          exact ⟨rfl, bel16⟩
        · have hB := Lib.hid hB'
          rw [hB.out] at MX MY
          clear hB'
          go_enter Try.func6, Try.ntmps6
          go_wp2_with fail
          refine (span_Good a va _ HA.out).mono ?_
          rintro e wz1 ⟨rfl, hbz⟩
          rw [GA.out]
          have a_1 := Lib.hid (HA.out.next hbz)
          have b_1 := Lib.hid (HB.out.next hbz)
          have bel1 := hbz
          clear hbz
          go_wp2_with fail
          refine (span_Good b vb _ b_1.out).mono ?_
          rintro e wz2 ⟨rfl, hbz⟩
          rw [GB.out]
          have a_2 := Lib.hid (a_1.out.next hbz)
          have b_2 := Lib.hid (b_1.out.next hbz)
          have bel2 := bn bel1 hbz
          clear hbz
          clear bel1
          go_wp2_with fail
          refine (span_Both a b va vb _ a_2.out b_2.out (by omega)).mono ?_
          rintro e wz3 hpz
          obtain ⟨vx, rfl, hxz, hbz⟩ := hpz.below
          have x_3 := Lib.hid hxz
          clear hxz hpz
          have a_3 := Lib.hid (a_2.out.next hbz)
          have b_3 := Lib.hid (b_2.out.next hbz)
          have bel3 := bn bel2 hbz
          clear hbz
          clear bel2
          go_wp2_with fail
          refine (span_Less a b va vb _ a_3.out b_3.out (by omega) (good_allIn GB.out)).mono ?_
          rintro e wz4 hpz
          obtain ⟨vy, rfl, hxz, hbz⟩ := hpz.below
          have y_4 := Lib.hid hxz
          clear hxz hpz
          have a_4 := Lib.hid (a_3.out.next hbz)
          have b_4 := Lib.hid (b_3.out.next hbz)
          have x_4 := Lib.hid (x_3.out.next hbz)
          have bel4 := bn bel3 hbz
          clear hbz
          clear bel3
          go_wp2_with fail
          refine (span_Good (bothF a b) vx _ x_4.out).mono ?_
          rintro e wz5 ⟨rfl, hbz⟩
          rw [GX.out]
          have a_5 := Lib.hid (a_4.out.next hbz)
          have b_5 := Lib.hid (b_4.out.next hbz)
          have x_5 := Lib.hid (x_4.out.next hbz)
          have y_5 := Lib.hid (y_4.out.next hbz)
          have bel5 := bn bel4 hbz
          clear hbz
          clear bel4
          go_wp2_with fail
          refine (span_Good (lessF a b) vy _ y_5.out).mono ?_
          rintro e wz6 ⟨rfl, hbz⟩
          rw [GY.out]
          have a_6 := Lib.hid (a_5.out.next hbz)
          have b_6 := Lib.hid (b_5.out.next hbz)
          have x_6 := Lib.hid (x_5.out.next hbz)
          have y_6 := Lib.hid (y_5.out.next hbz)
          have bel6 := bn bel5 hbz
          clear hbz
          clear bel5
          go_wp2_with fail
          refine (span_Has (bothF a b) vx n _ x_6.out).mono ?_
          rintro e wz7 ⟨rfl, hbz⟩
          rw [MX.out]
          have a_7 := Lib.hid (a_6.out.next hbz)
          have b_7 := Lib.hid (b_6.out.next hbz)
          have x_7 := Lib.hid (x_6.out.next hbz)
          have y_7 := Lib.hid (y_6.out.next hbz)
          have bel7 := bn bel6 hbz
          clear hbz
          clear bel6
          go_wp2_with fail
          refine (span_Has a va n _ a_7.out).mono ?_
          rintro e wz8 ⟨rfl, hbz⟩
          rw [hA.out]
          have a_8 := Lib.hid (a_7.out.next hbz)
          have b_8 := Lib.hid (b_7.out.next hbz)
          have x_8 := Lib.hid (x_7.out.next hbz)
          have y_8 := Lib.hid (y_7.out.next hbz)
          have bel8 := bn bel7 hbz
          clear hbz
          clear bel7
          go_wp2_with fail
          refine (span_Has (lessF a b) vy n _ y_8.out).mono ?_
          rintro e wz9 ⟨rfl, hbz⟩
          rw [MY.out]
          have a_9 := Lib.hid (a_8.out.next hbz)
          have b_9 := Lib.hid (b_8.out.next hbz)
          have x_9 := Lib.hid (x_8.out.next hbz)
          have y_9 := Lib.hid (y_8.out.next hbz)
          have bel9 := bn bel8 hbz
          clear hbz
          clear bel8
          go_wp2_with fail
          refine (span_Has a va n _ a_9.out).mono ?_
          rintro e wz10 ⟨rfl, hbz⟩
          rw [hA.out]
          have a_10 := Lib.hid (a_9.out.next hbz)
          have b_10 := Lib.hid (b_9.out.next hbz)
          have x_10 := Lib.hid (x_9.out.next hbz)
          have y_10 := Lib.hid (y_9.out.next hbz)
          have bel10 := bn bel9 hbz
          clear hbz
          clear bel9
          go_wp2_with fail
          refine (span_Size (bothF a b) vx _ x_10.out (by omega)).mono ?_
          rintro e wz11 ⟨rfl, hbz⟩
          rw [NX.out]
          have a_11 := Lib.hid (a_10.out.next hbz)
          have b_11 := Lib.hid (b_10.out.next hbz)
          have x_11 := Lib.hid (x_10.out.next hbz)
          have y_11 := Lib.hid (y_10.out.next hbz)
          have bel11 := bn bel10 hbz
          clear hbz
          clear bel10
          go_wp2_with fail
          refine (span_Size (lessF a b) vy _ y_11.out (by omega)).mono ?_
          rintro e wz12 ⟨rfl, hbz⟩
          rw [NY.out]
          have a_12 := Lib.hid (a_11.out.next hbz)
          have b_12 := Lib.hid (b_11.out.next hbz)
          have x_12 := Lib.hid (x_11.out.next hbz)
          have y_12 := Lib.hid (y_11.out.next hbz)
          have bel12 := bn bel11 hbz
          clear hbz
          clear bel11
          go_wp2_with fail
          refine (span_Size a va _ a_12.out (by omega)).mono ?_
          rintro e wz13 ⟨rfl, hbz⟩
          rw [NA.out, ← SUM.out]
          have a_13 := Lib.hid (a_12.out.next hbz)
          have b_13 := Lib.hid (b_12.out.next hbz)
          have x_13 := Lib.hid (x_12.out.next hbz)
          have y_13 := Lib.hid (y_12.out.next hbz)
          have bel13 := bn bel12 hbz
          clear hbz
          clear bel12
          have heq : ((sumL (bothF a b) + sumL (lessF a b) : Int) == sumL (bothF a b) + sumL (lessF a b)) = true := beq_self_eq_true _
          generalize sumL (bothF a b) = s1 at *
          generalize sumL (lessF a b) = s2 at *
          go_wp2_with fail
          refine (span_Both b a vb va _ b_13.out a_13.out (by omega)).mono ?_
          rintro e wz14 hpz
          obtain ⟨vz, rfl, hxz, hbz⟩ := hpz.below
          rw [SYM.out] at hxz
          have z_14 := Lib.hid hxz
          clear hxz hpz
          have a_14 := Lib.hid (a_13.out.next hbz)
          have b_14 := Lib.hid (b_13.out.next hbz)
          have x_14 := Lib.hid (x_13.out.next hbz)
          have y_14 := Lib.hid (y_13.out.next hbz)
          have bel14 := bn bel13 hbz
          clear hbz
          clear bel13
          go_wp2_with fail
          refine (keep_same (bothF a b) (bothF a b) vx vz _ x_14.out z_14.out).mono ?_
          rintro e wz15 ⟨rfl, hbz⟩
          rw [decide_eq_true (Eq.refl (bothF a b))]
          have a_15 := Lib.hid (a_14.out.next hbz)
          have b_15 := Lib.hid (b_14.out.next hbz)
          have x_15 := Lib.hid (x_14.out.next hbz)
          have y_15 := Lib.hid (y_14.out.next hbz)
          have z_15 := Lib.hid (z_14.out.next hbz)
          have bel15 := bn bel14 hbz
          clear hbz
          clear bel14
          go_wp2_with fail
          refine (keep_spans _).mono ?_
          rintro e wz16 ⟨rfl, hbz⟩
          have a_16 := Lib.hid (a_15.out.next hbz)
          have b_16 := Lib.hid (b_15.out.next hbz)
          have x_16 := Lib.hid (x_15.out.next hbz)
          have y_16 := Lib.hid (y_15.out.next hbz)
          have z_16 := Lib.hid (z_15.out.next hbz)
          have bel16 := bn bel15 hbz
          clear hbz
          clear bel15
          go_wp2
          go_ret
          exact ⟨rfl, bel16⟩
      · have hA := Lib.hid hA'
        rw [hA.out] at MX MY
        clear hA'
        cases hB' : hasB b n
        · have hB := Lib.hid hB'
          rw [hB.out] at MX MY
          clear hB'
          go_enter Try.func6, Try.ntmps6
          go_wp2_with fail
          refine (span_Good a va _ HA.out).mono ?_
          rintro e wz1 ⟨rfl, hbz⟩
          rw [GA.out]
          have a_1 := Lib.hid (HA.out.next hbz)
          have b_1 := Lib.hid (HB.out.next hbz)
          have bel1 := hbz
          clear hbz
          go_wp2_with fail
          refine (span_Good b vb _ b_1.out).mono ?_
          rintro e wz2 ⟨rfl, hbz⟩
          rw [GB.out]
          have a_2 := Lib.hid (a_1.out.next hbz)
          have b_2 := Lib.hid (b_1.out.next hbz)
          have bel2 := bn bel1 hbz
          clear hbz
          clear bel1
          go_wp2_with fail
          refine (span_Both a b va vb _ a_2.out b_2.out (by omega)).mono ?_
          rintro e wz3 hpz
          obtain ⟨vx, rfl, hxz, hbz⟩ := hpz.below
          have x_3 := Lib.hid hxz
          clear hxz hpz
          have a_3 := Lib.hid (a_2.out.next hbz)
          have b_3 := Lib.hid (b_2.out.next hbz)
          have bel3 := bn bel2 hbz
          clear hbz
          clear bel2
          go_wp2_with fail
          refine (span_Less a b va vb _ a_3.out b_3.out (by omega) (good_allIn GB.out)).mono ?_
          rintro e wz4 hpz
          obtain ⟨vy, rfl, hxz, hbz⟩ := hpz.below
          have y_4 := Lib.hid hxz
          clear hxz hpz
          have a_4 := Lib.hid (a_3.out.next hbz)
          have b_4 := Lib.hid (b_3.out.next hbz)
          have x_4 := Lib.hid (x_3.out.next hbz)
          have bel4 := bn bel3 hbz
          clear hbz
          clear bel3
          go_wp2_with fail
          refine (span_Good (bothF a b) vx _ x_4.out).mono ?_
          rintro e wz5 ⟨rfl, hbz⟩
          rw [GX.out]
          have a_5 := Lib.hid (a_4.out.next hbz)
          have b_5 := Lib.hid (b_4.out.next hbz)
          have x_5 := Lib.hid (x_4.out.next hbz)
          have y_5 := Lib.hid (y_4.out.next hbz)
          have bel5 := bn bel4 hbz
          clear hbz
          clear bel4
          go_wp2_with fail
          refine (span_Good (lessF a b) vy _ y_5.out).mono ?_
          rintro e wz6 ⟨rfl, hbz⟩
          rw [GY.out]
          have a_6 := Lib.hid (a_5.out.next hbz)
          have b_6 := Lib.hid (b_5.out.next hbz)
          have x_6 := Lib.hid (x_5.out.next hbz)
          have y_6 := Lib.hid (y_5.out.next hbz)
          have bel6 := bn bel5 hbz
          clear hbz
          clear bel5
          go_wp2_with fail
          refine (span_Has (bothF a b) vx n _ x_6.out).mono ?_
          rintro e wz7 ⟨rfl, hbz⟩
          rw [MX.out]
          have a_7 := Lib.hid (a_6.out.next hbz)
          have b_7 := Lib.hid (b_6.out.next hbz)
          have x_7 := Lib.hid (x_6.out.next hbz)
          have y_7 := Lib.hid (y_6.out.next hbz)
          have bel7 := bn bel6 hbz
          clear hbz
          clear bel6
          go_wp2_with fail
          refine (span_Has a va n _ a_7.out).mono ?_
          rintro e wz8 ⟨rfl, hbz⟩
          rw [hA.out]
          have a_8 := Lib.hid (a_7.out.next hbz)
          have b_8 := Lib.hid (b_7.out.next hbz)
          have x_8 := Lib.hid (x_7.out.next hbz)
          have y_8 := Lib.hid (y_7.out.next hbz)
          have bel8 := bn bel7 hbz
          clear hbz
          clear bel7
          go_wp2_with fail
          refine (span_Has b vb n _ b_8.out).mono ?_
          rintro e wz9 ⟨rfl, hbz⟩
          rw [hB.out]
          have a_9 := Lib.hid (a_8.out.next hbz)
          have b_9 := Lib.hid (b_8.out.next hbz)
          have x_9 := Lib.hid (x_8.out.next hbz)
          have y_9 := Lib.hid (y_8.out.next hbz)
          have bel9 := bn bel8 hbz
          clear hbz
          clear bel8
          go_wp2_with fail
          refine (span_Has (lessF a b) vy n _ y_9.out).mono ?_
          rintro e wz10 ⟨rfl, hbz⟩
          rw [MY.out]
          have a_10 := Lib.hid (a_9.out.next hbz)
          have b_10 := Lib.hid (b_9.out.next hbz)
          have x_10 := Lib.hid (x_9.out.next hbz)
          have y_10 := Lib.hid (y_9.out.next hbz)
          have bel10 := bn bel9 hbz
          clear hbz
          clear bel9
          go_wp2_with fail
          refine (span_Has a va n _ a_10.out).mono ?_
          rintro e wz11 ⟨rfl, hbz⟩
          rw [hA.out]
          have a_11 := Lib.hid (a_10.out.next hbz)
          have b_11 := Lib.hid (b_10.out.next hbz)
          have x_11 := Lib.hid (x_10.out.next hbz)
          have y_11 := Lib.hid (y_10.out.next hbz)
          have bel11 := bn bel10 hbz
          clear hbz
          clear bel10
          go_wp2_with fail
          refine (span_Has b vb n _ b_11.out).mono ?_
          rintro e wz12 ⟨rfl, hbz⟩
          rw [hB.out]
          have a_12 := Lib.hid (a_11.out.next hbz)
          have b_12 := Lib.hid (b_11.out.next hbz)
          have x_12 := Lib.hid (x_11.out.next hbz)
          have y_12 := Lib.hid (y_11.out.next hbz)
          have bel12 := bn bel11 hbz
          clear hbz
          clear bel11
          go_wp2_with fail
          refine (span_Size (bothF a b) vx _ x_12.out (by omega)).mono ?_
          rintro e wz13 ⟨rfl, hbz⟩
          rw [NX.out]
          have a_13 := Lib.hid (a_12.out.next hbz)
          have b_13 := Lib.hid (b_12.out.next hbz)
          have x_13 := Lib.hid (x_12.out.next hbz)
          have y_13 := Lib.hid (y_12.out.next hbz)
          have bel13 := bn bel12 hbz
          clear hbz
          clear bel12
          go_wp2_with fail
          refine (span_Size (lessF a b) vy _ y_13.out (by omega)).mono ?_
          rintro e wz14 ⟨rfl, hbz⟩
          rw [NY.out]
          have a_14 := Lib.hid (a_13.out.next hbz)
          have b_14 := Lib.hid (b_13.out.next hbz)
          have x_14 := Lib.hid (x_13.out.next hbz)
          have y_14 := Lib.hid (y_13.out.next hbz)
          have bel14 := bn bel13 hbz
          clear hbz
          clear bel13
          go_wp2_with fail
          refine (span_Size a va _ a_14.out (by omega)).mono ?_
          rintro e wz15 ⟨rfl, hbz⟩
          rw [NA.out, ← SUM.out]
          have a_15 := Lib.hid (a_14.out.next hbz)
          have b_15 := Lib.hid (b_14.out.next hbz)
          have x_15 := Lib.hid (x_14.out.next hbz)
          have y_15 := Lib.hid (y_14.out.next hbz)
          have bel15 := bn bel14 hbz
          clear hbz
          clear bel14
          have heq : ((sumL (bothF a b) + sumL (lessF a b) : Int) == sumL (bothF a b) + sumL (lessF a b)) = true := beq_self_eq_true _
          generalize sumL (bothF a b) = s1 at *
          generalize sumL (lessF a b) = s2 at *
          go_wp2_with fail
          refine (span_Both b a vb va _ b_15.out a_15.out (by omega)).mono ?_
          rintro e wz16 hpz
          obtain ⟨vz, rfl, hxz, hbz⟩ := hpz.below
          rw [SYM.out] at hxz
          have z_16 := Lib.hid hxz
          clear hxz hpz
          have a_16 := Lib.hid (a_15.out.next hbz)
          have b_16 := Lib.hid (b_15.out.next hbz)
          have x_16 := Lib.hid (x_15.out.next hbz)
          have y_16 := Lib.hid (y_15.out.next hbz)
          have bel16 := bn bel15 hbz
          clear hbz
          clear bel15
          go_wp2_with fail
          refine (keep_same (bothF a b) (bothF a b) vx vz _ x_16.out z_16.out).mono ?_
          rintro e wz17 ⟨rfl, hbz⟩
          rw [decide_eq_true (Eq.refl (bothF a b))]
          have a_17 := Lib.hid (a_16.out.next hbz)
          have b_17 := Lib.hid (b_16.out.next hbz)
          have x_17 := Lib.hid (x_16.out.next hbz)
          have y_17 := Lib.hid (y_16.out.next hbz)
          have z_17 := Lib.hid (z_16.out.next hbz)
          have bel17 := bn bel16 hbz
          clear hbz
          clear bel16
          go_wp2_with fail
          refine (keep_spans _).mono ?_
          rintro e wz18 ⟨rfl, hbz⟩
          have a_18 := Lib.hid (a_17.out.next hbz)
          have b_18 := Lib.hid (b_17.out.next hbz)
          have x_18 := Lib.hid (x_17.out.next hbz)
          have y_18 := Lib.hid (y_17.out.next hbz)
          have z_18 := Lib.hid (z_17.out.next hbz)
          have bel18 := bn bel17 hbz
          clear hbz
          clear bel17
          go_wp2
          go_ret
          exact ⟨rfl, bel18⟩
        · have hB := Lib.hid hB'
          rw [hB.out] at MX MY
          clear hB'
          go_enter Try.func6, Try.ntmps6
          go_wp2_with fail
          refine (span_Good a va _ HA.out).mono ?_
          rintro e wz1 ⟨rfl, hbz⟩
          rw [GA.out]
          have a_1 := Lib.hid (HA.out.next hbz)
          have b_1 := Lib.hid (HB.out.next hbz)
          have bel1 := hbz
          clear hbz
          go_wp2_with fail
          refine (span_Good b vb _ b_1.out).mono ?_
          rintro e wz2 ⟨rfl, hbz⟩
          rw [GB.out]
          have a_2 := Lib.hid (a_1.out.next hbz)
          have b_2 := Lib.hid (b_1.out.next hbz)
          have bel2 := bn bel1 hbz
          clear hbz
          clear bel1
          go_wp2_with fail
          refine (span_Both a b va vb _ a_2.out b_2.out (by omega)).mono ?_
          rintro e wz3 hpz
          obtain ⟨vx, rfl, hxz, hbz⟩ := hpz.below
          have x_3 := Lib.hid hxz
          clear hxz hpz
          have a_3 := Lib.hid (a_2.out.next hbz)
          have b_3 := Lib.hid (b_2.out.next hbz)
          have bel3 := bn bel2 hbz
          clear hbz
          clear bel2
          go_wp2_with fail
          refine (span_Less a b va vb _ a_3.out b_3.out (by omega) (good_allIn GB.out)).mono ?_
          rintro e wz4 hpz
          obtain ⟨vy, rfl, hxz, hbz⟩ := hpz.below
          have y_4 := Lib.hid hxz
          clear hxz hpz
          have a_4 := Lib.hid (a_3.out.next hbz)
          have b_4 := Lib.hid (b_3.out.next hbz)
          have x_4 := Lib.hid (x_3.out.next hbz)
          have bel4 := bn bel3 hbz
          clear hbz
          clear bel3
          go_wp2_with fail
          refine (span_Good (bothF a b) vx _ x_4.out).mono ?_
          rintro e wz5 ⟨rfl, hbz⟩
          rw [GX.out]
          have a_5 := Lib.hid (a_4.out.next hbz)
          have b_5 := Lib.hid (b_4.out.next hbz)
          have x_5 := Lib.hid (x_4.out.next hbz)
          have y_5 := Lib.hid (y_4.out.next hbz)
          have bel5 := bn bel4 hbz
          clear hbz
          clear bel4
          go_wp2_with fail
          refine (span_Good (lessF a b) vy _ y_5.out).mono ?_
          rintro e wz6 ⟨rfl, hbz⟩
          rw [GY.out]
          have a_6 := Lib.hid (a_5.out.next hbz)
          have b_6 := Lib.hid (b_5.out.next hbz)
          have x_6 := Lib.hid (x_5.out.next hbz)
          have y_6 := Lib.hid (y_5.out.next hbz)
          have bel6 := bn bel5 hbz
          clear hbz
          clear bel5
          go_wp2_with fail
          refine (span_Has (bothF a b) vx n _ x_6.out).mono ?_
          rintro e wz7 ⟨rfl, hbz⟩
          rw [MX.out]
          have a_7 := Lib.hid (a_6.out.next hbz)
          have b_7 := Lib.hid (b_6.out.next hbz)
          have x_7 := Lib.hid (x_6.out.next hbz)
          have y_7 := Lib.hid (y_6.out.next hbz)
          have bel7 := bn bel6 hbz
          clear hbz
          clear bel6
          go_wp2_with fail
          refine (span_Has a va n _ a_7.out).mono ?_
          rintro e wz8 ⟨rfl, hbz⟩
          rw [hA.out]
          have a_8 := Lib.hid (a_7.out.next hbz)
          have b_8 := Lib.hid (b_7.out.next hbz)
          have x_8 := Lib.hid (x_7.out.next hbz)
          have y_8 := Lib.hid (y_7.out.next hbz)
          have bel8 := bn bel7 hbz
          clear hbz
          clear bel7
          go_wp2_with fail
          refine (span_Has b vb n _ b_8.out).mono ?_
          rintro e wz9 ⟨rfl, hbz⟩
          rw [hB.out]
          have a_9 := Lib.hid (a_8.out.next hbz)
          have b_9 := Lib.hid (b_8.out.next hbz)
          have x_9 := Lib.hid (x_8.out.next hbz)
          have y_9 := Lib.hid (y_8.out.next hbz)
          have bel9 := bn bel8 hbz
          clear hbz
          clear bel8
          go_wp2_with fail
          refine (span_Has (lessF a b) vy n _ y_9.out).mono ?_
          rintro e wz10 ⟨rfl, hbz⟩
          rw [MY.out]
          have a_10 := Lib.hid (a_9.out.next hbz)
          have b_10 := Lib.hid (b_9.out.next hbz)
          have x_10 := Lib.hid (x_9.out.next hbz)
          have y_10 := Lib.hid (y_9.out.next hbz)
          have bel10 := bn bel9 hbz
          clear hbz
          clear bel9
          go_wp2_with fail
          refine (span_Has a va n _ a_10.out).mono ?_
          rintro e wz11 ⟨rfl, hbz⟩
          rw [hA.out]
          have a_11 := Lib.hid (a_10.out.next hbz)
          have b_11 := Lib.hid (b_10.out.next hbz)
          have x_11 := Lib.hid (x_10.out.next hbz)
          have y_11 := Lib.hid (y_10.out.next hbz)
          have bel11 := bn bel10 hbz
          clear hbz
          clear bel10
          go_wp2_with fail
          refine (span_Has b vb n _ b_11.out).mono ?_
          rintro e wz12 ⟨rfl, hbz⟩
          rw [hB.out]
          have a_12 := Lib.hid (a_11.out.next hbz)
          have b_12 := Lib.hid (b_11.out.next hbz)
          have x_12 := Lib.hid (x_11.out.next hbz)
          have y_12 := Lib.hid (y_11.out.next hbz)
          have bel12 := bn bel11 hbz
          clear hbz
          clear bel11
          go_wp2_with fail
          refine (span_Size (bothF a b) vx _ x_12.out (by omega)).mono ?_
          rintro e wz13 ⟨rfl, hbz⟩
          rw [NX.out]
          have a_13 := Lib.hid (a_12.out.next hbz)
          have b_13 := Lib.hid (b_12.out.next hbz)
          have x_13 := Lib.hid (x_12.out.next hbz)
          have y_13 := Lib.hid (y_12.out.next hbz)
          have bel13 := bn bel12 hbz
          clear hbz
          clear bel12
          go_wp2_with fail
          refine (span_Size (lessF a b) vy _ y_13.out (by omega)).mono ?_
          rintro e wz14 ⟨rfl, hbz⟩
          rw [NY.out]
          have a_14 := Lib.hid (a_13.out.next hbz)
          have b_14 := Lib.hid (b_13.out.next hbz)
          have x_14 := Lib.hid (x_13.out.next hbz)
          have y_14 := Lib.hid (y_13.out.next hbz)
          have bel14 := bn bel13 hbz
          clear hbz
          clear bel13
          go_wp2_with fail
          refine (span_Size a va _ a_14.out (by omega)).mono ?_
          rintro e wz15 ⟨rfl, hbz⟩
          rw [NA.out, ← SUM.out]
          have a_15 := Lib.hid (a_14.out.next hbz)
          have b_15 := Lib.hid (b_14.out.next hbz)
          have x_15 := Lib.hid (x_14.out.next hbz)
          have y_15 := Lib.hid (y_14.out.next hbz)
          have bel15 := bn bel14 hbz
          clear hbz
          clear bel14
          have heq : ((sumL (bothF a b) + sumL (lessF a b) : Int) == sumL (bothF a b) + sumL (lessF a b)) = true := beq_self_eq_true _
          generalize sumL (bothF a b) = s1 at *
          generalize sumL (lessF a b) = s2 at *
          go_wp2_with fail
          refine (span_Both b a vb va _ b_15.out a_15.out (by omega)).mono ?_
          rintro e wz16 hpz
          obtain ⟨vz, rfl, hxz, hbz⟩ := hpz.below
          rw [SYM.out] at hxz
          have z_16 := Lib.hid hxz
          clear hxz hpz
          have a_16 := Lib.hid (a_15.out.next hbz)
          have b_16 := Lib.hid (b_15.out.next hbz)
          have x_16 := Lib.hid (x_15.out.next hbz)
          have y_16 := Lib.hid (y_15.out.next hbz)
          have bel16 := bn bel15 hbz
          clear hbz
          clear bel15
          go_wp2_with fail
          refine (keep_same (bothF a b) (bothF a b) vx vz _ x_16.out z_16.out).mono ?_
          rintro e wz17 ⟨rfl, hbz⟩
          rw [decide_eq_true (Eq.refl (bothF a b))]
          have a_17 := Lib.hid (a_16.out.next hbz)
          have b_17 := Lib.hid (b_16.out.next hbz)
          have x_17 := Lib.hid (x_16.out.next hbz)
          have y_17 := Lib.hid (y_16.out.next hbz)
          have z_17 := Lib.hid (z_16.out.next hbz)
          have bel17 := bn bel16 hbz
          clear hbz
          clear bel16
          go_wp2_with fail
          refine (keep_spans _).mono ?_
          rintro e wz18 ⟨rfl, hbz⟩
          have a_18 := Lib.hid (a_17.out.next hbz)
          have b_18 := Lib.hid (b_17.out.next hbz)
          have x_18 := Lib.hid (x_17.out.next hbz)
          have y_18 := Lib.hid (y_17.out.next hbz)
          have z_18 := Lib.hid (z_17.out.next hbz)
          have bel18 := bn bel17 hbz
          clear hbz
          clear bel17
          go_wp2
          go_ret
          exact ⟨rfl, bel18⟩

end Go.Proofs.Ytmdljknlbmlacaa
