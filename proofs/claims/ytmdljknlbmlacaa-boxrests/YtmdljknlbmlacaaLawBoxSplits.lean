/- ratebookkeep.BoxSplits returns true. No condition beside what the arguments read as. -/
import Derived.Test.YtmdljknlbmlacaaKeepBox
namespace Go.Proofs.Ytmdljknlbmlacaa
open Go.RowKit

theorem sizeBox_good {b : List (List (Int × Int))} {n : Int} (h : goodBox b n = true) : sizeBox b = sizeP b := by
  simp [sizeBox, goodBox_self h]

set_option maxHeartbeats 4000000 in
theorem law_BoxSplits (a b : List (List (Int × Int))) (i : List Int) (va vb vi : Value) (w : World) (ha : Sl Enc.rng.slice w (Old w) a va) (hb : Sl Enc.rng.slice w (Old w) b vb) (hi : Sl Enc.int w (Old w) i vi) :
    Calls Try.prog 8 #[va, vb, vi] w fun e w' => e = .returned (.bool true) ∧ Below w.heap.size w w' := by
  have HA := Lib.hid ha
  have HB := Lib.hid hb
  have HI := Lib.hid hi
  obtain ⟨A, c, rfl, hc1, hc2, -⟩ := ha
  clear hb hi
  unfold maxLen at hc2
  by_cases hz : a.length = 0
  · have hz' : (a.length : Int) = 0 := by omega
    go_enter Try.func8, Try.ntmps8
    go_wp2_with fail
    refine (keep_boxes _).mono ?_
    rintro e wz1 ⟨rfl, hbz⟩
    have bel1 := hbz
    clear hbz
    go_wp2
    go_ret
    exact ⟨rfl, bel1⟩
  have hz' : ((a.length : Int) == 0) = false := beq_eq_false_iff_ne.2 (by omega)
  cases hga : goodBox a a.length
  · have GA := Lib.hid hga
    clear hga
    go_enter Try.func8, Try.ntmps8
    go_wp2_with fail
    refine (box_Good a _ _ _ HA.out).mono ?_
    rintro e wz1 ⟨rfl, hbz⟩
    rw [GA.out]
    have bel1 := hbz
    clear hbz
    go_wp2_with fail
    refine (keep_boxes _).mono ?_
    rintro e wz2 ⟨rfl, hbz⟩
    have bel2 := bx bel1 hbz
    clear hbz
    clear bel1
    go_wp2
    go_ret
    exact ⟨rfl, bel2⟩
  have GA := Lib.hid hga
  clear hga
  cases hgb : goodBox b a.length
  · have GB := Lib.hid hgb
    clear hgb
    go_enter Try.func8, Try.ntmps8
    go_wp2_with fail
    refine (box_Good a _ _ _ HA.out).mono ?_
    rintro e wz1 ⟨rfl, hbz⟩
    rw [GA.out]
    have b_1 := Lib.hid (HB.out.onOld hbz)
    have bel1 := hbz
    clear hbz
    go_wp2_with fail
    refine (box_Good b _ _ _ b_1.out).mono ?_
    rintro e wz2 ⟨rfl, hbz⟩
    rw [GB.out]
    have b_2 := Lib.hid (b_1.out.onOld hbz)
    have bel2 := bx bel1 hbz
    clear hbz
    clear bel1
    go_wp2_with fail
    refine (keep_boxes _).mono ?_
    rintro e wz3 ⟨rfl, hbz⟩
    have bel3 := bx bel2 hbz
    clear hbz
    clear bel2
    go_wp2
    go_ret
    exact ⟨rfl, bel3⟩
  have GB := Lib.hid hgb
  clear hgb
  have AL := Lib.hid (alikeB_iff.2 ⟨GA.out, GB.out⟩)
  have GL : Hid (∀ x, x ∈ lessBox a b → goodBox x a.length = true) := fun x hx => lessBox_good hx
  have CNT := Lib.hid (lessBox_cnt AL.out i)
  have SUM := Lib.hid (lessBox_sum AL.out)
  have SA := Lib.hid (sizeBox_good GA.out)
  have bdA := sizeP_bound (goodBox_iff.1 GA.out).2 (by have := (goodBox_iff.1 GA.out).1; omega)
  have SL0 := sumBox_nonneg (fun x hx => (goodBox_iff.1 (GL.out x hx)).2)
  have SI0 : Hid (0 ≤ (if bothOk a b then sizeP (interL a b) else 0)) := by
    show 0 ≤ _
    split
    · exact sizeP_nonneg (inter_good (goodBox_iff.1 GA.out).2 (goodBox_iff.1 GB.out).2)
    · omega
  go_enter Try.func8, Try.ntmps8
  go_wp2_with fail
  refine (box_Good a _ _ _ HA.out).mono ?_
  rintro e wz1 ⟨rfl, hbz⟩
  rw [GA.out]
  have a_1 := Lib.hid (HA.out.onOld hbz)
  have b_1 := Lib.hid (HB.out.onOld hbz)
  have i_1 := Lib.hid (HI.out.onOld hbz)
  have bel1 := hbz
  clear hbz
  go_wp2_with fail
  refine (box_Good b _ _ _ b_1.out).mono ?_
  rintro e wz2 ⟨rfl, hbz⟩
  rw [GB.out]
  have a_2 := Lib.hid (a_1.out.onOld hbz)
  have b_2 := Lib.hid (b_1.out.onOld hbz)
  have i_2 := Lib.hid (i_1.out.onOld hbz)
  have bel2 := bx bel1 hbz
  clear hbz
  clear bel1
  go_wp2_with fail
  refine (box_Less a b _ _ _ a_2.out b_2.out).mono ?_
  rintro e wz3 ⟨vl, rfl, hxz, hbz⟩
  have l_3 := Lib.hid (hxz.slOld (Nat.le_refl _))
  clear hxz
  obtain ⟨Al, cl, rfl, hcl1, hcl2⟩ := l_3.out.form
  have a_3 := Lib.hid (a_2.out.onOld hbz)
  have b_3 := Lib.hid (b_2.out.onOld hbz)
  have i_3 := Lib.hid (i_2.out.onOld hbz)
  have bel3 := bx bel2 hbz
  clear hbz
  clear bel2
  unfold maxLen at hcl2
  go_wp2
  go_loopw [39] (fun j wr => ∃ k : Nat, k ≤ (lessBox a b).length ∧ j = .int .i64 k ∧ Below wz3.heap.size wz3 wr) (fun j _ => (lessBox a b).length - (intOf j).toNat)
  case atStart => exact ⟨0, Nat.zero_le _, rfl, Below.refl _ _⟩
  case round =>
    obtain ⟨k, hk, rfl, hbl⟩ := hrel
    by_cases hlt : k < (lessBox a b).length
    · obtain ⟨bb, o, x, ux, rfl, _, hx, h1, h2⟩ := (l_3.out.below (fun _ h => h) hbl).sl_at hlt
      have HX := Lib.hid (h2.more (S' := Old wr) fun _ h => Nat.lt_of_lt_of_le h hbl.size)
      have GX := Lib.hid (GL.out x (List.mem_of_getElem? hx.out))
      clear h2
      go_wp2_with fail
      refine (box_Good x _ _ _ HX.out).mono ?_
      rintro e wx ⟨rfl, hbx⟩
      rw [GX.out]
      go_wp2
      exact ⟨⟨k + 1, by omega, by go_num, bx hbl hbx⟩, by simp [intOf]; omega⟩
    · have hkl : decide (k < (lessBox a b).length) = false := decide_eq_false hlt
      have a_4 := Lib.hid (a_3.out.onOld hbl)
      have b_4 := Lib.hid (b_3.out.onOld hbl)
      have i_4 := Lib.hid (i_3.out.onOld hbl)
      have l_4 := Lib.hid (l_3.out.onOld hbl)
      have bel4 := bx bel3 hbl
      clear hbl
      clear bel3
      cases hA' : hasBox a i
      · have hA := Lib.hid hA'
        clear hA'
        cases hB' : hasBox b i
        · have hB := Lib.hid hB'
          clear hB'
          cases hO' : bothOk a b
          · have OK := Lib.hid hO'
            clear hO'
            have C := Lib.hid (show ((cntBox (lessBox a b) i : Nat) : Int) = 0 from by rw [CNT.out, hA.out, hB.out]; rfl)
            go_wp2_with fail
            refine (keep_count (lessBox a b) i _ _ _ l_4.out i_4.out (fun x hx => goodBox_self (GL.out x hx)) (by have := SUM.out; have := SI0.out; omega)).mono ?_
            rintro e wz5 ⟨rfl, hbz⟩
            rw [C.out]
            have a_5 := Lib.hid (a_4.out.onOld hbz)
            have b_5 := Lib.hid (b_4.out.onOld hbz)
            have i_5 := Lib.hid (i_4.out.onOld hbz)
            have l_5 := Lib.hid (l_4.out.onOld hbz)
            have bel5 := bx bel4 hbz
            clear hbz
            clear bel4
            go_wp2_with fail
            refine (box_Has a i _ _ _ a_5.out i_5.out).mono ?_
            rintro e wz6 ⟨rfl, hbz⟩
            rw [hA.out]
            have a_6 := Lib.hid (a_5.out.onOld hbz)
            have b_6 := Lib.hid (b_5.out.onOld hbz)
            have i_6 := Lib.hid (i_5.out.onOld hbz)
            have l_6 := Lib.hid (l_5.out.onOld hbz)
            have bel6 := bx bel5 hbz
            clear hbz
            clear bel5
            go_wp2_with fail
            refine (box_Both a b _ _ _ a_6.out b_6.out).mono ?_
            rintro e wz7 ⟨vx, rfl, hxz, hbz⟩
            have x_7 := Lib.hid (hxz.more (S' := Old wz7) (fun _ h => h.2))
            clear hxz
            have a_7 := Lib.hid (a_6.out.onOld hbz)
            have b_7 := Lib.hid (b_6.out.onOld hbz)
            have i_7 := Lib.hid (i_6.out.onOld hbz)
            have l_7 := Lib.hid (l_6.out.onOld hbz)
            have bel7 := bx bel6 hbz
            clear hbz
            clear bel6
            rw [OK.out]
            rw [OK.out, if_neg (by simp), Int.add_zero] at SUM
            go_wp2_with fail
            refine (box_Size a _ _ a_7.out).mono ?_
            rintro e wz8 ⟨rfl, hbz⟩
            rw [SA.out, ← SUM.out]
            have a_8 := Lib.hid (a_7.out.onOld hbz)
            have b_8 := Lib.hid (b_7.out.onOld hbz)
            have i_8 := Lib.hid (i_7.out.onOld hbz)
            have l_8 := Lib.hid (l_7.out.onOld hbz)
            have bel8 := bx bel7 hbz
            clear hbz
            clear bel7
            have sb : sumBox (lessBox a b) ≤ 8000012000006000001 := by rw [SUM.out]; exact bdA.2
            generalize sumBox (lessBox a b) = s1 at *
            have w1 : IntKind.i64.wrap s1 = s1 := IntWalk.i64_in _ (by omega)
            have w2 : wrap64 s1 = s1 := by unfold wrap64; omega
            have heq : ((s1 : Int) == s1) = true := beq_self_eq_true _
            go_wp2_with fail
            refine (keep_boxes _).mono ?_
            rintro e wz9 ⟨rfl, hbz⟩
            have bel9 := bx bel8 hbz
            clear hbz
            clear bel8
            go_wp2
            go_ret
            exact ⟨rfl, bel9⟩
          · have OK := Lib.hid hO'
            clear hO'
            have C := Lib.hid (show ((cntBox (lessBox a b) i : Nat) : Int) = 0 from by rw [CNT.out, hA.out, hB.out]; rfl)
            go_wp2_with fail
            refine (keep_count (lessBox a b) i _ _ _ l_4.out i_4.out (fun x hx => goodBox_self (GL.out x hx)) (by have := SUM.out; have := SI0.out; omega)).mono ?_
            rintro e wz5 ⟨rfl, hbz⟩
            rw [C.out]
            have a_5 := Lib.hid (a_4.out.onOld hbz)
            have b_5 := Lib.hid (b_4.out.onOld hbz)
            have i_5 := Lib.hid (i_4.out.onOld hbz)
            have l_5 := Lib.hid (l_4.out.onOld hbz)
            have bel5 := bx bel4 hbz
            clear hbz
            clear bel4
            go_wp2_with fail
            refine (box_Has a i _ _ _ a_5.out i_5.out).mono ?_
            rintro e wz6 ⟨rfl, hbz⟩
            rw [hA.out]
            have a_6 := Lib.hid (a_5.out.onOld hbz)
            have b_6 := Lib.hid (b_5.out.onOld hbz)
            have i_6 := Lib.hid (i_5.out.onOld hbz)
            have l_6 := Lib.hid (l_5.out.onOld hbz)
            have bel6 := bx bel5 hbz
            clear hbz
            clear bel5
            go_wp2_with fail
            refine (box_Both a b _ _ _ a_6.out b_6.out).mono ?_
            rintro e wz7 ⟨vx, rfl, hxz, hbz⟩
            have x_7 := Lib.hid (hxz.more (S' := Old wz7) (fun _ h => h.2))
            clear hxz
            have a_7 := Lib.hid (a_6.out.onOld hbz)
            have b_7 := Lib.hid (b_6.out.onOld hbz)
            have i_7 := Lib.hid (i_6.out.onOld hbz)
            have l_7 := Lib.hid (l_6.out.onOld hbz)
            have bel7 := bx bel6 hbz
            clear hbz
            clear bel6
            rw [OK.out]
            have EB : Hid (bothBox a b = interL a b) := by simp [bothBox, OK.out, Hid]
            have SX : Hid (sizeBox (bothBox a b) = sizeP (interL a b)) := by
              rw [Hid, EB.out]
              refine sizeBox_good (n := a.length) (goodBox_iff.2 ⟨⟨?_, by have := (goodBox_iff.1 GA.out).1; omega⟩, inter_sets (goodBox_iff.1 GA.out).2 (goodBox_iff.1 GB.out).2 (by have := OK.out; simp [bothOk] at this; exact this.2)⟩)
              rw [inter_len (by have := (goodBox_iff.1 GB.out).1; omega)]
            rw [OK.out, if_pos rfl] at SUM SI0
            go_wp2_with fail
            refine (box_Size (bothBox a b) _ _ x_7.out).mono ?_
            rintro e wz8 ⟨rfl, hbz⟩
            rw [SX.out]
            have a_8 := Lib.hid (a_7.out.onOld hbz)
            have b_8 := Lib.hid (b_7.out.onOld hbz)
            have i_8 := Lib.hid (i_7.out.onOld hbz)
            have l_8 := Lib.hid (l_7.out.onOld hbz)
            have x_8 := Lib.hid (x_7.out.onOld hbz)
            have bel8 := bx bel7 hbz
            clear hbz
            clear bel7
            go_wp2_with fail
            refine (box_Size a _ _ a_8.out).mono ?_
            rintro e wz9 ⟨rfl, hbz⟩
            rw [SA.out, ← SUM.out]
            have a_9 := Lib.hid (a_8.out.onOld hbz)
            have b_9 := Lib.hid (b_8.out.onOld hbz)
            have i_9 := Lib.hid (i_8.out.onOld hbz)
            have l_9 := Lib.hid (l_8.out.onOld hbz)
            have bel9 := bx bel8 hbz
            clear hbz
            clear bel8
            have si0 := SI0.out
            have sb : sumBox (lessBox a b) + sizeP (interL a b) ≤ 8000012000006000001 := by rw [SUM.out]; exact bdA.2
            generalize sumBox (lessBox a b) = s1 at *
            generalize sizeP (interL a b) = s2 at *
            have w1 : IntKind.i64.wrap (s1 + s2) = s1 + s2 := IntWalk.i64_in _ (by omega)
            have w2 : wrap64 (s1 + s2) = s1 + s2 := by unfold wrap64; omega
            have heq : ((s1 + s2 : Int) == s1 + s2) = true := beq_self_eq_true _
            go_wp2_with fail
            refine (keep_boxes _).mono ?_
            rintro e wz10 ⟨rfl, hbz⟩
            have bel10 := bx bel9 hbz
            clear hbz
            clear bel9
            go_wp2
            go_ret
            exact ⟨rfl, bel10⟩
        · have hB := Lib.hid hB'
          clear hB'
          cases hO' : bothOk a b
          · have OK := Lib.hid hO'
            clear hO'
            have C := Lib.hid (show ((cntBox (lessBox a b) i : Nat) : Int) = 0 from by rw [CNT.out, hA.out, hB.out]; rfl)
            go_wp2_with fail
            refine (keep_count (lessBox a b) i _ _ _ l_4.out i_4.out (fun x hx => goodBox_self (GL.out x hx)) (by have := SUM.out; have := SI0.out; omega)).mono ?_
            rintro e wz5 ⟨rfl, hbz⟩
            rw [C.out]
            have a_5 := Lib.hid (a_4.out.onOld hbz)
            have b_5 := Lib.hid (b_4.out.onOld hbz)
            have i_5 := Lib.hid (i_4.out.onOld hbz)
            have l_5 := Lib.hid (l_4.out.onOld hbz)
            have bel5 := bx bel4 hbz
            clear hbz
            clear bel4
            go_wp2_with fail
            refine (box_Has a i _ _ _ a_5.out i_5.out).mono ?_
            rintro e wz6 ⟨rfl, hbz⟩
            rw [hA.out]
            have a_6 := Lib.hid (a_5.out.onOld hbz)
            have b_6 := Lib.hid (b_5.out.onOld hbz)
            have i_6 := Lib.hid (i_5.out.onOld hbz)
            have l_6 := Lib.hid (l_5.out.onOld hbz)
            have bel6 := bx bel5 hbz
            clear hbz
            clear bel5
            go_wp2_with fail
            refine (box_Both a b _ _ _ a_6.out b_6.out).mono ?_
            rintro e wz7 ⟨vx, rfl, hxz, hbz⟩
            have x_7 := Lib.hid (hxz.more (S' := Old wz7) (fun _ h => h.2))
            clear hxz
            have a_7 := Lib.hid (a_6.out.onOld hbz)
            have b_7 := Lib.hid (b_6.out.onOld hbz)
            have i_7 := Lib.hid (i_6.out.onOld hbz)
            have l_7 := Lib.hid (l_6.out.onOld hbz)
            have bel7 := bx bel6 hbz
            clear hbz
            clear bel6
            rw [OK.out]
            rw [OK.out, if_neg (by simp), Int.add_zero] at SUM
            go_wp2_with fail
            refine (box_Size a _ _ a_7.out).mono ?_
            rintro e wz8 ⟨rfl, hbz⟩
            rw [SA.out, ← SUM.out]
            have a_8 := Lib.hid (a_7.out.onOld hbz)
            have b_8 := Lib.hid (b_7.out.onOld hbz)
            have i_8 := Lib.hid (i_7.out.onOld hbz)
            have l_8 := Lib.hid (l_7.out.onOld hbz)
            have bel8 := bx bel7 hbz
            clear hbz
            clear bel7
            have sb : sumBox (lessBox a b) ≤ 8000012000006000001 := by rw [SUM.out]; exact bdA.2
            generalize sumBox (lessBox a b) = s1 at *
            have w1 : IntKind.i64.wrap s1 = s1 := IntWalk.i64_in _ (by omega)
            have w2 : wrap64 s1 = s1 := by unfold wrap64; omega
            have heq : ((s1 : Int) == s1) = true := beq_self_eq_true _
            go_wp2_with fail
            refine (keep_boxes _).mono ?_
            rintro e wz9 ⟨rfl, hbz⟩
            have bel9 := bx bel8 hbz
            clear hbz
            clear bel8
            go_wp2
            go_ret
            exact ⟨rfl, bel9⟩
          · have OK := Lib.hid hO'
            clear hO'
            have C := Lib.hid (show ((cntBox (lessBox a b) i : Nat) : Int) = 0 from by rw [CNT.out, hA.out, hB.out]; rfl)
            go_wp2_with fail
            refine (keep_count (lessBox a b) i _ _ _ l_4.out i_4.out (fun x hx => goodBox_self (GL.out x hx)) (by have := SUM.out; have := SI0.out; omega)).mono ?_
            rintro e wz5 ⟨rfl, hbz⟩
            rw [C.out]
            have a_5 := Lib.hid (a_4.out.onOld hbz)
            have b_5 := Lib.hid (b_4.out.onOld hbz)
            have i_5 := Lib.hid (i_4.out.onOld hbz)
            have l_5 := Lib.hid (l_4.out.onOld hbz)
            have bel5 := bx bel4 hbz
            clear hbz
            clear bel4
            go_wp2_with fail
            refine (box_Has a i _ _ _ a_5.out i_5.out).mono ?_
            rintro e wz6 ⟨rfl, hbz⟩
            rw [hA.out]
            have a_6 := Lib.hid (a_5.out.onOld hbz)
            have b_6 := Lib.hid (b_5.out.onOld hbz)
            have i_6 := Lib.hid (i_5.out.onOld hbz)
            have l_6 := Lib.hid (l_5.out.onOld hbz)
            have bel6 := bx bel5 hbz
            clear hbz
            clear bel5
            go_wp2_with fail
            refine (box_Both a b _ _ _ a_6.out b_6.out).mono ?_
            rintro e wz7 ⟨vx, rfl, hxz, hbz⟩
            have x_7 := Lib.hid (hxz.more (S' := Old wz7) (fun _ h => h.2))
            clear hxz
            have a_7 := Lib.hid (a_6.out.onOld hbz)
            have b_7 := Lib.hid (b_6.out.onOld hbz)
            have i_7 := Lib.hid (i_6.out.onOld hbz)
            have l_7 := Lib.hid (l_6.out.onOld hbz)
            have bel7 := bx bel6 hbz
            clear hbz
            clear bel6
            rw [OK.out]
            have EB : Hid (bothBox a b = interL a b) := by simp [bothBox, OK.out, Hid]
            have SX : Hid (sizeBox (bothBox a b) = sizeP (interL a b)) := by
              rw [Hid, EB.out]
              refine sizeBox_good (n := a.length) (goodBox_iff.2 ⟨⟨?_, by have := (goodBox_iff.1 GA.out).1; omega⟩, inter_sets (goodBox_iff.1 GA.out).2 (goodBox_iff.1 GB.out).2 (by have := OK.out; simp [bothOk] at this; exact this.2)⟩)
              rw [inter_len (by have := (goodBox_iff.1 GB.out).1; omega)]
            rw [OK.out, if_pos rfl] at SUM SI0
            go_wp2_with fail
            refine (box_Size (bothBox a b) _ _ x_7.out).mono ?_
            rintro e wz8 ⟨rfl, hbz⟩
            rw [SX.out]
            have a_8 := Lib.hid (a_7.out.onOld hbz)
            have b_8 := Lib.hid (b_7.out.onOld hbz)
            have i_8 := Lib.hid (i_7.out.onOld hbz)
            have l_8 := Lib.hid (l_7.out.onOld hbz)
            have x_8 := Lib.hid (x_7.out.onOld hbz)
            have bel8 := bx bel7 hbz
            clear hbz
            clear bel7
            go_wp2_with fail
            refine (box_Size a _ _ a_8.out).mono ?_
            rintro e wz9 ⟨rfl, hbz⟩
            rw [SA.out, ← SUM.out]
            have a_9 := Lib.hid (a_8.out.onOld hbz)
            have b_9 := Lib.hid (b_8.out.onOld hbz)
            have i_9 := Lib.hid (i_8.out.onOld hbz)
            have l_9 := Lib.hid (l_8.out.onOld hbz)
            have bel9 := bx bel8 hbz
            clear hbz
            clear bel8
            have si0 := SI0.out
            have sb : sumBox (lessBox a b) + sizeP (interL a b) ≤ 8000012000006000001 := by rw [SUM.out]; exact bdA.2
            generalize sumBox (lessBox a b) = s1 at *
            generalize sizeP (interL a b) = s2 at *
            have w1 : IntKind.i64.wrap (s1 + s2) = s1 + s2 := IntWalk.i64_in _ (by omega)
            have w2 : wrap64 (s1 + s2) = s1 + s2 := by unfold wrap64; omega
            have heq : ((s1 + s2 : Int) == s1 + s2) = true := beq_self_eq_true _
            go_wp2_with fail
            refine (keep_boxes _).mono ?_
            rintro e wz10 ⟨rfl, hbz⟩
            have bel10 := bx bel9 hbz
            clear hbz
            clear bel9
            go_wp2
            go_ret
            exact ⟨rfl, bel10⟩
      · have hA := Lib.hid hA'
        clear hA'
        cases hB' : hasBox b i
        · have hB := Lib.hid hB'
          clear hB'
          cases hO' : bothOk a b
          · have OK := Lib.hid hO'
            clear hO'
            have C := Lib.hid (show ((cntBox (lessBox a b) i : Nat) : Int) = 1 from by rw [CNT.out, hA.out, hB.out]; rfl)
            go_wp2_with fail
            refine (keep_count (lessBox a b) i _ _ _ l_4.out i_4.out (fun x hx => goodBox_self (GL.out x hx)) (by have := SUM.out; have := SI0.out; omega)).mono ?_
            rintro e wz5 ⟨rfl, hbz⟩
            rw [C.out]
            have a_5 := Lib.hid (a_4.out.onOld hbz)
            have b_5 := Lib.hid (b_4.out.onOld hbz)
            have i_5 := Lib.hid (i_4.out.onOld hbz)
            have l_5 := Lib.hid (l_4.out.onOld hbz)
            have bel5 := bx bel4 hbz
            clear hbz
            clear bel4
            go_wp2_with fail
            refine (box_Has a i _ _ _ a_5.out i_5.out).mono ?_
            rintro e wz6 ⟨rfl, hbz⟩
            rw [hA.out]
            have a_6 := Lib.hid (a_5.out.onOld hbz)
            have b_6 := Lib.hid (b_5.out.onOld hbz)
            have i_6 := Lib.hid (i_5.out.onOld hbz)
            have l_6 := Lib.hid (l_5.out.onOld hbz)
            have bel6 := bx bel5 hbz
            clear hbz
            clear bel5
            go_wp2_with fail
            refine (box_Has b i _ _ _ b_6.out i_6.out).mono ?_
            rintro e wz7 ⟨rfl, hbz⟩
            rw [hB.out]
            have a_7 := Lib.hid (a_6.out.onOld hbz)
            have b_7 := Lib.hid (b_6.out.onOld hbz)
            have i_7 := Lib.hid (i_6.out.onOld hbz)
            have l_7 := Lib.hid (l_6.out.onOld hbz)
            have bel7 := bx bel6 hbz
            clear hbz
            clear bel6
            go_wp2_with fail
            refine (box_Both a b _ _ _ a_7.out b_7.out).mono ?_
            rintro e wz8 ⟨vx, rfl, hxz, hbz⟩
            have x_8 := Lib.hid (hxz.more (S' := Old wz8) (fun _ h => h.2))
            clear hxz
            have a_8 := Lib.hid (a_7.out.onOld hbz)
            have b_8 := Lib.hid (b_7.out.onOld hbz)
            have i_8 := Lib.hid (i_7.out.onOld hbz)
            have l_8 := Lib.hid (l_7.out.onOld hbz)
            have bel8 := bx bel7 hbz
            clear hbz
            clear bel7
            rw [OK.out]
            rw [OK.out, if_neg (by simp), Int.add_zero] at SUM
            go_wp2_with fail
            refine (box_Size a _ _ a_8.out).mono ?_
            rintro e wz9 ⟨rfl, hbz⟩
            rw [SA.out, ← SUM.out]
            have a_9 := Lib.hid (a_8.out.onOld hbz)
            have b_9 := Lib.hid (b_8.out.onOld hbz)
            have i_9 := Lib.hid (i_8.out.onOld hbz)
            have l_9 := Lib.hid (l_8.out.onOld hbz)
            have bel9 := bx bel8 hbz
            clear hbz
            clear bel8
            have sb : sumBox (lessBox a b) ≤ 8000012000006000001 := by rw [SUM.out]; exact bdA.2
            generalize sumBox (lessBox a b) = s1 at *
            have w1 : IntKind.i64.wrap s1 = s1 := IntWalk.i64_in _ (by omega)
            have w2 : wrap64 s1 = s1 := by unfold wrap64; omega
            have heq : ((s1 : Int) == s1) = true := beq_self_eq_true _
            go_wp2_with fail
            refine (keep_boxes _).mono ?_
            rintro e wz10 ⟨rfl, hbz⟩
            have bel10 := bx bel9 hbz
            clear hbz
            clear bel9
            go_wp2
            go_ret
            exact ⟨rfl, bel10⟩
          · have OK := Lib.hid hO'
            clear hO'
            have C := Lib.hid (show ((cntBox (lessBox a b) i : Nat) : Int) = 1 from by rw [CNT.out, hA.out, hB.out]; rfl)
            go_wp2_with fail
            refine (keep_count (lessBox a b) i _ _ _ l_4.out i_4.out (fun x hx => goodBox_self (GL.out x hx)) (by have := SUM.out; have := SI0.out; omega)).mono ?_
            rintro e wz5 ⟨rfl, hbz⟩
            rw [C.out]
            have a_5 := Lib.hid (a_4.out.onOld hbz)
            have b_5 := Lib.hid (b_4.out.onOld hbz)
            have i_5 := Lib.hid (i_4.out.onOld hbz)
            have l_5 := Lib.hid (l_4.out.onOld hbz)
            have bel5 := bx bel4 hbz
            clear hbz
            clear bel4
            go_wp2_with fail
            refine (box_Has a i _ _ _ a_5.out i_5.out).mono ?_
            rintro e wz6 ⟨rfl, hbz⟩
            rw [hA.out]
            have a_6 := Lib.hid (a_5.out.onOld hbz)
            have b_6 := Lib.hid (b_5.out.onOld hbz)
            have i_6 := Lib.hid (i_5.out.onOld hbz)
            have l_6 := Lib.hid (l_5.out.onOld hbz)
            have bel6 := bx bel5 hbz
            clear hbz
            clear bel5
            go_wp2_with fail
            refine (box_Has b i _ _ _ b_6.out i_6.out).mono ?_
            rintro e wz7 ⟨rfl, hbz⟩
            rw [hB.out]
            have a_7 := Lib.hid (a_6.out.onOld hbz)
            have b_7 := Lib.hid (b_6.out.onOld hbz)
            have i_7 := Lib.hid (i_6.out.onOld hbz)
            have l_7 := Lib.hid (l_6.out.onOld hbz)
            have bel7 := bx bel6 hbz
            clear hbz
            clear bel6
            go_wp2_with fail
            refine (box_Both a b _ _ _ a_7.out b_7.out).mono ?_
            rintro e wz8 ⟨vx, rfl, hxz, hbz⟩
            have x_8 := Lib.hid (hxz.more (S' := Old wz8) (fun _ h => h.2))
            clear hxz
            have a_8 := Lib.hid (a_7.out.onOld hbz)
            have b_8 := Lib.hid (b_7.out.onOld hbz)
            have i_8 := Lib.hid (i_7.out.onOld hbz)
            have l_8 := Lib.hid (l_7.out.onOld hbz)
            have bel8 := bx bel7 hbz
            clear hbz
            clear bel7
            rw [OK.out]
            have EB : Hid (bothBox a b = interL a b) := by simp [bothBox, OK.out, Hid]
            have SX : Hid (sizeBox (bothBox a b) = sizeP (interL a b)) := by
              rw [Hid, EB.out]
              refine sizeBox_good (n := a.length) (goodBox_iff.2 ⟨⟨?_, by have := (goodBox_iff.1 GA.out).1; omega⟩, inter_sets (goodBox_iff.1 GA.out).2 (goodBox_iff.1 GB.out).2 (by have := OK.out; simp [bothOk] at this; exact this.2)⟩)
              rw [inter_len (by have := (goodBox_iff.1 GB.out).1; omega)]
            rw [OK.out, if_pos rfl] at SUM SI0
            go_wp2_with fail
            refine (box_Size (bothBox a b) _ _ x_8.out).mono ?_
            rintro e wz9 ⟨rfl, hbz⟩
            rw [SX.out]
            have a_9 := Lib.hid (a_8.out.onOld hbz)
            have b_9 := Lib.hid (b_8.out.onOld hbz)
            have i_9 := Lib.hid (i_8.out.onOld hbz)
            have l_9 := Lib.hid (l_8.out.onOld hbz)
            have x_9 := Lib.hid (x_8.out.onOld hbz)
            have bel9 := bx bel8 hbz
            clear hbz
            clear bel8
            go_wp2_with fail
            refine (box_Size a _ _ a_9.out).mono ?_
            rintro e wz10 ⟨rfl, hbz⟩
            rw [SA.out, ← SUM.out]
            have a_10 := Lib.hid (a_9.out.onOld hbz)
            have b_10 := Lib.hid (b_9.out.onOld hbz)
            have i_10 := Lib.hid (i_9.out.onOld hbz)
            have l_10 := Lib.hid (l_9.out.onOld hbz)
            have bel10 := bx bel9 hbz
            clear hbz
            clear bel9
            have si0 := SI0.out
            have sb : sumBox (lessBox a b) + sizeP (interL a b) ≤ 8000012000006000001 := by rw [SUM.out]; exact bdA.2
            generalize sumBox (lessBox a b) = s1 at *
            generalize sizeP (interL a b) = s2 at *
            have w1 : IntKind.i64.wrap (s1 + s2) = s1 + s2 := IntWalk.i64_in _ (by omega)
            have w2 : wrap64 (s1 + s2) = s1 + s2 := by unfold wrap64; omega
            have heq : ((s1 + s2 : Int) == s1 + s2) = true := beq_self_eq_true _
            go_wp2_with fail
            refine (keep_boxes _).mono ?_
            rintro e wz11 ⟨rfl, hbz⟩
            have bel11 := bx bel10 hbz
            clear hbz
            clear bel10
            go_wp2
            go_ret
            exact ⟨rfl, bel11⟩
        · have hB := Lib.hid hB'
          clear hB'
          cases hO' : bothOk a b
          · have OK := Lib.hid hO'
            clear hO'
            have C := Lib.hid (show ((cntBox (lessBox a b) i : Nat) : Int) = 0 from by rw [CNT.out, hA.out, hB.out]; rfl)
            go_wp2_with fail
            refine (keep_count (lessBox a b) i _ _ _ l_4.out i_4.out (fun x hx => goodBox_self (GL.out x hx)) (by have := SUM.out; have := SI0.out; omega)).mono ?_
            rintro e wz5 ⟨rfl, hbz⟩
            rw [C.out]
            have a_5 := Lib.hid (a_4.out.onOld hbz)
            have b_5 := Lib.hid (b_4.out.onOld hbz)
            have i_5 := Lib.hid (i_4.out.onOld hbz)
            have l_5 := Lib.hid (l_4.out.onOld hbz)
            have bel5 := bx bel4 hbz
            clear hbz
            clear bel4
            go_wp2_with fail
            refine (box_Has a i _ _ _ a_5.out i_5.out).mono ?_
            rintro e wz6 ⟨rfl, hbz⟩
            rw [hA.out]
            have a_6 := Lib.hid (a_5.out.onOld hbz)
            have b_6 := Lib.hid (b_5.out.onOld hbz)
            have i_6 := Lib.hid (i_5.out.onOld hbz)
            have l_6 := Lib.hid (l_5.out.onOld hbz)
            have bel6 := bx bel5 hbz
            clear hbz
            clear bel5
            go_wp2_with fail
            refine (box_Has b i _ _ _ b_6.out i_6.out).mono ?_
            rintro e wz7 ⟨rfl, hbz⟩
            rw [hB.out]
            have a_7 := Lib.hid (a_6.out.onOld hbz)
            have b_7 := Lib.hid (b_6.out.onOld hbz)
            have i_7 := Lib.hid (i_6.out.onOld hbz)
            have l_7 := Lib.hid (l_6.out.onOld hbz)
            have bel7 := bx bel6 hbz
            clear hbz
            clear bel6
            go_wp2_with fail
            refine (box_Both a b _ _ _ a_7.out b_7.out).mono ?_
            rintro e wz8 ⟨vx, rfl, hxz, hbz⟩
            have x_8 := Lib.hid (hxz.more (S' := Old wz8) (fun _ h => h.2))
            clear hxz
            have a_8 := Lib.hid (a_7.out.onOld hbz)
            have b_8 := Lib.hid (b_7.out.onOld hbz)
            have i_8 := Lib.hid (i_7.out.onOld hbz)
            have l_8 := Lib.hid (l_7.out.onOld hbz)
            have bel8 := bx bel7 hbz
            clear hbz
            clear bel7
            rw [OK.out]
            rw [OK.out, if_neg (by simp), Int.add_zero] at SUM
            go_wp2_with fail
            refine (box_Size a _ _ a_8.out).mono ?_
            rintro e wz9 ⟨rfl, hbz⟩
            rw [SA.out, ← SUM.out]
            have a_9 := Lib.hid (a_8.out.onOld hbz)
            have b_9 := Lib.hid (b_8.out.onOld hbz)
            have i_9 := Lib.hid (i_8.out.onOld hbz)
            have l_9 := Lib.hid (l_8.out.onOld hbz)
            have bel9 := bx bel8 hbz
            clear hbz
            clear bel8
            have sb : sumBox (lessBox a b) ≤ 8000012000006000001 := by rw [SUM.out]; exact bdA.2
            generalize sumBox (lessBox a b) = s1 at *
            have w1 : IntKind.i64.wrap s1 = s1 := IntWalk.i64_in _ (by omega)
            have w2 : wrap64 s1 = s1 := by unfold wrap64; omega
            have heq : ((s1 : Int) == s1) = true := beq_self_eq_true _
            go_wp2_with fail
            refine (keep_boxes _).mono ?_
            rintro e wz10 ⟨rfl, hbz⟩
            have bel10 := bx bel9 hbz
            clear hbz
            clear bel9
            go_wp2
            go_ret
            exact ⟨rfl, bel10⟩
          · have OK := Lib.hid hO'
            clear hO'
            have C := Lib.hid (show ((cntBox (lessBox a b) i : Nat) : Int) = 0 from by rw [CNT.out, hA.out, hB.out]; rfl)
            go_wp2_with fail
            refine (keep_count (lessBox a b) i _ _ _ l_4.out i_4.out (fun x hx => goodBox_self (GL.out x hx)) (by have := SUM.out; have := SI0.out; omega)).mono ?_
            rintro e wz5 ⟨rfl, hbz⟩
            rw [C.out]
            have a_5 := Lib.hid (a_4.out.onOld hbz)
            have b_5 := Lib.hid (b_4.out.onOld hbz)
            have i_5 := Lib.hid (i_4.out.onOld hbz)
            have l_5 := Lib.hid (l_4.out.onOld hbz)
            have bel5 := bx bel4 hbz
            clear hbz
            clear bel4
            go_wp2_with fail
            refine (box_Has a i _ _ _ a_5.out i_5.out).mono ?_
            rintro e wz6 ⟨rfl, hbz⟩
            rw [hA.out]
            have a_6 := Lib.hid (a_5.out.onOld hbz)
            have b_6 := Lib.hid (b_5.out.onOld hbz)
            have i_6 := Lib.hid (i_5.out.onOld hbz)
            have l_6 := Lib.hid (l_5.out.onOld hbz)
            have bel6 := bx bel5 hbz
            clear hbz
            clear bel5
            go_wp2_with fail
            refine (box_Has b i _ _ _ b_6.out i_6.out).mono ?_
            rintro e wz7 ⟨rfl, hbz⟩
            rw [hB.out]
            have a_7 := Lib.hid (a_6.out.onOld hbz)
            have b_7 := Lib.hid (b_6.out.onOld hbz)
            have i_7 := Lib.hid (i_6.out.onOld hbz)
            have l_7 := Lib.hid (l_6.out.onOld hbz)
            have bel7 := bx bel6 hbz
            clear hbz
            clear bel6
            go_wp2_with fail
            refine (box_Both a b _ _ _ a_7.out b_7.out).mono ?_
            rintro e wz8 ⟨vx, rfl, hxz, hbz⟩
            have x_8 := Lib.hid (hxz.more (S' := Old wz8) (fun _ h => h.2))
            clear hxz
            have a_8 := Lib.hid (a_7.out.onOld hbz)
            have b_8 := Lib.hid (b_7.out.onOld hbz)
            have i_8 := Lib.hid (i_7.out.onOld hbz)
            have l_8 := Lib.hid (l_7.out.onOld hbz)
            have bel8 := bx bel7 hbz
            clear hbz
            clear bel7
            rw [OK.out]
            have EB : Hid (bothBox a b = interL a b) := by simp [bothBox, OK.out, Hid]
            have SX : Hid (sizeBox (bothBox a b) = sizeP (interL a b)) := by
              rw [Hid, EB.out]
              refine sizeBox_good (n := a.length) (goodBox_iff.2 ⟨⟨?_, by have := (goodBox_iff.1 GA.out).1; omega⟩, inter_sets (goodBox_iff.1 GA.out).2 (goodBox_iff.1 GB.out).2 (by have := OK.out; simp [bothOk] at this; exact this.2)⟩)
              rw [inter_len (by have := (goodBox_iff.1 GB.out).1; omega)]
            rw [OK.out, if_pos rfl] at SUM SI0
            go_wp2_with fail
            refine (box_Size (bothBox a b) _ _ x_8.out).mono ?_
            rintro e wz9 ⟨rfl, hbz⟩
            rw [SX.out]
            have a_9 := Lib.hid (a_8.out.onOld hbz)
            have b_9 := Lib.hid (b_8.out.onOld hbz)
            have i_9 := Lib.hid (i_8.out.onOld hbz)
            have l_9 := Lib.hid (l_8.out.onOld hbz)
            have x_9 := Lib.hid (x_8.out.onOld hbz)
            have bel9 := bx bel8 hbz
            clear hbz
            clear bel8
            go_wp2_with fail
            refine (box_Size a _ _ a_9.out).mono ?_
            rintro e wz10 ⟨rfl, hbz⟩
            rw [SA.out, ← SUM.out]
            have a_10 := Lib.hid (a_9.out.onOld hbz)
            have b_10 := Lib.hid (b_9.out.onOld hbz)
            have i_10 := Lib.hid (i_9.out.onOld hbz)
            have l_10 := Lib.hid (l_9.out.onOld hbz)
            have bel10 := bx bel9 hbz
            clear hbz
            clear bel9
            have si0 := SI0.out
            have sb : sumBox (lessBox a b) + sizeP (interL a b) ≤ 8000012000006000001 := by rw [SUM.out]; exact bdA.2
            generalize sumBox (lessBox a b) = s1 at *
            generalize sizeP (interL a b) = s2 at *
            have w1 : IntKind.i64.wrap (s1 + s2) = s1 + s2 := IntWalk.i64_in _ (by omega)
            have w2 : wrap64 (s1 + s2) = s1 + s2 := by unfold wrap64; omega
            have heq : ((s1 + s2 : Int) == s1 + s2) = true := beq_self_eq_true _
            go_wp2_with fail
            refine (keep_boxes _).mono ?_
            rintro e wz11 ⟨rfl, hbz⟩
            have bel11 := bx bel10 hbz
            clear hbz
            clear bel10
            go_wp2
            go_ret
            exact ⟨rfl, bel11⟩

end Go.Proofs.Ytmdljknlbmlacaa
