/- ratebookkeep.BoxRests returns true. No condition beside what the arguments read as. -/
import Derived.Test.YtmdljknlbmlacaaLawBoxSplits
namespace Go.Proofs.Ytmdljknlbmlacaa
open Go.RowKit

theorem inGood_take {n : Int} {l : List (List (List (Int × Int)))} {k : Nat} {b : List (List (Int × Int))} (h : l[k]? = some b) (i : List Int) : inGood n (l.take (k + 1)) i = (inGood n (l.take k) i || (goodBox b n && hasBox b i)) := by
  unfold inGood; rw [take_at h, List.any_append]; simp
/-- 1 if an input is left, 0 if not -/
def leftN (A : Bool) (n : Int) (l : List (List (List (Int × Int)))) (i : List Int) : Nat := bit (A && !inGood n l i)
theorem leftN_skip {A : Bool} {n : Int} {l m : List (List (List (Int × Int)))} {i : List Int} (h : inGood n m i = inGood n l i) : leftN A n m i = leftN A n l i := by unfold leftN; rw [h]
theorem leftN_gone {A : Bool} {n : Int} {l : List (List (List (Int × Int)))} {i : List Int} (h : inGood n l i = true) : leftN A n l i = 0 := by unfold leftN; rw [h]; cases A <;> rfl

set_option maxHeartbeats 4000000 in
theorem law_BoxRests (a : List (List (Int × Int))) (l : List (List (List (Int × Int)))) (i : List Int) (va vl vi : Value) (w : World) (ha : Sl Enc.rng.slice w (Old w) a va) (hl : Sl Enc.rng.slice.slice w (Old w) l vl) (hi : Sl Enc.int w (Old w) i vi) :
    Calls Try.prog 9 #[va, vl, vi] w fun e w' => e = .returned (.bool true) ∧ Below w.heap.size w w' := by
  have HA := Lib.hid ha
  have HL := Lib.hid hl
  have HI := Lib.hid hi
  obtain ⟨A, c, rfl, hc1, hc2, -⟩ := ha
  obtain ⟨B, d, rfl, hd1, hd2, -⟩ := hl
  clear hi
  unfold maxLen at hc2 hd2
  by_cases hz : a.length = 0
  · have hz' : (a.length : Int) = 0 := by omega
    go_enter Try.func9, Try.ntmps9
    go_wp2_with fail
    refine (keep_boxes _).mono ?_
    rintro e wz1 ⟨rfl, hbz⟩
    have bel1 := hbz
    clear hbz
    go_wp2
    go_ret
    exact ⟨rfl, bel1⟩
  have hz' : ((a.length : Int) == 0) = false := beq_eq_false_iff_ne.2 (by omega)
  cases hga : goodBox a a.length
  · have GA := Lib.hid hga
    clear hga
    go_enter Try.func9, Try.ntmps9
    go_wp2_with fail
    refine (box_Good a _ _ _ HA.out).mono ?_
    rintro e wz1 ⟨rfl, hbz⟩
    rw [GA.out]
    have bel1 := hbz
    clear hbz
    go_wp2_with fail
    refine (keep_boxes _).mono ?_
    rintro e wz2 ⟨rfl, hbz⟩
    have bel2 := bx bel1 hbz
    clear hbz
    clear bel1
    go_wp2
    go_ret
    exact ⟨rfl, bel2⟩
  have GA := Lib.hid hga
  clear hga
  by_cases h6 : 6 < l.length
  · have h6' : (6 : Int) < l.length := by omega
    go_enter Try.func9, Try.ntmps9
    go_wp2_with fail
    refine (box_Good a _ _ _ HA.out).mono ?_
    rintro e wz1 ⟨rfl, hbz⟩
    rw [GA.out]
    have bel1 := hbz
    clear hbz
    go_wp2_with fail
    refine (keep_boxes _).mono ?_
    rintro e wz2 ⟨rfl, hbz⟩
    have bel2 := bx bel1 hbz
    clear hbz
    clear bel1
    go_wp2
    go_ret
    exact ⟨rfl, bel2⟩
  have h6' : decide ((6 : Int) < l.length) = false := decide_eq_false (by omega)
  have RB : Hid (restBox a l = restF a l) := by rw [Hid, restBox_eq, GA.out]; rfl
  obtain ⟨r1, r2, r3, r4⟩ := restF_all GA.out l l.length (Nat.le_refl _)
  rw [List.take_length] at r1 r2 r3 r4
  have GL := Lib.hid r1
  have SL := Lib.hid r3
  have CNT : Hid (cntBox (restF a l) i = leftN (hasBox a i) a.length l i) := r4 i
  clear r1 r2 r3 r4
  have SA := Lib.hid (sizeBox_good GA.out)
  have bdA := sizeP_bound (goodBox_iff.1 GA.out).2 (by have := (goodBox_iff.1 GA.out).1; omega)
  go_enter Try.func9, Try.ntmps9
  go_wp2_with fail
  refine (box_Good a _ _ _ HA.out).mono ?_
  rintro e wz1 ⟨rfl, hbz⟩
  rw [GA.out]
  have a_1 := Lib.hid (HA.out.onOld hbz)
  have l_1 := Lib.hid (HL.out.onOld hbz)
  have i_1 := Lib.hid (HI.out.onOld hbz)
  have bel1 := hbz
  clear hbz
  go_wp2_with fail
  refine (box_Rest a l _ _ _ a_1.out l_1.out (by omega)).mono ?_
  rintro e wz2 ⟨vr, rfl, hxz, hbz⟩
  rw [RB.out] at hxz
  have r_2 := Lib.hid (hxz.slOld (Nat.le_refl _))
  clear hxz
  obtain ⟨Ar, cr, rfl, hcr1, hcr2⟩ := r_2.out.form
  have a_2 := Lib.hid (a_1.out.onOld hbz)
  have l_2 := Lib.hid (l_1.out.onOld hbz)
  have i_2 := Lib.hid (i_1.out.onOld hbz)
  have bel2 := bx bel1 hbz
  clear hbz
  clear bel1
  unfold maxLen at hcr2
  go_wp2_with fail
  refine (keep_count (restF a l) i _ _ _ r_2.out i_2.out (fun x hx => goodBox_self (GL.out x hx)) (Int.le_trans SL.out bdA.2)).mono ?_
  rintro e wz3 ⟨rfl, hbz⟩
  rw [CNT.out]
  have a_3 := Lib.hid (a_2.out.onOld hbz)
  have l_3 := Lib.hid (l_2.out.onOld hbz)
  have i_3 := Lib.hid (i_2.out.onOld hbz)
  have r_3 := Lib.hid (r_2.out.onOld hbz)
  have bel3 := bx bel2 hbz
  clear hbz
  clear bel2
  cases hA' : hasBox a i
  · have hA := Lib.hid hA'
    clear hA'
    rw [hA.out] at CNT
    go_wp2_with fail
    refine (box_Has a i _ _ _ a_3.out i_3.out).mono ?_
    rintro e wz4 ⟨rfl, hbz⟩
    rw [hA.out]
    have a_4 := Lib.hid (a_3.out.onOld hbz)
    have l_4 := Lib.hid (l_3.out.onOld hbz)
    have i_4 := Lib.hid (i_3.out.onOld hbz)
    have r_4 := Lib.hid (r_3.out.onOld hbz)
    have bel4 := bx bel3 hbz
    clear hbz
    clear bel3
    go_wp2
    go_loopw [10, 45] (fun q j wr => ∃ k : Nat, k ≤ l.length ∧ j = .int .i64 k ∧ q = .int .i64 ((leftN false a.length (l.take k) i : Nat) : Int) ∧ Below wz4.heap.size wz4 wr) (fun _ j _ => l.length - (intOf j).toNat)
    case atStart => exact ⟨0, Nat.zero_le _, rfl, rfl, Below.refl _ _⟩
    case round =>
      obtain ⟨k, hk, rfl, rfl, hbl⟩ := hrel
      by_cases hlt : k < l.length
      · obtain ⟨bb, o, b, ub, rfl, _, hx, h1, h2⟩ := (l_4.out.below (fun _ h => h) hbl).sl_at hlt
        have b_0 := Lib.hid (h2.more (S' := Old wr) fun _ h => Nat.lt_of_lt_of_le h hbl.size)
        have i_0 := Lib.hid (i_4.out.onOld hbl)
        have HIN := Lib.hid (inGood_take (n := a.length) hx.out i)
        clear h2
        cases hg' : goodBox b a.length
        · have hg := Lib.hid hg'
          clear hg'
          rw [hg.out, Bool.false_and, Bool.or_false] at HIN
          go_wp2_with fail
          refine (box_Good b _ _ _ b_0.out).mono ?_
          rintro e wzr1 ⟨rfl, hbz⟩
          rw [hg.out]
          have b_r1 := Lib.hid (b_0.out.onOld hbz)
          have i_r1 := Lib.hid (i_0.out.onOld hbz)
          have belr1 := bx hbl hbz
          clear hbz
          go_wp2
          exact ⟨⟨k + 1, by omega, by go_num, by rw [leftN_skip HIN.out], belr1⟩, by simp [intOf]; omega⟩
        · have hg := Lib.hid hg'
          clear hg'
          rw [hg.out, Bool.true_and] at HIN
          cases hh' : hasBox b i
          · have hh := Lib.hid hh'
            clear hh'
            rw [hh.out, Bool.or_false] at HIN
            go_wp2_with fail
            refine (box_Good b _ _ _ b_0.out).mono ?_
            rintro e wzr1 ⟨rfl, hbz⟩
            rw [hg.out]
            have b_r1 := Lib.hid (b_0.out.onOld hbz)
            have i_r1 := Lib.hid (i_0.out.onOld hbz)
            have belr1 := bx hbl hbz
            clear hbz
            go_wp2_with fail
            refine (box_Has b i _ _ _ b_r1.out i_r1.out).mono ?_
            rintro e wzr2 ⟨rfl, hbz⟩
            rw [hh.out]
            have b_r2 := Lib.hid (b_r1.out.onOld hbz)
            have i_r2 := Lib.hid (i_r1.out.onOld hbz)
            have belr2 := bx belr1 hbz
            clear hbz
            clear belr1
            go_wp2
            exact ⟨⟨k + 1, by omega, by go_num, by rw [leftN_skip HIN.out], belr2⟩, by simp [intOf]; omega⟩
          · have hh := Lib.hid hh'
            clear hh'
            rw [hh.out, Bool.or_true] at HIN
            go_wp2_with fail
            refine (box_Good b _ _ _ b_0.out).mono ?_
            rintro e wzr1 ⟨rfl, hbz⟩
            rw [hg.out]
            have b_r1 := Lib.hid (b_0.out.onOld hbz)
            have i_r1 := Lib.hid (i_0.out.onOld hbz)
            have belr1 := bx hbl hbz
            clear hbz
            go_wp2_with fail
            refine (box_Has b i _ _ _ b_r1.out i_r1.out).mono ?_
            rintro e wzr2 ⟨rfl, hbz⟩
            rw [hh.out]
            have b_r2 := Lib.hid (b_r1.out.onOld hbz)
            have i_r2 := Lib.hid (i_r1.out.onOld hbz)
            have belr2 := bx belr1 hbz
            clear hbz
            clear belr1
            go_wp2
            exact ⟨⟨k + 1, by omega, by go_num, by rw [leftN_gone HIN.out]; rfl, belr2⟩, by simp [intOf]; omega⟩
      · have hkl : decide (k < l.length) = false := decide_eq_false hlt
        have ek : l.take k = l := List.take_of_length_le (by omega)
        rw [ek]
        clear ek
        have CQ := Lib.hid CNT.out
        generalize leftN false a.length l i = Q at *
        have a_m5 := Lib.hid (a_4.out.onOld hbl)
        have l_m5 := Lib.hid (l_4.out.onOld hbl)
        have i_m5 := Lib.hid (i_4.out.onOld hbl)
        have r_m5 := Lib.hid (r_4.out.onOld hbl)
        have belm5 := bx bel4 hbl
        clear hbl
        clear bel4
        have bel1 := belm5
        rename World => w0
        go_wp2
        go_loopw [61] (fun j wr => ∃ k : Nat, k ≤ (restF a l).length ∧ j = .int .i64 k ∧ Below w0.heap.size w0 wr) (fun j _ => (restF a l).length - (intOf j).toNat)
        case atStart => exact ⟨0, Nat.zero_le _, rfl, Below.refl _ _⟩
        case round =>
          obtain ⟨k2, hk2, rfl, hbl2⟩ := hrel
          by_cases hlt2 : k2 < (restF a l).length
          · obtain ⟨bb, o, x, ux, rfl, _, hx, h1, h2⟩ := (r_m5.out.below (fun _ h => h) hbl2).sl_at hlt2
            have x_0 := Lib.hid (h2.more (S' := Old wr) fun _ h => Nat.lt_of_lt_of_le h hbl2.size)
            have GX := Lib.hid (GL.out x (List.mem_of_getElem? hx.out))
            have PX := Lib.hid (point_has (goodBox_iff.1 GX.out).2)
            have lx : x.length ≤ 3 := by have := (goodBox_iff.1 GX.out).1; omega
            clear h2
            go_wp2_with fail
            refine (box_Good x _ _ _ x_0.out).mono ?_
            rintro e wzs1 ⟨rfl, hbz⟩
            rw [GX.out]
            have x_s1 := Lib.hid (x_0.out.onOld hbz)
            have bels1 := bx hbl2 hbz
            clear hbz
            go_wp2_with fail
            refine (box_Point x _ _ x_s1.out (by omega)).mono ?_
            rintro e wzs2 ⟨vp, rfl, hxz, hbz⟩
            have p_s2 := Lib.hid (hxz.slOld (Nat.le_refl _))
            clear hxz
            have x_s2 := Lib.hid (x_s1.out.onOld hbz)
            have bels2 := bx bels1 hbz
            clear hbz
            clear bels1
            go_wp2_with fail
            refine (box_Has x (pointL x) _ _ _ x_s2.out p_s2.out).mono ?_
            rintro e wzs3 ⟨rfl, hbz⟩
            rw [PX.out]
            have x_s3 := Lib.hid (x_s2.out.onOld hbz)
            have p_s3 := Lib.hid (p_s2.out.onOld hbz)
            have bels3 := bx bels2 hbz
            clear hbz
            clear bels2
            go_wp2
            exact ⟨⟨k2 + 1, by omega, by go_num, bels3⟩, by simp [intOf]; omega⟩
          · have hkl2 : decide (k2 < (restF a l).length) = false := decide_eq_false hlt2
            have heq : ((Q : Int) == (Q : Int)) = true := beq_self_eq_true _
            have a_t6 := Lib.hid (a_m5.out.onOld hbl2)
            have belt6 := bx belm5 hbl2
            clear hbl2
            clear belm5
            go_wp2_with fail
            refine (box_Size a _ _ a_t6.out).mono ?_
            rintro e wzt7 ⟨rfl, hbz⟩
            rw [SA.out]
            have a_t7 := Lib.hid (a_t6.out.onOld hbz)
            have belt7 := bx belt6 hbz
            clear hbz
            clear belt6
            have sl := SL.out
            generalize sumBox (restF a l) = s1 at *
            generalize sizeP a = s2 at *
            go_wp2_with fail
            refine (keep_boxes _).mono ?_
            rintro e wzt8 ⟨rfl, hbz⟩
            have belt8 := bx belt7 hbz
            clear hbz
            clear belt7
            go_wp2
            go_ret
            exact ⟨rfl, belt8⟩
  · have hA := Lib.hid hA'
    clear hA'
    rw [hA.out] at CNT
    go_wp2_with fail
    refine (box_Has a i _ _ _ a_3.out i_3.out).mono ?_
    rintro e wz4 ⟨rfl, hbz⟩
    rw [hA.out]
    have a_4 := Lib.hid (a_3.out.onOld hbz)
    have l_4 := Lib.hid (l_3.out.onOld hbz)
    have i_4 := Lib.hid (i_3.out.onOld hbz)
    have r_4 := Lib.hid (r_3.out.onOld hbz)
    have bel4 := bx bel3 hbz
    clear hbz
    clear bel3
    go_wp2
    go_loopw [10, 45] (fun q j wr => ∃ k : Nat, k ≤ l.length ∧ j = .int .i64 k ∧ q = .int .i64 ((leftN true a.length (l.take k) i : Nat) : Int) ∧ Below wz4.heap.size wz4 wr) (fun _ j _ => l.length - (intOf j).toNat)
    case atStart => exact ⟨0, Nat.zero_le _, rfl, rfl, Below.refl _ _⟩
    case round =>
      obtain ⟨k, hk, rfl, rfl, hbl⟩ := hrel
      by_cases hlt : k < l.length
      · obtain ⟨bb, o, b, ub, rfl, _, hx, h1, h2⟩ := (l_4.out.below (fun _ h => h) hbl).sl_at hlt
        have b_0 := Lib.hid (h2.more (S' := Old wr) fun _ h => Nat.lt_of_lt_of_le h hbl.size)
        have i_0 := Lib.hid (i_4.out.onOld hbl)
        have HIN := Lib.hid (inGood_take (n := a.length) hx.out i)
        clear h2
        cases hg' : goodBox b a.length
        · have hg := Lib.hid hg'
          clear hg'
          rw [hg.out, Bool.false_and, Bool.or_false] at HIN
          go_wp2_with fail
          refine (box_Good b _ _ _ b_0.out).mono ?_
          rintro e wzr1 ⟨rfl, hbz⟩
          rw [hg.out]
          have b_r1 := Lib.hid (b_0.out.onOld hbz)
          have i_r1 := Lib.hid (i_0.out.onOld hbz)
          have belr1 := bx hbl hbz
          clear hbz
          go_wp2
          exact ⟨⟨k + 1, by omega, by go_num, by rw [leftN_skip HIN.out], belr1⟩, by simp [intOf]; omega⟩
        · have hg := Lib.hid hg'
          clear hg'
          rw [hg.out, Bool.true_and] at HIN
          cases hh' : hasBox b i
          · have hh := Lib.hid hh'
            clear hh'
            rw [hh.out, Bool.or_false] at HIN
            go_wp2_with fail
            refine (box_Good b _ _ _ b_0.out).mono ?_
            rintro e wzr1 ⟨rfl, hbz⟩
            rw [hg.out]
            have b_r1 := Lib.hid (b_0.out.onOld hbz)
            have i_r1 := Lib.hid (i_0.out.onOld hbz)
            have belr1 := bx hbl hbz
            clear hbz
            go_wp2_with fail
            refine (box_Has b i _ _ _ b_r1.out i_r1.out).mono ?_
            rintro e wzr2 ⟨rfl, hbz⟩
            rw [hh.out]
            have b_r2 := Lib.hid (b_r1.out.onOld hbz)
            have i_r2 := Lib.hid (i_r1.out.onOld hbz)
            have belr2 := bx belr1 hbz
            clear hbz
            clear belr1
            go_wp2
            exact ⟨⟨k + 1, by omega, by go_num, by rw [leftN_skip HIN.out], belr2⟩, by simp [intOf]; omega⟩
          · have hh := Lib.hid hh'
            clear hh'
            rw [hh.out, Bool.or_true] at HIN
            go_wp2_with fail
            refine (box_Good b _ _ _ b_0.out).mono ?_
            rintro e wzr1 ⟨rfl, hbz⟩
            rw [hg.out]
            have b_r1 := Lib.hid (b_0.out.onOld hbz)
            have i_r1 := Lib.hid (i_0.out.onOld hbz)
            have belr1 := bx hbl hbz
            clear hbz
            go_wp2_with fail
            refine (box_Has b i _ _ _ b_r1.out i_r1.out).mono ?_
            rintro e wzr2 ⟨rfl, hbz⟩
            rw [hh.out]
            have b_r2 := Lib.hid (b_r1.out.onOld hbz)
            have i_r2 := Lib.hid (i_r1.out.onOld hbz)
            have belr2 := bx belr1 hbz
            clear hbz
            clear belr1
            go_wp2
            exact ⟨⟨k + 1, by omega, by go_num, by rw [leftN_gone HIN.out]; rfl, belr2⟩, by simp [intOf]; omega⟩
      · have hkl : decide (k < l.length) = false := decide_eq_false hlt
        have ek : l.take k = l := List.take_of_length_le (by omega)
        rw [ek]
        clear ek
        have CQ := Lib.hid CNT.out
        generalize leftN true a.length l i = Q at *
        have a_m5 := Lib.hid (a_4.out.onOld hbl)
        have l_m5 := Lib.hid (l_4.out.onOld hbl)
        have i_m5 := Lib.hid (i_4.out.onOld hbl)
        have r_m5 := Lib.hid (r_4.out.onOld hbl)
        have belm5 := bx bel4 hbl
        clear hbl
        clear bel4
        have bel1 := belm5
        rename World => w0
        go_wp2
        go_loopw [61] (fun j wr => ∃ k : Nat, k ≤ (restF a l).length ∧ j = .int .i64 k ∧ Below w0.heap.size w0 wr) (fun j _ => (restF a l).length - (intOf j).toNat)
        case atStart => exact ⟨0, Nat.zero_le _, rfl, Below.refl _ _⟩
        case round =>
          obtain ⟨k2, hk2, rfl, hbl2⟩ := hrel
          by_cases hlt2 : k2 < (restF a l).length
          · obtain ⟨bb, o, x, ux, rfl, _, hx, h1, h2⟩ := (r_m5.out.below (fun _ h => h) hbl2).sl_at hlt2
            have x_0 := Lib.hid (h2.more (S' := Old wr) fun _ h => Nat.lt_of_lt_of_le h hbl2.size)
            have GX := Lib.hid (GL.out x (List.mem_of_getElem? hx.out))
            have PX := Lib.hid (point_has (goodBox_iff.1 GX.out).2)
            have lx : x.length ≤ 3 := by have := (goodBox_iff.1 GX.out).1; omega
            clear h2
            go_wp2_with fail
            refine (box_Good x _ _ _ x_0.out).mono ?_
            rintro e wzs1 ⟨rfl, hbz⟩
            rw [GX.out]
            have x_s1 := Lib.hid (x_0.out.onOld hbz)
            have bels1 := bx hbl2 hbz
            clear hbz
            go_wp2_with fail
            refine (box_Point x _ _ x_s1.out (by omega)).mono ?_
            rintro e wzs2 ⟨vp, rfl, hxz, hbz⟩
            have p_s2 := Lib.hid (hxz.slOld (Nat.le_refl _))
            clear hxz
            have x_s2 := Lib.hid (x_s1.out.onOld hbz)
            have bels2 := bx bels1 hbz
            clear hbz
            clear bels1
            go_wp2_with fail
            refine (box_Has x (pointL x) _ _ _ x_s2.out p_s2.out).mono ?_
            rintro e wzs3 ⟨rfl, hbz⟩
            rw [PX.out]
            have x_s3 := Lib.hid (x_s2.out.onOld hbz)
            have p_s3 := Lib.hid (p_s2.out.onOld hbz)
            have bels3 := bx bels2 hbz
            clear hbz
            clear bels2
            go_wp2
            exact ⟨⟨k2 + 1, by omega, by go_num, bels3⟩, by simp [intOf]; omega⟩
          · have hkl2 : decide (k2 < (restF a l).length) = false := decide_eq_false hlt2
            have heq : ((Q : Int) == (Q : Int)) = true := beq_self_eq_true _
            have a_t6 := Lib.hid (a_m5.out.onOld hbl2)
            have belt6 := bx belm5 hbl2
            clear hbl2
            clear belm5
            go_wp2_with fail
            refine (box_Size a _ _ a_t6.out).mono ?_
            rintro e wzt7 ⟨rfl, hbz⟩
            rw [SA.out]
            have a_t7 := Lib.hid (a_t6.out.onOld hbz)
            have belt7 := bx belt6 hbz
            clear hbz
            clear belt6
            have sl := SL.out
            generalize sumBox (restF a l) = s1 at *
            generalize sizeP a = s2 at *
            go_wp2_with fail
            refine (keep_boxes _).mono ?_
            rintro e wzt8 ⟨rfl, hbz⟩
            have belt8 := bx belt7 hbz
            clear hbz
            clear belt7
            go_wp2
            go_ret
            exact ⟨rfl, belt8⟩

end Go.Proofs.Ytmdljknlbmlacaa
