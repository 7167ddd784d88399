/- box.Less: what of one box is not in another, as boxes in new memory. Condition: argument slices read as lists in old memory. box.lessEach, Rest, Point and Size. Conditions: argument slices read as lists in old memory; the boxes that are left are few enough to fit into 2^47 bytes. -/
import Derived.Test.YtmdljknlbmlacabGreatDoorBoxMake
import Derived.Test.YtmdljknlbmlacabGreatDoorMem
import Derived.Test.YtmdljknlbmlacabGreatDoorSpanNorm
namespace Go.Proofs.YtmdljknlbmlacabGreatDoor
open Go.RowKit

theorem lessR_at {p a b : List (List (Int × Int))} {k : Nat} {s t : List (Int × Int)} (ha : a[k]? = some s) (hb : b[k]? = some t) :
    lessR p (a.drop k) (b.drop k) = (if (lessF s t).length = 0 then [] else [p ++ lessF s t :: a.drop (k + 1)]) ++ lessR (p ++ [bothF s t]) (a.drop (k + 1)) (b.drop (k + 1)) := by
  rw [drop_at ha, drop_at hb, lessR]
theorem inter_len {a b : List (List (Int × Int))} (h : b.length = a.length) : (interL a b).length = a.length := by simp [interL]; omega
theorem sets_small {b : List (List (Int × Int))} (h : ∀ s, s ∈ b → goodB s = true) : ∀ s, s ∈ b → s.length * 16 ≤ 140737488355328 := fun s hs => by
  have := good_length_le (h s hs); omega

set_option maxRecDepth 100000 in
set_option maxHeartbeats 1000000 in
theorem box_Less (a b : List (List (Int × Int))) (va vb : Value) (w : World) (ha : Sl Enc.rng.slice w (Old w) a va) (hb : Sl Enc.rng.slice w (Old w) b vb) :
    Calls Tryz.prog 172 #[va, vb] w (RowPost Enc.rng.slice.slice 63 w.heap.size (lessBox a b) w) := by
  have HA := Lib.hid ha
  have HB := Lib.hid hb
  cases hal : alikeB a b
  · have HL := Lib.hid hal
    clear hal ha hb
    go_enter Tryz.func172, Tryz.ntmps172
    go_wp2_with fail
    refine (box_alike a b _ _ _ HA.out HB.out).mono ?_
    rintro e w1 ⟨rfl, hb1⟩
    rw [HL.out]
    go_wp2
    go_ret
    exact ⟨_, rfl, by unfold lessBox; rw [HL.out]; exact OwnG.nil, hb1⟩
  · have HL := Lib.hid hal
    obtain ⟨hga, hgb⟩ := alikeB_iff.1 hal
    have HGA := Lib.hid (goodBox_iff.1 hga)
    have HGB := Lib.hid (goodBox_iff.1 hgb)
    have lenA : a.length ≤ 3 := by have := HGA.out; omega
    have lenB : b.length = a.length := by have := HGB.out; omega
    have HLB := Lib.hid lenB
    clear hal hga hgb lenB
    obtain ⟨A, c, rfl, hc1, hc2, -⟩ := ha
    obtain ⟨B, d, rfl, hd1, hd2, -⟩ := hb
    unfold maxLen at hc2 hd2
    cases hfull : fullB (interL a b)
    · have HF := Lib.hid hfull
      clear hfull
      go_enter Tryz.func172, Tryz.ntmps172
      go_wp2_with fail
      refine (box_alike a b _ _ _ HA.out HB.out).mono ?_
      rintro e w1 ⟨rfl, hb1⟩
      rw [HL.out]
      have HA1 := Lib.hid (HA.out.onOld hb1)
      have HB1 := Lib.hid (HB.out.onOld hb1)
      go_wp2_with fail
      refine (box_Both a b _ _ _ HA1.out HB1.out).mono ?_
      rintro e w2 ⟨v2, rfl, _, hb2⟩
      have e1 : bothOk a b = false := by simp [bothOk, HF.out]
      rw [e1]
      clear e1
      have HA2 := Lib.hid (HA1.out.onOld hb2)
      go_wp2_with fail
      refine (box_clone a _ _ HA2.out (by omega) (sets_small (setsB_good HGA.out.2))).mono ?_
      rintro e w3 ⟨v3, rfl, ho3, hb3⟩
      have hn3 := ho3.sl (Nat.le_refl _)
      obtain ⟨A3, c3, rfl, -, -⟩ := hn3.form
      go_wp2
      go_ret
      have hb4 := bx (bx hb1 hb2) hb3
      refine ⟨_, rfl, ?_, hb4.alloc hb4.size _⟩
      have e2 : lessBox a b = [a] := by unfold lessBox; rw [if_pos HL.out, if_neg (by rw [HF.out]; simp)]
      rw [e2]
      refine OwnG.lit w3 [a] #[.slice A3 a.length c3] hb4.size (by unfold maxLen; simp) rfl (Elems.one ⟨_, rfl, ?_⟩)
      exact (hn3.below (fun _ h => h.2) (below_alloc1 w3 _)).more fun k hk => ⟨Nat.le_trans (bx hb1 hb2).size hk.1, hk.2⟩
    · have HF := Lib.hid hfull
      clear hfull
      go_enter Tryz.func172, Tryz.ntmps172
      go_wp2_with fail
      refine (box_alike a b _ _ _ HA.out HB.out).mono ?_
      rintro e w1 ⟨rfl, hb1⟩
      rw [HL.out]
      have HA1 := Lib.hid (HA.out.onOld hb1)
      have HB1 := Lib.hid (HB.out.onOld hb1)
      go_wp2_with fail
      refine (box_Both a b _ _ _ HA1.out HB1.out).mono ?_
      rintro e w2 ⟨v2, rfl, hn2, hb2⟩
      have e1 : bothOk a b = true := by simp [bothOk, HF.out, HL.out]
      rw [show bothBox a b = interL a b from by unfold bothBox; rw [e1]; rfl] at hn2
      rw [e1]
      clear e1
      have HLI := Lib.hid (inter_len HLB.out)
      have HA2 := Lib.hid (HA1.out.onOld hb2)
      have HB2 := Lib.hid (HB1.out.onOld hb2)
      have HC2 := Lib.hid (hn2.more (S' := Old w2) fun _ h => h.2)
      have hb02 := bx hb1 hb2
      clear hn2 hb1 hb2
      obtain ⟨C, cc, rfl, cc1, cc2⟩ := HC2.out.form
      have hcc1 : a.length ≤ cc := by have := HLI.out; omega
      rw [HLI.out]
      rw [HLI.out] at HC2
      clear cc1
      unfold maxLen at cc2
      have HI := Lib.hid (inter_sets HGA.out.2 HGB.out.2 HF.out)
      have hsz2 := hb02.size
      go_wp2
      go_loopw [7, 27] (fun u i wr => ∃ (k : Nat) (O : List (List (List (Int × Int)))), k ≤ a.length ∧ i = .int .i64 k ∧ Hid (lessR [] a b = O ++ lessR ((interL a b).take k) (a.drop k) (b.drop k)) ∧ O.length ≤ k ∧ OwnG Enc.rng.slice.slice wr w2.heap.size w2.heap.size 63 u O ∧ Below w2.heap.size w2 wr) (fun _ i _ => a.length - (intOf i).toNat)
      case atStart => exact ⟨0, [], Nat.zero_le _, rfl, rfl, Nat.le_refl _, OwnG.nil, Below.refl _ _⟩
      case round =>
        obtain ⟨k, O, hk, rfl, hR, hO, hown, hbl⟩ := hrel
        have hsz := hbl.size
        by_cases hlt : k < a.length
        · have hltb : k < b.length := by have := HLB.out; omega
          obtain ⟨ba, oa, s, us, rfl, _, hs, a1, a2⟩ := (HA2.out.below (fun _ h => h) hbl).sl_at hlt
          obtain ⟨bb, ob, t, ut, rfl, _, ht, b1, b2⟩ := (HB2.out.below (fun _ h => h) hbl).sl_at hltb
          have HS := Lib.hid (a2.more (S' := Old wr) fun _ h => Nat.lt_of_lt_of_le h hsz)
          have HT := Lib.hid (b2.more (S' := Old wr) fun _ h => Nat.lt_of_lt_of_le h hsz)
          have HO := Lib.hid hown
          have HRA := Lib.hid (lessR_at (p := (interL a b).take k) hs.out ht.out)
          have HTK := Lib.hid (take_at (inter_at hs.out ht.out))
          have ls := set_len (set_at HGA.out.2 hs.out)
          have lt := set_len (set_at HGB.out.2 ht.out)
          have HAI := Lib.hid (good_allIn (set_at HGB.out.2 ht.out))
          clear a2 b2 hown
          go_wp2_with fail
          go_still_tail 8, (by kernel_rfl)
          go_wp2_with fail
          refine (span_Less s t _ _ _ (by exact HS.out) (by exact HT.out) (by omega) HAI.out).mono ?_
          rintro e w3 ⟨v3, rfl, ho3, hg3, _⟩
          have hb3 : Below wr.heap.size wr w3 := (Below.refl _ _).drew.grown hg3 (Nat.le_refl _) (fun _ h => by cases h)
          have hn3 : Sl Enc.rng w3 (From wr.heap.size w3) (lessF s t) v3 := ho3.from_
          obtain ⟨A3, c3, rfl, hA1, hA2⟩ := hn3.form
          clear hg3 ho3
          generalize lessF s t = D at *
          by_cases h0 : D.length = 0
          · have h0' : (D.length : Int) = 0 := by omega
            have H0 := Lib.hid h0
            clear h0
            go_wp2
            refine ⟨⟨k + 1, O, by omega, by go_num, ?_, by omega, HO.out.next hb3, bx hbl hb3⟩, by simp [intOf]; omega⟩
            show lessR [] a b = _
            rw [hR.out, HRA.out, if_pos H0.out, HTK.out, List.nil_append]
          · have h0' : 0 < (D.length : Int) := by omega
            have H0 := Lib.hid h0
            clear h0
            have HA3 := Lib.hid ((HA2.out.onOld hbl).onOld hb3)
            have HC3 := Lib.hid ((HC2.out.onOld hbl).onOld hb3)
            have HD3 := Lib.hid hn3
            have HO3 := Lib.hid (HO.out.next hb3)
            have hbl3 := bx hbl hb3
            have hsz3 := hbl3.size
            have HF3 := Lib.hid (HC3.out.front (j := k) (by have := HLI.out; omega))
            have HB3 := Lib.hid (HA3.out.back1 rfl (j := k + 1) (by omega))
            have hws := hb3.size
            clear hn3 hb3
            have w1' : IntKind.i64.wrap ((k : Int) + 1) = (k : Int) + 1 := IntWalk.i64_in _ (by omega)
            have HS1 := Lib.hid (sets_small (setsB_good (setsB_take HI.out k)))
            have HS2 := Lib.hid (sets_small (setsB_good (setsB_drop HGA.out.2 (k + 1))))
            have HLT : Hid (((interL a b).take k).length = k) := by have := HLI.out; rw [Hid, List.length_take]; omega
            have HLD : Hid ((a.drop (k + 1)).length = a.length - (k + 1)) := List.length_drop ..
            go_wp2_with fail
            have e1 : (0 : Int) ≤ k := by omega
            have e2 : (k : Int) ≤ cc := by omega
            have e3 : (0 : Int) ≤ (k : Int) + 1 := by omega
            have e4 : (k : Int) + 1 ≤ a.length := by omega
            go_region_law (first
              | (go_simp; go_at_call 210; refine (box_join wr.heap.size ((interL a b).take k) (a.drop (k + 1)) D _ _ _ _ ?_ ?_ ?_ ?_ ?_ HS1.out HS2.out).mono ?_; exact HF3.out; exact HD3.out; exact HB3.out; exact hws; (rw [HLT.out, HLD.out]; omega); rintro e w4 ⟨v4, rfl, ho4, hb4⟩; have hn4 := ho4.sl (by exact hws); obtain ⟨A4, c4, rfl, -, -⟩ := hn4.form; generalize hX : (interL a b).take k ++ D :: a.drop (k + 1) = X at *; have HX := Lib.hid hX; clear hX; have hb4' : Below w3.heap.size w3 w4 := ⟨hb4.os, hb4.tape, hb4.output, hb4.size, hb4.block⟩; have HY : Hid (Enc.rng.slice.slice.rd (w4.alloc (.cells #[.slice A4 X.length c4] 63)) (Off w2.heap.size (w4.alloc (.cells #[.slice A4 X.length c4] 63)) u7) X [.slice A4 X.length c4]) := ⟨_, rfl, (hn4.on (below_alloc1 _ _)).more (off_new HO.out hsz (Nat.le_refl _))⟩; have HO4 := Lib.hid ((HO3.out.next hb4').alloc (.cells #[.slice A4 X.length c4] 63)); have hb5 := (bx hbl3 hb4').alloc (Nat.le_trans hsz3 hb4'.size) (.cells #[.slice A4 X.length c4] 63); have hs5 : w2.heap.size ≤ (w4.alloc (.cells #[.slice A4 X.length c4] 63)).heap.size := hb5.size; clear hn4 ho4 hb4 hb4')
              | (refine step_append_one (E := Enc.rng.slice.slice) rfl (.tmp 42) (.tmp 52) 142 rfl w2.heap.size w2.heap.size 63 24 (.slice none 0 0) under_boxes infoBox rfl (by decide) u7 O (by simp [Act.eval]) HO4.out ⟨w4.heap.size, 0, none⟩ X [.slice A4 X.length c4] (by simp [Act.eval]) HY.out (cell_one_new _ _ _) (by omega) (by unfold maxLen; omega) hs5 ?_; intro v5 w5 ho5 hg5 _; have HO5 := Lib.hid ho5; have hb6 := hb5.grown hg5 hs5 (fun _ hr => (HO.out.lt _ hr).1); clear ho5 hg5))
            all_goals go_wp2
            refine ⟨⟨k + 1, O ++ [X], by omega, by go_num, ?_, by simp; omega, HO5.out, hb6⟩, by simp [intOf]; omega⟩
            show lessR [] a b = _
            rw [hR.out, HRA.out, if_neg H0.out, HTK.out, List.append_assoc]
        · go_wp2
          go_ret
          refine ⟨_, rfl, ?_, bx hb02 hbl⟩
          have e1 : lessBox a b = O := by
            unfold lessBox
            rw [if_pos HL.out, if_pos HF.out, hR.out, List.drop_of_length_le (by omega)]
            simp [lessR]
          rw [e1]
          exact (hown.mono hsz2).monoLo hsz2

end Go.Proofs.YtmdljknlbmlacabGreatDoor
namespace Go.Proofs.YtmdljknlbmlacabGreatDoor
open Go.RowKit

set_option maxHeartbeats 400000 in
theorem box_lessEach (l : List (List (List (Int × Int)))) (b : List (List (Int × Int))) (vl vb : Value) (w : World) (hl : Sl Enc.rng.slice.slice w (Old w) l vl) (hb : Sl Enc.rng.slice w (Old w) b vb) (hlen : l.length * 3 * 24 ≤ 140737488355328) :
    Calls Tryz.prog 126 #[vl, vb] w (RowPost Enc.rng.slice.slice 63 w.heap.size (eachBox l b) w) := by
  have H := Lib.hid hl
  have HB := Lib.hid hb
  clear hb
  obtain ⟨A, c, rfl, hc1, hc2, -⟩ := hl
  unfold maxLen at hc2
  go_enter Tryz.func126, Tryz.ntmps126
  go_wp2
  go_loopw [5, 10] (fun u i wr => ∃ k : Nat, k ≤ l.length ∧ i = .int .i64 k ∧ OwnG Enc.rng.slice.slice wr w.heap.size w.heap.size 63 u (eachBox (l.take k) b) ∧ Below w.heap.size w wr) (fun _ i _ => l.length - (intOf i).toNat)
  case atStart => exact ⟨0, Nat.zero_le _, rfl, OwnG.nil, Below.refl _ _⟩
  case round =>
    obtain ⟨k, hk, rfl, hown, hbl⟩ := hrel
    have hsz := hbl.size
    by_cases hlt : k < l.length
    · obtain ⟨bb, o, a, ua, rfl, _, hx, h1, h2⟩ := (H.out.below (fun _ h => h) hbl).sl_at hlt
      have HS := Lib.hid (h2.more (S' := Old wr) fun _ h => Nat.lt_of_lt_of_le h hsz)
      have HB1 := Lib.hid (HB.out.onOld hbl)
      have HO := Lib.hid hown
      have HT := Lib.hid (eachBox_take hx.out b)
      have HN : Hid ((eachBox (l.take k) b).length ≤ 3 * k) := by have := eachBox_length (l.take k) b; rw [List.length_take] at this; show _ ≤ _; omega
      have HM := Lib.hid (lessBox_length a b)
      clear h2 hown
      go_wp2_with fail
      refine (box_Less a b _ _ _ HS.out HB1.out).mono ?_
      rintro e w1 ⟨v1, rfl, ho1, hb1⟩
      have hn1 := ho1.sl (Nat.le_refl _)
      have HO1 := Lib.hid (HO.out.next hb1)
      have HX := Lib.hid hn1
      have HF := Lib.hid (fun (y : List (List (Int × Int))) cs (h : Enc.rng.slice.slice.rd w1 (From wr.heap.size w1) y cs) => Enc.more _ h (off_new HO.out hsz (Nat.le_refl w1.heap.size)))
      have hb2 : Below w.heap.size w w1 := bx hbl hb1
      have hsz2 := hb2.size
      clear hn1 ho1 hb1
      go_wp2_with (at_builtin; refine wpList_append_all (E := Enc.rng.slice.slice) _ rfl _ _ 142 rfl w.heap.size w.heap.size 63 24 (.slice none 0 0) under_boxes infoBox rfl (by decide) _ _ rfl HO1.out _ (lessBox a b) rfl _ HX.out HF.out (by have := HN.out; have := HM.out; omega) (by have := HN.out; have := HM.out; unfold maxLen; omega) hsz2 ?_; intro v4 w4 ho4 hg4 _)
      refine ⟨⟨k + 1, by omega, by go_num, by rw [HT.out]; exact ho4, hb2.grown hg4 hsz2 (fun _ hr => (HO.out.lt _ hr).1)⟩, by simp [intOf]; omega⟩
    · go_wp2
      go_ret
      have e : l.take k = l := List.take_of_length_le (by omega)
      rw [e] at hown
      exact ⟨_, rfl, hown, hbl⟩

set_option maxHeartbeats 400000 in
theorem box_Rest (a : List (List (Int × Int))) (l : List (List (List (Int × Int)))) (va vl : Value) (w : World) (ha : Sl Enc.rng.slice w (Old w) a va) (hl : Sl Enc.rng.slice.slice w (Old w) l vl) (hlen : l.length ≤ 20) :
    Calls Tryz.prog 93 #[va, vl] w (RowPost Enc.rng.slice.slice 63 w.heap.size (restBox a l) w) := by
  have HA := Lib.hid ha
  have H := Lib.hid hl
  obtain ⟨A, c, rfl, hc1, hc2, -⟩ := ha
  obtain ⟨B, d, rfl, hd1, hd2, -⟩ := hl
  unfold maxLen at hc2 hd2
  cases hg : goodBox a a.length
  · have HG := Lib.hid hg
    clear hg
    go_enter Tryz.func93, Tryz.ntmps93
    go_wp2_with fail
    refine (box_Good a _ _ _ HA.out).mono ?_
    rintro e w1 ⟨rfl, hb1⟩
    rw [HG.out]
    go_wp2
    go_ret
    exact ⟨_, rfl, by rw [restBox_eq, HG.out]; exact OwnG.nil, hb1⟩
  · have HG := Lib.hid hg
    have HGA := Lib.hid (goodBox_iff.1 hg)
    have lenA : a.length ≤ 3 := by have := HGA.out; omega
    clear hg
    go_enter Tryz.func93, Tryz.ntmps93
    go_wp2_with fail
    refine (box_Good a _ _ _ HA.out).mono ?_
    rintro e w1 ⟨rfl, hb1⟩
    rw [HG.out]
    have HA1 := Lib.hid (HA.out.onOld hb1)
    go_wp2_with fail
    refine (box_clone a _ _ HA1.out (by omega) (sets_small (setsB_good HGA.out.2))).mono ?_
    rintro e w2 ⟨v2, rfl, ho2, hb2⟩
    have hn2 := ho2.sl (Nat.le_refl _)
    obtain ⟨A2, c2, rfl, -, -⟩ := hn2.form
    have hb02 := bx hb1 hb2
    have HL2 := Lib.hid (H.out.onOld hb02)
    have hsz2 := hb02.size
    have HO2 : Hid (OwnG Enc.rng.slice.slice (w2.alloc (.cells #[.slice A2 a.length c2] 63)) w.heap.size w.heap.size 63 (.slice (some ⟨w2.heap.size, 0, none⟩) 1 1) [a]) := by
      refine OwnG.lit w2 [a] #[.slice A2 a.length c2] hsz2 (by unfold maxLen; simp) rfl (Elems.one ⟨_, rfl, ?_⟩)
      exact (hn2.below (fun _ h => h.2) (below_alloc1 w2 _)).more fun k hk => ⟨Nat.le_trans hb1.size hk.1, hk.2⟩
    have hb03 : Below w.heap.size w (w2.alloc (.cells #[.slice A2 a.length c2] 63)) := hb02.alloc hsz2 _
    clear hn2 ho2 hb2 hb1 hb02
    have HAW := Lib.hid (HA.out)
    go_wp2
    go_loopw [5, 18] (fun u i wr => ∃ k : Nat, k ≤ l.length ∧ i = .int .i64 k ∧ OwnG Enc.rng.slice.slice wr w.heap.size w.heap.size 63 u (restF a (l.take k)) ∧ Below w.heap.size w wr) (fun _ i _ => l.length - (intOf i).toNat)
    case atStart => exact ⟨0, Nat.zero_le _, rfl, HO2.out, hb03⟩
    case round =>
      clear HO2 hb03
      obtain ⟨k, hk, rfl, hown, hbl⟩ := hrel
      have hsz := hbl.size
      by_cases hlt : k < l.length
      · obtain ⟨bb, o, b, ub, rfl, _, hx, h1, h2⟩ := (H.out.below (fun _ h => h) hbl).sl_at hlt
        have HS := Lib.hid (h2.more (S' := Old wr) fun _ h => Nat.lt_of_lt_of_le h hsz)
        have HO := Lib.hid hown
        have HT := Lib.hid (restF_take (a := a) hx.out)
        have HN := Lib.hid (restF_all HG.out l k hk).2.1
        clear h2 hown
        go_wp2_with fail
        refine (box_Good b _ _ _ HS.out).mono ?_
        rintro e w3 ⟨rfl, hb3⟩
        cases hgb : goodBox b a.length
        · have HGB := Lib.hid hgb
          clear hgb
          go_wp2
          refine ⟨⟨k + 1, by omega, by go_num, ?_, bx hbl hb3⟩, by simp [intOf]; omega⟩
          rw [HT.out, restStep, HGB.out]
          exact HO.out.next hb3
        · have HGB := Lib.hid hgb
          have HS3 := Lib.hid (HS.out.onOld hb3)
          have HR3 := Lib.hid ((HO.out.next hb3).slOld (Nat.le_refl _))
          have hb4 := bx hbl hb3
          clear hgb hb3
          go_wp2_with fail
          refine (box_lessEach (restF a (l.take k)) b _ _ _ HR3.out HS3.out ?_).mono ?_
          · have h1 := HN.out
            have h2 : 3 ^ k ≤ 3 ^ 20 := Nat.pow_le_pow_right (by omega) (by omega)
            have h3 : 3 ^ 20 = 3486784401 := by decide
            omega
          rintro e w4 ⟨v4, rfl, ho4, hb5⟩
          go_wp2
          refine ⟨⟨k + 1, by omega, by go_num, ?_, bx hb4 hb5⟩, by simp [intOf]; omega⟩
          rw [HT.out, restStep, HGB.out]
          exact (ho4.mono hb4.size).monoLo hb4.size
      · go_wp2
        go_ret
        have e : l.take k = l := List.take_of_length_le (by omega)
        rw [e] at hown
        exact ⟨_, rfl, by rw [restBox_eq, HG.out]; exact hown, hbl⟩

theorem pointL_take {b : List (List (Int × Int))} {k : Nat} {s : List (Int × Int)} (h : b[k]? = some s) : pointL (b.take (k + 1)) = pointL (b.take k) ++ (s.head?.map (·.1)).toList := by
  rw [take_at h]
  simp only [pointL, List.filterMap_append]
  cases s <;> rfl
theorem pointL_length (b : List (List (Int × Int))) : (pointL b).length ≤ b.length := List.length_filterMap_le ..
theorem infoInt' : (Tryz.prog.info? 3).map (fun i => (i.zero, i.size, i.bytes)) = some (some (.int .i64 0), 1, 8) := by kernel_rfl
theorem under_ints : Tryz.prog.underlying 27 = some (.slice 3) := by kernel_rfl

set_option maxHeartbeats 400000 in
theorem box_Point (b : List (List (Int × Int))) (v : Value) (w : World) (h : Sl Enc.rng.slice w (Old w) b v) (hl : b.length * 8 ≤ 140737488355328) :
    Calls Tryz.prog 122 #[v] w (RowPost Enc.int 3 w.heap.size (pointL b) w) := by
  have H := Lib.hid h
  obtain ⟨A, c, rfl, hc1, hc2, -⟩ := h
  unfold maxLen at hc2
  go_enter Tryz.func122, Tryz.ntmps122
  go_wp2
  go_loopw [3, 8] (fun u i wr => ∃ k : Nat, k ≤ b.length ∧ i = .int .i64 k ∧ OwnG Enc.int wr w.heap.size w.heap.size 3 u (pointL (b.take k)) ∧ Below w.heap.size w wr) (fun _ i _ => b.length - (intOf i).toNat)
  case atStart => exact ⟨0, Nat.zero_le _, rfl, OwnG.nil, Below.refl _ _⟩
  case round =>
    obtain ⟨k, hk, rfl, hown, hbl⟩ := hrel
    have hsz := hbl.size
    by_cases hlt : k < b.length
    · obtain ⟨bb, o, s, us, rfl, _, hx, h1, h2⟩ := (H.out.below (fun _ h => h) hbl).sl_at hlt
      have HS := Lib.hid h2
      have HO := Lib.hid hown
      have HT := Lib.hid (pointL_take hx.out)
      have HN : Hid ((pointL (b.take k)).length ≤ k) := by have := pointL_length (b.take k); rw [List.length_take] at this; show _ ≤ _; omega
      obtain ⟨As, cs, rfl, hs1, hs2, -⟩ := h2
      clear hown
      by_cases h0 : s.length = 0
      · have h0' : (s.length : Int) = 0 := by omega
        have HE : Hid (s = []) := List.length_eq_zero_iff.1 h0
        clear h0
        go_wp2
        refine ⟨⟨k + 1, by omega, by go_num, ?_, hbl⟩, by simp [intOf]; omega⟩
        rw [HT.out, HE.out]
        simpa using HO.out
      · have h0' : 0 < (s.length : Int) := by omega
        obtain ⟨b2, o2, x, y, rfl, _, hr, r1, r2⟩ := HS.out.rng_at (k := 0) (by omega)
        have r1' : wr.cell? ⟨b2, o2, none⟩ = some (.int .i64 x) := by simpa using r1
        have HE : Hid (s.head?.map (·.1) = some x) := by
          have := hr.out
          cases s with
          | nil => simp at this
          | cons r s => simp at this; simp [this, Hid]
        clear r1 r2 h0
        have HO1 := Lib.hid (HO.out.alloc (.cells #[.int .i64 x] 3))
        have HY : Hid (Enc.int.rd (wr.alloc (.cells #[.int .i64 x] 3)) (Off w.heap.size (wr.alloc (.cells #[.int .i64 x] 3)) u3) x [.int .i64 x]) := rfl
        have hb2 : Below w.heap.size w (wr.alloc (.cells #[.int .i64 x] 3)) := hbl.alloc hsz _
        go_wp2_with (at_builtin; refine wpList_append_one (E := Enc.int) _ rfl _ _ 27 rfl w.heap.size w.heap.size 3 8 (.int .i64 0) under_ints infoInt' rfl (by decide) _ _ rfl HO1.out ⟨wr.heap.size, 0, none⟩ x [.int .i64 x] rfl HY.out (cell_one_new _ _ _) (by have := HN.out; omega) (by have := HN.out; unfold maxLen; omega) (by simp; omega) ?_; intro v' w3 hown' hgrow3 _)
        refine ⟨⟨k + 1, by omega, by go_num, ?_, hb2.grown hgrow3 (by simp; omega) (fun _ hr => (HO.out.lt _ hr).1)⟩, by simp [intOf]; omega⟩
        rw [HT.out, HE.out]
        exact hown'
    · go_wp2
      go_ret
      have e : b.take k = b := List.take_of_length_le (by omega)
      rw [e] at hown
      exact ⟨_, rfl, hown, hbl⟩

end Go.Proofs.YtmdljknlbmlacabGreatDoor
