/- ratebookref.BothBoxes. Condition: argument slices read as lists in old memory. -/
import Derived.Test.YtmdljknlbmlacaaRefBox2
namespace Go.Proofs.Ytmdljknlbmlacaa
open Go.RowKit

set_option maxHeartbeats 1000000 in
theorem ref_BothBoxes (a b : List (List (Int × Int))) (va vb : Value) (w : World) (ha : Sl Enc.rng.slice w (Old w) a va) (hb : Sl Enc.rng.slice w (Old w) b vb) :
    Calls Try.prog 31 #[va, vb] w (BothPost (bothBox a b) (bothOk a b) w) := by
  have HA := Lib.hid ha
  have HB := Lib.hid hb
  obtain ⟨A, c, rfl, hc1, hc2, -⟩ := ha
  obtain ⟨B, d, rfl, hd1, hd2, -⟩ := hb
  unfold maxLen at hc2 hd2
  cases hga : goodBox a a.length
  · have HG := Lib.hid hga
    clear hga
    go_enter Try.func31, Try.ntmps31
    go_wp2_with fail
    refine (ref_IsBox a _ _ _ HA.out).mono ?_
    rintro e w1 ⟨rfl, hb1⟩
    rw [HG.out]
    go_wp2
    go_ret2
    have e1 : bothOk a b = false := by simp [bothOk, alikeB, HG.out]
    exact BothPost.no e1 hb1
  · have HG := Lib.hid hga
    clear hga
    cases hgb : goodBox b a.length
    · have HH := Lib.hid hgb
      clear hgb
      go_enter Try.func31, Try.ntmps31
      go_wp2_with fail
      refine (ref_IsBox a _ _ _ HA.out).mono ?_
      rintro e w1 ⟨rfl, hb1⟩
      rw [HG.out]
      have HB1 := Lib.hid (HB.out.onOld hb1)
      go_wp2_with fail
      refine (ref_IsBox b _ _ _ HB1.out).mono ?_
      rintro e w2 ⟨rfl, hb2⟩
      rw [HH.out]
      go_wp2
      go_ret2
      have e1 : bothOk a b = false := by simp [bothOk, alikeB, HH.out]
      exact BothPost.no e1 (bx hb1 hb2)
    · have HH := Lib.hid hgb
      clear hgb
      have HL : Hid (alikeB a b = true) := alikeB_iff.2 ⟨HG.out, HH.out⟩
      have HGA := Lib.hid (goodBox_iff.1 HG.out)
      have HGB := Lib.hid (goodBox_iff.1 HH.out)
      have lenA : a.length ≤ 3 := by have := HGA.out; omega
      have lenB : b.length = a.length := by have := HGB.out; omega
      have HLB := Lib.hid lenB
      have HLI := Lib.hid (inter_len lenB)
      clear lenB
      go_enter Try.func31, Try.ntmps31
      go_wp2_with fail
      refine (ref_IsBox a _ _ _ HA.out).mono ?_
      rintro e w0 ⟨rfl, hb0⟩
      rw [HG.out]
      have HA0 := Lib.hid (HA.out.onOld hb0)
      have HB0 := Lib.hid (HB.out.onOld hb0)
      go_wp2_with fail
      refine (ref_IsBox b _ _ _ HB0.out).mono ?_
      rintro e w1 ⟨rfl, hb1'⟩
      rw [HH.out]
      have HA1 := Lib.hid (HA0.out.onOld hb1')
      have HB1 := Lib.hid (HB0.out.onOld hb1')
      have hb1 := bx hb0 hb1'
      have hsz1 := hb1.size
      clear hb0 hb1' HA0 HB0
      go_wp2
      go_loopw [6, 22] (fun u i wr => ∃ k : Nat, k ≤ a.length ∧ i = .int .i64 k ∧ Hid (fullB ((interL a b).take k) = true) ∧ OwnG Enc.rng.slice wr w1.heap.size w1.heap.size 22 u ((interL a b).take k) ∧ Below w1.heap.size w1 wr) (fun _ i _ => a.length - (intOf i).toNat)
      case atStart => exact ⟨0, Nat.zero_le _, rfl, rfl, OwnG.nil, Below.refl _ _⟩
      case round =>
        obtain ⟨k, hk, rfl, hfull, hown, hbl⟩ := hrel
        have hsz := hbl.size
        by_cases hlt : k < a.length
        · have hltb : k < b.length := by have := HLB.out; omega
          obtain ⟨ba, oa, s, us, rfl, _, hs, a1, a2⟩ := (HA1.out.below (fun _ h => h) hbl).sl_at hlt
          obtain ⟨bb, ob, t, ut, rfl, _, ht, b1, b2⟩ := (HB1.out.below (fun _ h => h) hbl).sl_at hltb
          have HS := Lib.hid (a2.more (S' := Old wr) fun _ h => Nat.lt_of_lt_of_le h hsz)
          have HT := Lib.hid (b2.more (S' := Old wr) fun _ h => Nat.lt_of_lt_of_le h hsz)
          have HO := Lib.hid hown
          have HI := Lib.hid (inter_at hs.out ht.out)
          have HGS := Lib.hid (set_at HGA.out.2 hs.out)
          have HGT := Lib.hid (set_at HGB.out.2 ht.out)
          have HN : Hid (((interL a b).take k).length = k) := by have := HLI.out; rw [Hid, List.length_take]; omega
          have HTK := Lib.hid (take_at HI.out)
          have HFT : Hid ((bothF s t).length = 0 → fullB (interL a b) = false) := fun h => fullB_take HI.out h
          have HFN : Hid (¬ (bothF s t).length = 0 → fullB ((interL a b).take (k + 1)) = true) := by
            intro h0
            rw [take_at HI.out]
            have h1 := hfull.out
            simp only [fullB, List.all_append, Bool.and_eq_true] at h1 ⊢
            refine ⟨h1, ?_⟩
            simp only [List.all_cons, List.all_nil, Bool.and_true, decide_eq_true_eq]; omega
          clear a2 b2 hown
          have e1 : (0 : Int) ≤ k := by omega
          have e2 : (k : Int) < a.length := by omega
          have e3 : (k : Int) < b.length := by omega
          go_wp2_with fail
          generalize hC : bothF s t = C at *
          have HC := Lib.hid hC
          clear hC
          go_region_law (first
            | (go_simp; go_at_call 24; refine (ref_BothOf s t _ _ _ ?_ ?_ HGS.out HGT.out).mono ?_; exact HS.out; exact HT.out; rintro e w2 ⟨v2, rfl, ho2, hg2, -⟩; have hb2 : Below wr.heap.size wr w2 := (Below.refl _ _).drew.grown hg2 (Nat.le_refl _) (fun _ h => by cases h); rw [HC.out] at ho2; have hn2 : Sl Enc.rng w2 (From wr.heap.size w2) C v2 := ho2.from_; obtain ⟨A2, c2, rfl, hA1, hA2⟩ := hn2.form; have HO1 := Lib.hid ((HO.out.next hb2).alloc (.cells #[.slice A2 C.length c2] 22)); have HY : Hid (Enc.rng.slice.rd (w2.alloc (.cells #[.slice A2 C.length c2] 22)) (Off w1.heap.size (w2.alloc (.cells #[.slice A2 C.length c2] 22)) u6) C [.slice A2 C.length c2]) := ⟨_, rfl, (hn2.on (below_alloc1 _ _)).more (off_new HO.out hsz (Nat.le_refl _))⟩; have hb3 : Below w1.heap.size w1 (w2.alloc (.cells #[.slice A2 C.length c2] 22)) := (bx hbl hb2).alloc (Nat.le_trans hsz hb2.size) _; have hsz2 : w1.heap.size ≤ (w2.alloc (.cells #[.slice A2 C.length c2] 22)).heap.size := hb3.size; clear hn2 hb2 ho2 hg2)
            | (refine step_append_one (E := Enc.rng.slice) rfl (.tmp 25) (.tmp 35) 32 rfl w1.heap.size w1.heap.size 22 24 (.slice none 0 0) under_box infoSet rfl (by decide) u6 ((interL a b).take k) (by simp [Act.eval]) HO1.out ⟨w2.heap.size, 0, none⟩ C [.slice A2 C.length c2] (by simp [Act.eval]) HY.out (cell_one_new _ _ _) ?_ ?_ hsz2 ?_; (rw [HN.out]; omega); (rw [HN.out]; unfold maxLen; omega); intro v3 w3 ho3 hg3 _; have hb4 := hb3.grown hg3 hsz2 (fun _ hr => (HO.out.lt _ hr).1); rw [← HTK.out] at ho3; have hn3 := ho3.slOld (Nat.le_refl _); have HLK : Hid (((interL a b).take (k + 1)).length = k + 1) := (by have := HLI.out; rw [Hid, List.length_take]; omega); obtain ⟨A3, c3, rfl, -, -⟩ := hn3.form; rw [HLK.out] at hn3 ho3 ⊢; obtain ⟨g3, o3, s3, u3, rfl, -, hs3, k3, hu3⟩ := hn3.sl_at (k := k) (by rw [HLK.out]; omega); have ee : s3 = C := (by have e1 := hs3.out; rw [List.getElem?_take_of_lt (by omega), HI.out] at e1; injection e1 with e1; exact e1.symm); subst ee; obtain ⟨A4, c4, rfl, -, -⟩ := hu3.form; have HO3 := Lib.hid ho3; clear hn3 hg3 ho3 hu3 hs3))
          all_goals
            by_cases h0 : s3.length = 0
            · have h0' : (s3.length : Int) = 0 := by omega
              have HF := Lib.hid (HFT.out h0)
              clear h0
              go_wp2
              go_ret2
              have e1 : bothOk a b = false := by simp [bothOk, HF.out]
              exact BothPost.no e1 (bx hb1 hb4)
            · have h0' : ((s3.length : Int) == 0) = false := beq_eq_false_iff_ne.2 (by omega)
              have HFU := Lib.hid (HFN.out h0)
              clear h0
              go_wp2
              exact ⟨⟨k + 1, by omega, by go_num, HFU, HO3.out, hb4⟩, by simp [intOf]; omega⟩
        · go_wp2
          go_ret2
          have e : (interL a b).take k = interL a b := List.take_of_length_le (by have := HLI.out; omega)
          have hf := hfull.out
          rw [e] at hf hown
          have e1 : bothOk a b = true := by simp [bothOk, HL.out, hf]
          exact BothPost.yes e1 ((hown.sl (Nat.le_refl _)).more fun k hk => ⟨Nat.le_trans hsz1 hk.1, hk.2⟩) (bx hb1 hbl)

end Go.Proofs.Ytmdljknlbmlacaa
