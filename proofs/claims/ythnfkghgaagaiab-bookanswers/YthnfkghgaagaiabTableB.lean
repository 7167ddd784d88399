/- table.goodInputs, goodCell, goodRule, goodRules and Good, each as a Lean function of the data that its arguments read as. Conditions: argument slices read as lists in old memory. -/
import Derived.Test.YthnfkghgaagaiabTableA
namespace Go.Proofs.Ythnfkghgaagaiab
open Go.RowKit

set_option maxHeartbeats 400000 in
theorem table_goodInputs (l : List ByteArray) (v : Value) (w : World) (h : Sl Enc.str w (Old w) l v) (hs : ∀ s, s ∈ l → s.size ≤ 140737488355328) :
    Calls Try.prog 23 #[v] w fun e w' => e = .returned (.bool (goodIns l)) ∧ Below w.heap.size w w' := by
  have H := Lib.hid h
  have HS := Lib.hid hs
  clear hs
  obtain ⟨A, c, rfl, hc1, hc2, -⟩ := h
  unfold maxLen at hc2
  by_cases h0 : l.length = 0
  · have HE : Hid (goodIns l = false) := by simp [goodIns, h0, Hid]
    have h0' : (l.length : Int) = 0 := by omega
    go_enter Try.func23, Try.ntmps23
    go_wp2
    go_ret
    exact ⟨ret_bool HE.out.symm, Below.refl _ _⟩
  · by_cases h3 : l.length ≤ 3
    · have HE : Hid (goodIns l = insOk [] l) := by simp [goodIns, h3, Hid]; omega
      have h0' : ((l.length : Int) == 0) = false := beq_eq_false_iff_ne.2 (by omega)
      have h3' : (l.length : Int) ≤ 3 := by omega
      go_enter Try.func23, Try.ntmps23
      go_wp2
      go_loopw [15] (fun i wr => ∃ k : Nat, k ≤ l.length ∧ i = .int .i64 k ∧ Hid (insOk [] l = insOk (l.take k) (l.drop k)) ∧ Below w.heap.size w wr) (fun i _ => l.length - (intOf i).toNat)
      case atStart => exact ⟨0, Nat.zero_le _, rfl, rfl, Below.refl _ _⟩
      case round =>
        obtain ⟨k, hk, rfl, hf, hb⟩ := hrel
        have hsz := hb.size
        by_cases hlt : k < l.length
        · have HW := Lib.hid (H.out.onOld hb)
          obtain ⟨b, o, x, rfl, _, hx, c1⟩ := HW.out.str_at hlt
          have HX := Lib.hid (insOk_at hx.out)
          have HN := Lib.hid (HS.out x (List.mem_of_getElem? hx.out))
          go_wp2_with fail
          refine (table_Named x _ HN.out).mono ?_
          rintro e w1 ⟨rfl, hb1⟩
          cases hn : nameB x
          · have HM := Lib.hid hn
            clear hn
            go_wp2
            go_ret
            exact ⟨ret_bool (by rw [HE.out, hf.out, HX.out, HM.out]; rfl), bx hb hb1⟩
          · have HM := Lib.hid hn
            have HF := Lib.hid ((HW.out.onOld hb1).front (j := k) (by omega))
            clear hn
            go_wp2_with fail
            refine (slices_Contains (l.take k) _ x _ HF.out).mono ?_
            rintro e w2 ⟨rfl, hb2⟩
            cases hq : (l.take k).any (sameS x)
            · have HQ := Lib.hid hq
              clear hq
              go_wp2
              refine ⟨⟨k + 1, by omega, by go_num, ?_, bx hb (bx hb1 hb2)⟩, by simp [intOf]; omega⟩
              show insOk [] l = _
              rw [hf.out, HX.out, HM.out, HQ.out]; rfl
            · have HQ := Lib.hid hq
              clear hq
              go_wp2
              go_ret
              exact ⟨ret_bool (by rw [HE.out, hf.out, HX.out, HM.out, HQ.out]; rfl), bx hb (bx hb1 hb2)⟩
        · go_wp2
          go_ret
          have hf' := hf.out
          rw [List.drop_of_length_le (by omega)] at hf'
          exact ⟨ret_bool (by rw [HE.out, hf']; rfl), hb⟩
    · have HE : Hid (goodIns l = false) := by simp [goodIns, h3, Hid]
      have h0' : ((l.length : Int) == 0) = false := beq_eq_false_iff_ne.2 (by omega)
      have h3' : 3 < (l.length : Int) := by omega
      go_enter Try.func23, Try.ntmps23
      go_wp2
      go_ret
      exact ⟨ret_bool HE.out.symm, Below.refl _ _⟩

set_option maxHeartbeats 400000 in
theorem table_goodCell (ng : Bool) (rs : List (Int × Int)) (v : Value) (w : World) (h : Sl Enc.rng w (Old w) rs v) :
    Calls Try.prog 63 #[.agg #[.bool ng, v]] w fun e w' => e = .returned (.bool (goodC (ng, rs))) ∧ Below w.heap.size w w' := by
  have H := Lib.hid h
  obtain ⟨A, c, rfl, hc1, hc2, -⟩ := h
  unfold maxLen at hc2
  have hb0 := below_alloc1 w (.cells #[.bool ng, .slice A rs.length c] 77)
  have H1 := Lib.hid (H.out.onOld hb0)
  by_cases h0 : ng = true ∧ rs.length = 0
  · obtain ⟨rfl, h0⟩ := h0
    have h0' : (rs.length : Int) = 0 := by omega
    have HE : Hid (goodC (true, rs) = false) := by simp [goodC, h0, Hid]
    go_enter Try.func63, Try.ntmps63
    go_wp2
    go_ret
    exact ⟨ret_bool HE.out.symm, below_alloc1 _ _⟩
  · have h0' : ng = false ∨ ((rs.length : Int) == 0) = false := by
      cases ng
      · exact .inl rfl
      · exact .inr (beq_eq_false_iff_ne.2 (fun h => h0 ⟨rfl, by omega⟩))
    have HE : Hid (goodC (ng, rs) = (decide (rs.length ≤ 4) && goodB rs)) := by
      show _ = _
      unfold goodC
      cases ng <;> simp_all
    by_cases h4 : rs.length ≤ 4
    · have h4' : (rs.length : Int) ≤ 4 := by omega
      rcases h0' with rfl | h0'
      · go_enter Try.func63, Try.ntmps63
        go_wp2_with fail
        refine (span_Good rs _ _ H1.out).mono ?_
        rintro e w1 ⟨rfl, hb1⟩
        go_wp2
        go_ret
        exact ⟨ret_bool (by rw [HE.out]; simp [h4]), bx hb0 hb1⟩
      · cases ng
        all_goals
          go_enter Try.func63, Try.ntmps63
          go_wp2_with fail
          refine (span_Good rs _ _ H1.out).mono ?_
          rintro e w1 ⟨rfl, hb1⟩
          go_wp2
          go_ret
          exact ⟨ret_bool (by rw [HE.out]; simp [h4]), bx hb0 hb1⟩
    · have h4' : 4 < (rs.length : Int) := by omega
      have HF : Hid (goodC (ng, rs) = false) := by show _ = _; rw [HE.out]; simp [h4]
      clear HE
      cases ng
      all_goals
        go_enter Try.func63, Try.ntmps63
        go_wp2
        go_ret
        exact ⟨ret_bool HF.out.symm, hb0⟩

set_option maxHeartbeats 400000 in
theorem table_goodRule (cs : List CellD) (x n : Int) (v : Value) (w : World) (h : Sl Enc.cell w (Old w) cs v) :
    Calls Try.prog 45 #[.agg #[v, .int .i64 x], .int .i64 n] w fun e w' => e = .returned (.bool (goodR n (cs, x))) ∧ Below w.heap.size w w' := by
  have H := Lib.hid h
  obtain ⟨A, c, rfl, hc1, hc2, -⟩ := h
  unfold maxLen at hc2
  have hb0 := below_alloc1 w (.cells #[.slice A cs.length c, .int .i64 x] 43)
  by_cases h1 : x < -1000000
  · have HE : Hid (goodR n (cs, x) = false) := by simp [goodR, Hid]; omega
    go_enter Try.func45, Try.ntmps45
    go_wp2
    go_ret
    exact ⟨ret_bool HE.out.symm, hb0⟩
  · by_cases h2 : 1000000 < x
    · have h1' : -1000000 ≤ x := by omega
      have HE : Hid (goodR n (cs, x) = false) := by simp [goodR, Hid]; omega
      go_enter Try.func45, Try.ntmps45
      go_wp2
      go_ret
      exact ⟨ret_bool HE.out.symm, hb0⟩
    · have h1' : -1000000 ≤ x := by omega
      have h2' : x ≤ 1000000 := by omega
      by_cases hn : (cs.length : Int) = n
      · have hne : ((cs.length : Int) != n) = false := by simp [hn]
        have HE : Hid (goodR n (cs, x) = cs.all goodC) := by simp [goodR, hn, h1', h2', Hid]
        have HN := Lib.hid hn
        clear hn h1 h2
        go_enter Try.func45, Try.ntmps45
        go_wp2
        go_loopw [25] (fun i wr => ∃ k : Nat, k ≤ cs.length ∧ i = .int .i64 k ∧ Hid (cs.all goodC = (cs.drop k).all goodC) ∧ Below w.heap.size w wr) (fun i _ => cs.length - (intOf i).toNat)
        case atStart => exact ⟨0, Nat.zero_le _, rfl, rfl, hb0⟩
        case round =>
          obtain ⟨k, hk, rfl, hf, hb⟩ := hrel
          have hsz := hb.size
          by_cases hlt : k < cs.length
          · obtain ⟨b, o, ng, rs, vr, rfl, _, hx, c1, c2, hr⟩ := (H.out.onOld hb).cell_at hlt
            obtain ⟨Ar, cr, rfl, hr1, hr2⟩ := hr.form
            have hbz := below_alloc1 wr (.cells #[.bool ng, .slice Ar rs.length cr] 77)
            have HR := Lib.hid (hr.onOld hbz)
            have HX := Lib.hid (all_at (f := goodC) hx.out)
            clear hr
            go_wp2_with fail
            refine (table_goodCell ng rs _ _ HR.out).mono ?_
            rintro e w1 ⟨rfl, hb1⟩
            cases hg : goodC (ng, rs)
            · have HG := Lib.hid hg
              clear hg
              go_wp2
              go_ret
              exact ⟨ret_bool (by rw [HE.out, hf.out, HX.out, HG.out]; rfl), bx hb (bx hbz hb1)⟩
            · have HG := Lib.hid hg
              clear hg
              go_wp2
              refine ⟨⟨k + 1, by omega, by go_num, ?_, bx hb (bx hbz hb1)⟩, by simp [intOf]; omega⟩
              show cs.all goodC = _
              rw [hf.out, HX.out, HG.out]; rfl
          · go_wp2
            go_ret
            have hf' := hf.out
            rw [List.drop_of_length_le (by omega)] at hf'
            exact ⟨ret_bool (by rw [HE.out, hf']; rfl), hb⟩
      · have hne : ((cs.length : Int) != n) = true := by simpa using hn
        have HE : Hid (goodR n (cs, x) = false) := by simp [goodR, hn, Hid]
        clear hn h1 h2
        go_enter Try.func45, Try.ntmps45
        go_wp2
        go_ret
        exact ⟨ret_bool HE.out.symm, hb0⟩

set_option maxHeartbeats 400000 in
theorem table_goodRules (l : List RuleD) (n : Int) (v : Value) (w : World) (h : Sl Enc.rule w (Old w) l v) :
    Calls Try.prog 24 #[v, .int .i64 n] w fun e w' => e = .returned (.bool (goodRs n l)) ∧ Below w.heap.size w w' := by
  have H := Lib.hid h
  obtain ⟨A, c, rfl, hc1, hc2, -⟩ := h
  unfold maxLen at hc2
  by_cases h0 : l.length = 0
  · have HE : Hid (goodRs n l = false) := by simp [goodRs, h0, Hid]
    have h0' : (l.length : Int) = 0 := by omega
    go_enter Try.func24, Try.ntmps24
    go_wp2
    go_ret
    exact ⟨ret_bool HE.out.symm, Below.refl _ _⟩
  · by_cases h3 : l.length ≤ 6
    · have HE : Hid (goodRs n l = l.all (goodR n)) := by show _ = _; unfold goodRs; rw [decide_eq_true (show 0 < l.length by omega), decide_eq_true h3]; rfl
      have h0' : ((l.length : Int) == 0) = false := beq_eq_false_iff_ne.2 (by omega)
      have h3' : (l.length : Int) ≤ 6 := by omega
      go_enter Try.func24, Try.ntmps24
      go_wp2
      go_loopw [17] (fun i wr => ∃ k : Nat, k ≤ l.length ∧ i = .int .i64 k ∧ Hid (l.all (goodR n) = (l.drop k).all (goodR n)) ∧ Below w.heap.size w wr) (fun i _ => l.length - (intOf i).toNat)
      case atStart => exact ⟨0, Nat.zero_le _, rfl, rfl, Below.refl _ _⟩
      case round =>
        obtain ⟨k, hk, rfl, hf, hb⟩ := hrel
        have hsz := hb.size
        by_cases hlt : k < l.length
        · obtain ⟨b, o, cs, x, vc, rfl, _, hx, c1, c2, hr⟩ := (H.out.onOld hb).rule_at hlt
          obtain ⟨Ar, cr, rfl, hr1, hr2⟩ := hr.form
          have hbz := below_alloc1 wr (.cells #[.slice Ar cs.length cr, .int .i64 x] 43)
          have HR := Lib.hid (hr.onOld hbz)
          have HX := Lib.hid (all_at (f := goodR n) hx.out)
          clear hr
          go_wp2_with fail
          refine (table_goodRule cs x n _ _ HR.out).mono ?_
          rintro e w1 ⟨rfl, hb1⟩
          cases hg : goodR n (cs, x)
          · have HG := Lib.hid hg
            clear hg
            go_wp2
            go_ret
            exact ⟨ret_bool (by rw [HE.out, hf.out, HX.out, HG.out]; rfl), bx hb (bx hbz hb1)⟩
          · have HG := Lib.hid hg
            clear hg
            go_wp2
            refine ⟨⟨k + 1, by omega, by go_num, ?_, bx hb (bx hbz hb1)⟩, by simp [intOf]; omega⟩
            show l.all (goodR n) = _
            rw [hf.out, HX.out, HG.out]; rfl
        · go_wp2
          go_ret
          have hf' := hf.out
          rw [List.drop_of_length_le (by omega)] at hf'
          exact ⟨ret_bool (by rw [HE.out, hf']; rfl), hb⟩
    · have HE : Hid (goodRs n l = false) := by simp [goodRs, h3, Hid]
      have h0' : ((l.length : Int) == 0) = false := beq_eq_false_iff_ne.2 (by omega)
      have h3' : 6 < (l.length : Int) := by omega
      go_enter Try.func24, Try.ntmps24
      go_wp2
      go_ret
      exact ⟨ret_bool HE.out.symm, Below.refl _ _⟩

end Go.Proofs.Ythnfkghgaagaiab
