/- table.Named, slices.Index, slices.Contains, goodInputs, goodCell, goodRule, goodRules and Good, each as a Lean function of the data that its arguments read as. Conditions: argument slices read as lists in old memory. table.goodInputs, goodCell, goodRule, goodRules and Good, each as a Lean function of the data that its arguments read as. Conditions: argument slices read as lists in old memory. table.Good, Holds, matches and Matches, each as a Lean function of the data that its arguments read as. Conditions: argument slices read as lists in old memory; the indices of all rules fit into 2^47 bytes. table.forbids, conflict, sum, slices.Min, slices.Max, combine and Says, each as a Lean function of the data that its arguments read as. Conditions: argument slices read as lists in old memory; numbers that are added are bounded as those of good tables are. table.combine and Says, as Lean functions of the data that their arguments read as. Conditions: argument slices read as lists in old memory; numbers that are added are bounded as those of good tables are. table.sums, extremes and Span, as Lean functions of the data that their arguments read as. Conditions: argument slices read as lists in old memory; numbers that are added are bounded as those of good tables are. -/
import Derived.Test.YtmdljknlbmlacabDoorSpan
import Derived.Test.YtmdljknlbmlacabDoorBox
import Derived.Test.YtmdljknlbmlacabDoorTabs
import Derived.Test.YtmdljknlbmlacabDoorBoxMake
import Derived.Deep.RegionHeld3
import Derived.OwnWalk
namespace Go.Proofs.YtmdljknlbmlacabDoor
open Go.RowKit

theorem letters_at {s : ByteArray} {k : Nat} {b : UInt8} (h : s.data.toList[k]? = some b) : (s.data.toList.drop k).all letterB = (letterB b && (s.data.toList.drop (k + 1)).all letterB) := all_at h

set_option maxHeartbeats 400000 in
theorem table_Named (s : ByteArray) (w : World) (hs : s.size ≤ 140737488355328) :
    Calls Tryd.prog 22 #[.string s] w fun e w' => e = .returned (.bool (nameB s)) ∧ Below w.heap.size w w' := by
  by_cases h0 : s.size = 0
  · have HE : Hid (nameB s = false) := by simp [nameB, h0, Hid]
    have h0' : (s.size : Int) = 0 := by omega
    go_enter Tryd.func22, Tryd.ntmps22
    go_wp2
    go_ret
    exact ⟨ret_bool HE.out.symm, Below.refl _ _⟩
  · by_cases h8 : s.size ≤ 8
    · have HE : Hid (nameB s = s.data.toList.all letterB) := by simp [nameB, h8, Hid]; omega
      have h0' : ((s.size : Int) == 0) = false := beq_eq_false_iff_ne.2 (by omega)
      have h8' : (s.size : Int) ≤ 8 := by omega
      go_enter Tryd.func22, Tryd.ntmps22
      go_wp2
      go_loopw [14] (fun i wr => ∃ k : Nat, k ≤ s.size ∧ i = .int .i64 k ∧ Hid (s.data.toList.all letterB = (s.data.toList.drop k).all letterB) ∧ Below w.heap.size w wr) (fun i _ => s.size - (intOf i).toNat)
      case atStart => exact ⟨0, Nat.zero_le _, rfl, rfl, Below.refl _ _⟩
      case round =>
        obtain ⟨k, hk, rfl, hf, hb⟩ := hrel
        by_cases hlt : k < s.size
        · have HX := Lib.hid (letters_at (s := s) (k := k) (b := s[k]) (by rw [List.getElem?_eq_getElem (by simpa using hlt)]; rfl))
          by_cases h1 : s[k].toNat < 97
          · have h1' : (s[k].toNat : Int) < 97 := by omega
            have HL : Hid (letterB s[k] = false) := by simp [letterB, Hid]; omega
            go_wp2
            go_ret
            exact ⟨ret_bool (by rw [HE.out, hf.out, HX.out, HL.out]; rfl), hb⟩
          · by_cases h2 : 122 < s[k].toNat
            · have h1' : 97 ≤ (s[k].toNat : Int) := by omega
              have h2' : 122 < (s[k].toNat : Int) := by omega
              have HL : Hid (letterB s[k] = false) := by simp [letterB, Hid]; omega
              go_wp2
              go_ret
              exact ⟨ret_bool (by rw [HE.out, hf.out, HX.out, HL.out]; rfl), hb⟩
            · have h1' : 97 ≤ (s[k].toNat : Int) := by omega
              have h2' : (s[k].toNat : Int) ≤ 122 := by omega
              have HL : Hid (letterB s[k] = true) := by simp [letterB, Hid]; omega
              go_wp2
              refine ⟨⟨k + 1, by omega, by go_num, ?_, hb⟩, by simp [intOf]; omega⟩
              show s.data.toList.all letterB = _
              rw [hf.out, HX.out, HL.out]; rfl
        · go_wp2
          go_ret
          have hf' := hf.out
          rw [List.drop_of_length_le (by have : s.data.toList.length = s.size := rfl; omega)] at hf'
          exact ⟨ret_bool (by rw [HE.out, hf']; rfl), hb⟩
    · have HE : Hid (nameB s = false) := by simp [nameB, h8, Hid]
      go_enter Tryd.func22, Tryd.ntmps22
      go_wp2
      go_ret
      exact ⟨ret_bool HE.out.symm, Below.refl _ _⟩

set_option maxHeartbeats 400000 in
/-- the first place at which a text stands; -1, if nowhere -/
theorem slices_Index (l : List ByteArray) (v : Value) (s : ByteArray) (w : World) (h : Sl Enc.str w (Old w) l v) :
    Calls Tryd.prog 49 #[v, .string s] w fun e w' => (∃ j : Int, e = .returned (.int .i64 j) ∧ (0 ≤ j) = (l.any (sameS s) = true) ∧ -1 ≤ j) ∧ Below w.heap.size w w' := by
  have H := Lib.hid h
  obtain ⟨A, c, rfl, hc1, hc2, -⟩ := h
  unfold maxLen at hc2
  go_enter Tryd.func49, Tryd.ntmps49
  go_wp2
  go_loopw [8] (fun i wr => ∃ k : Nat, k ≤ l.length ∧ i = .int .i64 k ∧ Hid ((l.take k).any (sameS s) = false) ∧ Below w.heap.size w wr) (fun i _ => l.length - (intOf i).toNat)
  case atStart => exact ⟨0, Nat.zero_le _, rfl, rfl, Below.refl _ _⟩
  case round =>
    obtain ⟨k, hk, rfl, hf, hb⟩ := hrel
    by_cases hlt : k < l.length
    · obtain ⟨b, o, x, rfl, _, hx, c1⟩ := (H.out.below (fun _ h => h) hb).str_at hlt
      by_cases hq : (s.toList == x.toList) = true
      · have HQ := Lib.hid hq
        go_wp2
        go_ret
        refine ⟨⟨_, rfl, ?_, by omega⟩, hb⟩
        have : l.any (sameS s) = true := List.any_eq_true.2 ⟨x, List.mem_of_getElem? hx.out, HQ.out⟩
        simp [this]
      · have hq' : (s.toList == x.toList) = false := by simpa using hq
        have HQ := Lib.hid hq'
        clear hq
        go_wp2
        refine ⟨⟨k + 1, by omega, by go_num, ?_, hb⟩, by simp [intOf]; omega⟩
        show (l.take (k + 1)).any (sameS s) = false
        rw [take_at hx.out, List.any_append, hf.out]
        simp only [List.any_cons, List.any_nil, Bool.or_false, Bool.false_or]
        exact HQ.out
    · go_wp2
      go_ret
      have e : l.take k = l := List.take_of_length_le (by omega)
      have hf' := hf.out
      rw [e] at hf'
      exact ⟨⟨_, rfl, by rw [hf']; simp, by omega⟩, hb⟩

set_option maxHeartbeats 400000 in
theorem slices_Contains (l : List ByteArray) (v : Value) (s : ByteArray) (w : World) (h : Sl Enc.str w (Old w) l v) :
    Calls Tryd.prog 39 #[v, .string s] w fun e w' => e = .returned (.bool (l.any (sameS s))) ∧ Below w.heap.size w w' := by
  have H := Lib.hid h
  obtain ⟨A, c, rfl, hc1, hc2, -⟩ := h
  go_enter Tryd.func39, Tryd.ntmps39
  go_wp2_with fail
  refine (slices_Index l _ s _ H.out).mono ?_
  rintro e w1 ⟨⟨j, rfl, hj, hj1⟩, hb1⟩
  have HJ := Lib.hid hj
  clear hj
  go_wp2
  go_ret
  refine ⟨ret_bool ?_, hb1⟩
  have := HJ.out
  by_cases h0 : 0 ≤ j
  · rw [this] at h0; rw [h0]; simpa using (this ▸ h0 : 0 ≤ j)
  · have h1 : ¬ l.any (sameS s) = true := by rw [← this]; exact h0
    rw [Bool.eq_false_iff.2 h1]; simpa using h0

end Go.Proofs.YtmdljknlbmlacabDoor
namespace Go.Proofs.YtmdljknlbmlacabDoor
open Go.RowKit

set_option maxHeartbeats 400000 in
theorem table_goodInputs (l : List ByteArray) (v : Value) (w : World) (h : Sl Enc.str w (Old w) l v) (hs : ∀ s, s ∈ l → s.size ≤ 140737488355328) :
    Calls Tryd.prog 23 #[v] w fun e w' => e = .returned (.bool (goodIns l)) ∧ Below w.heap.size w w' := by
  have H := Lib.hid h
  have HS := Lib.hid hs
  clear hs
  obtain ⟨A, c, rfl, hc1, hc2, -⟩ := h
  unfold maxLen at hc2
  by_cases h0 : l.length = 0
  · have HE : Hid (goodIns l = false) := by simp [goodIns, h0, Hid]
    have h0' : (l.length : Int) = 0 := by omega
    go_enter Tryd.func23, Tryd.ntmps23
    go_wp2
    go_ret
    exact ⟨ret_bool HE.out.symm, Below.refl _ _⟩
  · by_cases h3 : l.length ≤ 3
    · have HE : Hid (goodIns l = insOk [] l) := by simp [goodIns, h3, Hid]; omega
      have h0' : ((l.length : Int) == 0) = false := beq_eq_false_iff_ne.2 (by omega)
      have h3' : (l.length : Int) ≤ 3 := by omega
      go_enter Tryd.func23, Tryd.ntmps23
      go_wp2
      go_loopw [15] (fun i wr => ∃ k : Nat, k ≤ l.length ∧ i = .int .i64 k ∧ Hid (insOk [] l = insOk (l.take k) (l.drop k)) ∧ Below w.heap.size w wr) (fun i _ => l.length - (intOf i).toNat)
      case atStart => exact ⟨0, Nat.zero_le _, rfl, rfl, Below.refl _ _⟩
      case round =>
        obtain ⟨k, hk, rfl, hf, hb⟩ := hrel
        have hsz := hb.size
        by_cases hlt : k < l.length
        · have HW := Lib.hid (H.out.onOld hb)
          obtain ⟨b, o, x, rfl, _, hx, c1⟩ := HW.out.str_at hlt
          have HX := Lib.hid (insOk_at hx.out)
          have HN := Lib.hid (HS.out x (List.mem_of_getElem? hx.out))
          go_wp2_with fail
          refine (table_Named x _ HN.out).mono ?_
          rintro e w1 ⟨rfl, hb1⟩
          cases hn : nameB x
          · have HM := Lib.hid hn
            clear hn
            go_wp2
            go_ret
            exact ⟨ret_bool (by rw [HE.out, hf.out, HX.out, HM.out]; rfl), bx hb hb1⟩
          · have HM := Lib.hid hn
            have HF := Lib.hid ((HW.out.onOld hb1).front (j := k) (by omega))
            clear hn
            go_wp2_with fail
            refine (slices_Contains (l.take k) _ x _ HF.out).mono ?_
            rintro e w2 ⟨rfl, hb2⟩
            cases hq : (l.take k).any (sameS x)
            · have HQ := Lib.hid hq
              clear hq
              go_wp2
              refine ⟨⟨k + 1, by omega, by go_num, ?_, bx hb (bx hb1 hb2)⟩, by simp [intOf]; omega⟩
              show insOk [] l = _
              rw [hf.out, HX.out, HM.out, HQ.out]; rfl
            · have HQ := Lib.hid hq
              clear hq
              go_wp2
              go_ret
              exact ⟨ret_bool (by rw [HE.out, hf.out, HX.out, HM.out, HQ.out]; rfl), bx hb (bx hb1 hb2)⟩
        · go_wp2
          go_ret
          have hf' := hf.out
          rw [List.drop_of_length_le (by omega)] at hf'
          exact ⟨ret_bool (by rw [HE.out, hf']; rfl), hb⟩
    · have HE : Hid (goodIns l = false) := by simp [goodIns, h3, Hid]
      have h0' : ((l.length : Int) == 0) = false := beq_eq_false_iff_ne.2 (by omega)
      have h3' : 3 < (l.length : Int) := by omega
      go_enter Tryd.func23, Tryd.ntmps23
      go_wp2
      go_ret
      exact ⟨ret_bool HE.out.symm, Below.refl _ _⟩

set_option maxHeartbeats 400000 in
theorem table_goodCell (ng : Bool) (rs : List (Int × Int)) (v : Value) (w : World) (h : Sl Enc.rng w (Old w) rs v) :
    Calls Tryd.prog 50 #[.agg #[.bool ng, v]] w fun e w' => e = .returned (.bool (goodC (ng, rs))) ∧ Below w.heap.size w w' := by
  have H := Lib.hid h
  obtain ⟨A, c, rfl, hc1, hc2, -⟩ := h
  unfold maxLen at hc2
  have hb0 := below_alloc1 w (.cells #[.bool ng, .slice A rs.length c] 55)
  have H1 := Lib.hid (H.out.onOld hb0)
  by_cases h0 : ng = true ∧ rs.length = 0
  · obtain ⟨rfl, h0⟩ := h0
    have h0' : (rs.length : Int) = 0 := by omega
    have HE : Hid (goodC (true, rs) = false) := by simp [goodC, h0, Hid]
    go_enter Tryd.func50, Tryd.ntmps50
    go_wp2
    go_ret
    exact ⟨ret_bool HE.out.symm, below_alloc1 _ _⟩
  · have h0' : ng = false ∨ ((rs.length : Int) == 0) = false := by
      cases ng
      · exact .inl rfl
      · exact .inr (beq_eq_false_iff_ne.2 (fun h => h0 ⟨rfl, by omega⟩))
    have HE : Hid (goodC (ng, rs) = (decide (rs.length ≤ 4) && goodB rs)) := by
      show _ = _
      unfold goodC
      cases ng <;> simp_all
    by_cases h4 : rs.length ≤ 4
    · have h4' : (rs.length : Int) ≤ 4 := by omega
      rcases h0' with rfl | h0'
      · go_enter Tryd.func50, Tryd.ntmps50
        go_wp2_with fail
        refine (span_Good rs _ _ H1.out).mono ?_
        rintro e w1 ⟨rfl, hb1⟩
        go_wp2
        go_ret
        exact ⟨ret_bool (by rw [HE.out]; simp [h4]), bx hb0 hb1⟩
      · cases ng
        all_goals
          go_enter Tryd.func50, Tryd.ntmps50
          go_wp2_with fail
          refine (span_Good rs _ _ H1.out).mono ?_
          rintro e w1 ⟨rfl, hb1⟩
          go_wp2
          go_ret
          exact ⟨ret_bool (by rw [HE.out]; simp [h4]), bx hb0 hb1⟩
    · have h4' : 4 < (rs.length : Int) := by omega
      have HF : Hid (goodC (ng, rs) = false) := by show _ = _; rw [HE.out]; simp [h4]
      clear HE
      cases ng
      all_goals
        go_enter Tryd.func50, Tryd.ntmps50
        go_wp2
        go_ret
        exact ⟨ret_bool HF.out.symm, hb0⟩

set_option maxHeartbeats 400000 in
theorem table_goodRule (cs : List CellD) (x n : Int) (v : Value) (w : World) (h : Sl Enc.cell w (Old w) cs v) :
    Calls Tryd.prog 40 #[.agg #[v, .int .i64 x], .int .i64 n] w fun e w' => e = .returned (.bool (goodR n (cs, x))) ∧ Below w.heap.size w w' := by
  have H := Lib.hid h
  obtain ⟨A, c, rfl, hc1, hc2, -⟩ := h
  unfold maxLen at hc2
  have hb0 := below_alloc1 w (.cells #[.slice A cs.length c, .int .i64 x] 42)
  by_cases h1 : x < -1000000
  · have HE : Hid (goodR n (cs, x) = false) := by simp [goodR, Hid]; omega
    go_enter Tryd.func40, Tryd.ntmps40
    go_wp2
    go_ret
    exact ⟨ret_bool HE.out.symm, hb0⟩
  · by_cases h2 : 1000000 < x
    · have h1' : -1000000 ≤ x := by omega
      have HE : Hid (goodR n (cs, x) = false) := by simp [goodR, Hid]; omega
      go_enter Tryd.func40, Tryd.ntmps40
      go_wp2
      go_ret
      exact ⟨ret_bool HE.out.symm, hb0⟩
    · have h1' : -1000000 ≤ x := by omega
      have h2' : x ≤ 1000000 := by omega
      by_cases hn : (cs.length : Int) = n
      · have hne : ((cs.length : Int) != n) = false := by simp [hn]
        have HE : Hid (goodR n (cs, x) = cs.all goodC) := by simp [goodR, hn, h1', h2', Hid]
        have HN := Lib.hid hn
        clear hn h1 h2
        go_enter Tryd.func40, Tryd.ntmps40
        go_wp2
        go_loopw [25] (fun i wr => ∃ k : Nat, k ≤ cs.length ∧ i = .int .i64 k ∧ Hid (cs.all goodC = (cs.drop k).all goodC) ∧ Below w.heap.size w wr) (fun i _ => cs.length - (intOf i).toNat)
        case atStart => exact ⟨0, Nat.zero_le _, rfl, rfl, hb0⟩
        case round =>
          obtain ⟨k, hk, rfl, hf, hb⟩ := hrel
          have hsz := hb.size
          by_cases hlt : k < cs.length
          · obtain ⟨b, o, ng, rs, vr, rfl, _, hx, c1, c2, hr⟩ := (H.out.onOld hb).cell_at hlt
            obtain ⟨Ar, cr, rfl, hr1, hr2⟩ := hr.form
            have hbz := below_alloc1 wr (.cells #[.bool ng, .slice Ar rs.length cr] 55)
            have HR := Lib.hid (hr.onOld hbz)
            have HX := Lib.hid (all_at (f := goodC) hx.out)
            clear hr
            go_wp2_with fail
            refine (table_goodCell ng rs _ _ HR.out).mono ?_
            rintro e w1 ⟨rfl, hb1⟩
            cases hg : goodC (ng, rs)
            · have HG := Lib.hid hg
              clear hg
              go_wp2
              go_ret
              exact ⟨ret_bool (by rw [HE.out, hf.out, HX.out, HG.out]; rfl), bx hb (bx hbz hb1)⟩
            · have HG := Lib.hid hg
              clear hg
              go_wp2
              refine ⟨⟨k + 1, by omega, by go_num, ?_, bx hb (bx hbz hb1)⟩, by simp [intOf]; omega⟩
              show cs.all goodC = _
              rw [hf.out, HX.out, HG.out]; rfl
          · go_wp2
            go_ret
            have hf' := hf.out
            rw [List.drop_of_length_le (by omega)] at hf'
            exact ⟨ret_bool (by rw [HE.out, hf']; rfl), hb⟩
      · have hne : ((cs.length : Int) != n) = true := by simpa using hn
        have HE : Hid (goodR n (cs, x) = false) := by simp [goodR, hn, Hid]
        clear hn h1 h2
        go_enter Tryd.func40, Tryd.ntmps40
        go_wp2
        go_ret
        exact ⟨ret_bool HE.out.symm, hb0⟩

set_option maxHeartbeats 400000 in
theorem table_goodRules (l : List RuleD) (n : Int) (v : Value) (w : World) (h : Sl Enc.rule w (Old w) l v) :
    Calls Tryd.prog 24 #[v, .int .i64 n] w fun e w' => e = .returned (.bool (goodRs n l)) ∧ Below w.heap.size w w' := by
  have H := Lib.hid h
  obtain ⟨A, c, rfl, hc1, hc2, -⟩ := h
  unfold maxLen at hc2
  by_cases h0 : l.length = 0
  · have HE : Hid (goodRs n l = false) := by simp [goodRs, h0, Hid]
    have h0' : (l.length : Int) = 0 := by omega
    go_enter Tryd.func24, Tryd.ntmps24
    go_wp2
    go_ret
    exact ⟨ret_bool HE.out.symm, Below.refl _ _⟩
  · by_cases h3 : l.length ≤ 6
    · have HE : Hid (goodRs n l = l.all (goodR n)) := by show _ = _; unfold goodRs; rw [decide_eq_true (show 0 < l.length by omega), decide_eq_true h3]; rfl
      have h0' : ((l.length : Int) == 0) = false := beq_eq_false_iff_ne.2 (by omega)
      have h3' : (l.length : Int) ≤ 6 := by omega
      go_enter Tryd.func24, Tryd.ntmps24
      go_wp2
      go_loopw [17] (fun i wr => ∃ k : Nat, k ≤ l.length ∧ i = .int .i64 k ∧ Hid (l.all (goodR n) = (l.drop k).all (goodR n)) ∧ Below w.heap.size w wr) (fun i _ => l.length - (intOf i).toNat)
      case atStart => exact ⟨0, Nat.zero_le _, rfl, rfl, Below.refl _ _⟩
      case round =>
        obtain ⟨k, hk, rfl, hf, hb⟩ := hrel
        have hsz := hb.size
        by_cases hlt : k < l.length
        · obtain ⟨b, o, cs, x, vc, rfl, _, hx, c1, c2, hr⟩ := (H.out.onOld hb).rule_at hlt
          obtain ⟨Ar, cr, rfl, hr1, hr2⟩ := hr.form
          have hbz := below_alloc1 wr (.cells #[.slice Ar cs.length cr, .int .i64 x] 42)
          have HR := Lib.hid (hr.onOld hbz)
          have HX := Lib.hid (all_at (f := goodR n) hx.out)
          clear hr
          go_wp2_with fail
          refine (table_goodRule cs x n _ _ HR.out).mono ?_
          rintro e w1 ⟨rfl, hb1⟩
          cases hg : goodR n (cs, x)
          · have HG := Lib.hid hg
            clear hg
            go_wp2
            go_ret
            exact ⟨ret_bool (by rw [HE.out, hf.out, HX.out, HG.out]; rfl), bx hb (bx hbz hb1)⟩
          · have HG := Lib.hid hg
            clear hg
            go_wp2
            refine ⟨⟨k + 1, by omega, by go_num, ?_, bx hb (bx hbz hb1)⟩, by simp [intOf]; omega⟩
            show l.all (goodR n) = _
            rw [hf.out, HX.out, HG.out]; rfl
        · go_wp2
          go_ret
          have hf' := hf.out
          rw [List.drop_of_length_le (by omega)] at hf'
          exact ⟨ret_bool (by rw [HE.out, hf']; rfl), hb⟩
    · have HE : Hid (goodRs n l = false) := by simp [goodRs, h3, Hid]
      have h0' : ((l.length : Int) == 0) = false := beq_eq_false_iff_ne.2 (by omega)
      have h3' : 6 < (l.length : Int) := by omega
      go_enter Tryd.func24, Tryd.ntmps24
      go_wp2
      go_ret
      exact ⟨ret_bool HE.out.symm, Below.refl _ _⟩

end Go.Proofs.YtmdljknlbmlacabDoor
namespace Go.Proofs.YtmdljknlbmlacabDoor
open Go.RowKit

def smallT (t : TabD) : Prop := t.name.size ≤ 140737488355328 ∧ (∀ s, s ∈ t.ins → s.size ≤ 140737488355328) ∧ t.rules.length * 32 ≤ 140737488355328

set_option maxHeartbeats 400000 in
theorem table_Good (t : TabD) (v : Value) (w : World) (h : TabAt w (Old w) t v) (hs : smallT t) :
    Calls Tryd.prog 10 #[v] w fun e w' => e = .returned (.bool (goodT t)) ∧ Below w.heap.size w w' := by
  obtain ⟨nm, pol, comp, ins, rules⟩ := t
  obtain ⟨vi, vr, rfl, hi, hr⟩ := h
  obtain ⟨hs1, hs2, _⟩ := hs
  simp only at hi hr hs1 hs2
  have HS := Lib.hid hs2
  clear hs2
  obtain ⟨A, c, rfl, hc1, hc2⟩ := hi.form
  obtain ⟨B, d, rfl, hd1, hd2⟩ := hr.form
  unfold maxLen at hc2 hd2
  have hb0 := below_alloc1 w (.cells #[.string nm, .int .i64 pol, .bool comp, .slice A ins.length c, .slice B rules.length d] 25)
  have HI := Lib.hid (hi.onOld hb0)
  have HR := Lib.hid (hr.onOld hb0)
  clear hi hr
  have HE : Hid (goodT ⟨nm, pol, comp, ins, rules⟩ = (nameB nm && decide (1 ≤ pol) && decide (pol ≤ 7) && goodIns ins && goodRs ins.length rules)) := rfl
  generalize goodT ⟨nm, pol, comp, ins, rules⟩ = G at HE ⊢
  generalize hw0 : w.alloc (.cells #[.string nm, .int .i64 pol, .bool comp, .slice A ins.length c, .slice B rules.length d] 25) = w0 at *
  have hg0 : w.heap.size < w0.heap.size := by rw [← hw0]; simp
  have k0 : w0.cell? ⟨w.heap.size, 0, none⟩ = some (.string nm) := by rw [← hw0]; exact cell_new _ _ _ _ _ rfl
  have k1 : w0.cell? ⟨w.heap.size, 1, none⟩ = some (.int .i64 pol) := by rw [← hw0]; exact cell_new _ _ _ _ _ rfl
  have k3 : w0.cell? ⟨w.heap.size, 3, none⟩ = some (.slice A ins.length c) := by rw [← hw0]; exact cell_new _ _ _ _ _ rfl
  have k4 : w0.cell? ⟨w.heap.size, 4, none⟩ = some (.slice B rules.length d) := by rw [← hw0]; exact cell_new _ _ _ _ _ rfl
  go_enter Tryd.func10, Tryd.ntmps10
  go_wp2_with fail
  refine (table_Named nm _ hs1).mono ?_
  rintro e w1 ⟨rfl, hb1⟩
  have j1 := (hb1.cell (p := ⟨w.heap.size, 1, none⟩) hg0).trans k1
  have j3 := (hb1.cell (p := ⟨w.heap.size, 3, none⟩) hg0).trans k3
  have j4 := (hb1.cell (p := ⟨w.heap.size, 4, none⟩) hg0).trans k4
  have HI1 := Lib.hid (HI.out.onOld hb1)
  have HR1 := Lib.hid (HR.out.onOld hb1)
  have hg1 := Nat.lt_of_lt_of_le hg0 hb1.size
  clear k0 k1 k3 k4 HI HR
  cases hn : nameB nm
  · have HN := Lib.hid hn
    clear hn
    go_wp2
    go_ret
    exact ⟨ret_bool (by rw [HE.out, HN.out]; rfl), bx hb0 hb1⟩
  · have HN := Lib.hid hn
    clear hn
    by_cases hp1 : 1 ≤ pol
    · by_cases hp7 : pol ≤ 7
      · go_wp2_with fail
        refine (table_goodInputs ins _ _ HI1.out HS.out).mono ?_
        rintro e w2 ⟨rfl, hb2⟩
        have i3 := (hb2.cell (p := ⟨w.heap.size, 3, none⟩) hg1).trans j3
        have i4 := (hb2.cell (p := ⟨w.heap.size, 4, none⟩) hg1).trans j4
        have HR2 := Lib.hid (HR1.out.onOld hb2)
        clear j1 j3 j4 HI1 HR1
        cases hq : goodIns ins
        · have HQ := Lib.hid hq
          clear hq
          go_wp2
          go_ret
          exact ⟨ret_bool (by rw [HE.out, HQ.out]; simp), bx hb0 (bx hb1 hb2)⟩
        · have HQ := Lib.hid hq
          clear hq
          go_wp2_with fail
          refine (table_goodRules rules ins.length _ _ HR2.out).mono ?_
          rintro e w3 ⟨rfl, hb3⟩
          go_wp2
          go_ret
          exact ⟨ret_bool (by rw [HE.out, HQ.out, HN.out, decide_eq_true hp1, decide_eq_true hp7]; rfl), bx hb0 (bx hb1 (bx hb2 hb3))⟩
      · have hp7' : 7 < pol := by omega
        go_wp2
        go_ret
        exact ⟨ret_bool (by rw [HE.out, decide_eq_false (show ¬ pol ≤ 7 by omega)]; simp), bx hb0 hb1⟩
    · have hp1' : pol < 1 := by omega
      go_wp2
      go_ret
      exact ⟨ret_bool (by rw [HE.out, decide_eq_false (show ¬ 1 ≤ pol by omega)]; simp), bx hb0 hb1⟩

theorem infoIntT : (Tryd.prog.info? 3).map (fun i => (i.zero, i.size, i.bytes)) = some (some (.int .i64 0), 1, 8) := by kernel_rfl
end Go.Proofs.YtmdljknlbmlacabDoor
namespace Go.Proofs.YtmdljknlbmlacabDoor
open Go.RowKit

theorem any_at {α : Type} {f : α → Bool} {l : List α} {k : Nat} {x : α} (h : l[k]? = some x) : (l.drop k).any f = (f x || (l.drop (k + 1)).any f) := by
  rw [drop_at h]; rfl

theorem sum_take {l : List Int} {k : Nat} {x : Int} (h : l[k]? = some x) : (l.take (k + 1)).sum = (l.take k).sum + x := by
  rw [take_at h]; simp
theorem sum_take_bound {l : List Int} (hb : ∀ x, x ∈ l → -1000000 ≤ x ∧ x ≤ 1000000) (k : Nat) : -1000000 * (k : Int) ≤ (l.take k).sum ∧ (l.take k).sum ≤ 1000000 * (k : Int) := by
  induction k with
  | zero => simp
  | succ k ih =>
    by_cases hk : k < l.length
    · have hx : l[k]? = some l[k] := List.getElem?_eq_getElem hk
      rw [sum_take hx]
      have := hb _ (List.getElem_mem hk)
      push_cast
      omega
    · rw [List.take_of_length_le (by omega)]
      rw [List.take_of_length_le (by omega)] at ih
      push_cast
      omega

theorem minL_take {l : List Int} {k : Nat} {x : Int} (h : l[k]? = some x) (h0 : 0 < k) : minL (l.take (k + 1)) = min (minL (l.take k)) x := by
  rw [take_at h]
  cases l with
  | nil => simp at h
  | cons a l =>
    cases k with
    | zero => omega
    | succ k => simp [minL, List.foldl_append]
theorem maxL_take {l : List Int} {k : Nat} {x : Int} (h : l[k]? = some x) (h0 : 0 < k) : maxL (l.take (k + 1)) = max (maxL (l.take k)) x := by
  rw [take_at h]
  cases l with
  | nil => simp at h
  | cons a l =>
    cases k with
    | zero => omega
    | succ k => simp [maxL, List.foldl_append]

end Go.Proofs.YtmdljknlbmlacabDoor
namespace Go.Proofs.YtmdljknlbmlacabDoor
open Go.RowKit

/-- the Outs that a list of indices leads to -/
def outAt (rules : List RuleD) (j : Int) : Int := (rules[j.toNat]?.map (·.2)).getD 0
theorem map_take {α β : Type} {l : List α} {k : Nat} {x : α} (f : α → β) (h : l[k]? = some x) : (l.take (k + 1)).map f = (l.take k).map f ++ [f x] := by
  rw [take_at h]; simp
theorem says_eq {R : Int × Bool × Int} (a : Int) (b : Bool) (c : Int) (h : R = (a, b, c)) : Ending.returned (.tuple #[.int .i64 a, .bool b, .int .i64 c]) = Ending.returned (.tuple #[.int .i64 R.1, .bool R.2.1, .int .i64 R.2.2]) := by subst h; rfl
def SaysPost (r : Int × Bool × Int) (w : World) (e : Ending) (w' : World) : Prop := e = .returned (.tuple #[.int .i64 r.1, .bool r.2.1, .int .i64 r.2.2]) ∧ Below w.heap.size w w'

end Go.Proofs.YtmdljknlbmlacabDoor
namespace Go.Proofs.YtmdljknlbmlacabDoor
open Go.RowKit

def lowS (l : List RuleD) : Int := (l.map fun r => min r.2 0).sum
def highS (l : List RuleD) : Int := (l.map fun r => max r.2 0).sum
theorem lowS_take {l : List RuleD} {k : Nat} {cs : List CellD} {x : Int} (h : l[k]? = some (cs, x)) : lowS (l.take (k + 1)) = lowS (l.take k) + min x 0 := by
  unfold lowS; rw [map_take _ h]; simp
theorem highS_take {l : List RuleD} {k : Nat} {cs : List CellD} {x : Int} (h : l[k]? = some (cs, x)) : highS (l.take (k + 1)) = highS (l.take k) + max x 0 := by
  unfold highS; rw [map_take _ h]; simp
theorem sums_bound {l : List RuleD} (hb : ∀ r, r ∈ l → -1000000 ≤ r.2 ∧ r.2 ≤ 1000000) (k : Nat) : (-1000000 * (k : Int) ≤ lowS (l.take k) ∧ lowS (l.take k) ≤ 0) ∧ 0 ≤ highS (l.take k) ∧ highS (l.take k) ≤ 1000000 * (k : Int) := by
  induction k with
  | zero => simp [lowS, highS]
  | succ k ih =>
    by_cases hk : k < l.length
    · have hx : l[k]? = some l[k] := List.getElem?_eq_getElem hk
      have hm := hb _ (List.getElem_mem hk)
      generalize l[k] = r at hx hm
      obtain ⟨cs, x⟩ := r
      rw [lowS_take hx, highS_take hx]
      simp only at hm
      push_cast
      omega
    · rw [List.take_of_length_le (by omega)]
      rw [List.take_of_length_le (by omega)] at ih
      push_cast
      omega
def RngPost (r : Int × Int) (w : World) (e : Ending) (w' : World) : Prop := e = .returned (.agg #[.int .i64 r.1, .int .i64 r.2]) ∧ Below w.heap.size w w'

theorem heap_old {w : World} {g : Nat} (h : g < w.heap.size) (o : Obj) : (w.alloc o).heap[g]? = w.heap[g]? := (below_alloc1 w o).block g h
/-- a struct of two ints of the call's own, at the block g -/
def Two (w : World) (g : Nat) (x y : Int) : Prop := g < w.heap.size ∧ w.cell? ⟨g, 0, none⟩ = some (.int .i64 x) ∧ w.cell? ⟨g, 1, none⟩ = some (.int .i64 y) ∧ w.frozen? ⟨g, 0, none⟩ = false ∧ w.frozen? ⟨g, 1, none⟩ = false
theorem Two.new (w : World) (x y : Int) (e : Nat) : Two (w.alloc (.cells #[.int .i64 x, .int .i64 y] e)) w.heap.size x y := ⟨by simp, cell_new _ _ _ _ _ rfl, cell_new _ _ _ _ _ rfl, by simp, by simp⟩
theorem Two.alloc {w : World} {g : Nat} {x y : Int} (h : Two w g x y) (o : Obj) : Two (w.alloc o) g x y := by
  obtain ⟨h0, h1, h2, h3, h4⟩ := h
  refine ⟨by simp; omega, (World.cell?_alloc_lt _ _ _ h0).trans h1, (World.cell?_alloc_lt _ _ _ h0).trans h2, ?_, ?_⟩
  · exact (World.frozen?_of_block (heap_old h0 o)).trans h3
  · exact (World.frozen?_of_block (heap_old h0 o)).trans h4
theorem Two.next {w w' : World} {g : Nat} {x y : Int} (h : Two w g x y) (hb : Below w.heap.size w w') : Two w' g x y := by
  obtain ⟨h0, h1, h2, h3, h4⟩ := h
  exact ⟨Nat.lt_of_lt_of_le h0 hb.size, (hb.cell (p := ⟨g, 0, none⟩) h0).trans h1, (hb.cell (p := ⟨g, 1, none⟩) h0).trans h2, (World.frozen?_of_block (hb.block g h0)).trans h3, (World.frozen?_of_block (hb.block g h0)).trans h4⟩
theorem Two.set0 {w : World} {g : Nat} {x y : Int} (h : Two w g x y) (z : Int) : Two (w.setCell ⟨g, 0, none⟩ (.int .i64 z)) g z y := by
  obtain ⟨h0, h1, h2, h3, h4⟩ := h
  exact ⟨by simpa [World.setCell] using h0, World.cell?_setCell_same w _ _ h1, (World.cell?_setCell_other w _ _ _ (by simp)).trans h2, by simpa using h3, by simpa using h4⟩
theorem Two.set1 {w : World} {g : Nat} {x y : Int} (h : Two w g x y) (z : Int) : Two (w.setCell ⟨g, 1, none⟩ (.int .i64 z)) g x z := by
  obtain ⟨h0, h1, h2, h3, h4⟩ := h
  exact ⟨by simpa [World.setCell] using h0, (World.cell?_setCell_other w _ _ _ (by simp)).trans h1, World.cell?_setCell_same w _ _ h2, by simpa using h3, by simpa using h4⟩
theorem Two.other {w : World} {g g' o : Nat} {x y : Int} (h : Two w g x y) (hne : g' ≠ g) (v : Value) : Two (w.setCell ⟨g', o, none⟩ v) g x y := by
  obtain ⟨h0, h1, h2, h3, h4⟩ := h
  exact ⟨by simpa [World.setCell] using h0, (World.cell?_setCell_other w _ _ _ (by simp)).trans h1, (World.cell?_setCell_other w _ _ _ (by simp)).trans h2, by simpa using h3, by simpa using h4⟩

/-- such a struct is handed back -/
theorem ret_two {fn : Func} {p : Tmp} {tmps : Array Value} {W : World} {g : Nat} {x y : Int} (h : fn.results = #[.cell p 77]) (hp : tmps.getD p undef = .pointer (some ⟨g, 0, none⟩)) (ht : Two W g x y) :
    (results fn tmps).run Tryd.prog W = .ok (.agg #[.int .i64 x, .int .i64 y]) W := by
  obtain ⟨_, q0, q1, _, _⟩ := ht
  have hp' : tmps[p]?.getD undef = .pointer (some ⟨g, 0, none⟩) := by simpa using hp
  simp [results, h, hp', go_sem, q0, q1]

end Go.Proofs.YtmdljknlbmlacabDoor
