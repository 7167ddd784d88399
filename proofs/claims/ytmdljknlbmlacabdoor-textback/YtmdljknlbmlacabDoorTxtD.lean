/- The parser's methods cells, rule, inputs, policy and domain, each as a Lean function of the state that the receiver reads as. Conditions: the receiver is a parser in memory; the text has at most 2000 bytes; the package variables that strconv and the policies read are as their initialisers lay them. -/
import Derived.Test.YtmdljknlbmlacabDoorTxtC
namespace Go.Proofs.YtmdljknlbmlacabDoor
open Go.RowKit Go.Shelf

theorem p_str (p : PS) (g : Nat) (w : World) (h : PX w g p) (hs : p.rest.length ≤ 2000) :
    Calls Tryd.prog 15 #[.pointer (some ⟨g, 0, none⟩)] w fun e w' => e = .returned (.string (strP p).1) ∧ PA w' g (strP p).2 ∧ w.grownBy w' (some g) := p_word p g w h.1 hs

set_option maxRecDepth 100000 in
set_option maxHeartbeats 2000000 in
theorem p_cells (p : PS) (g : Nat) (w : World) (h : PX w g p) (hs : p.rest.length ≤ 2000) :
    Calls Tryd.prog 48 #[.pointer (some ⟨g, 0, none⟩)] w fun e w' => ∃ v, e = .returned v ∧ OwnG Enc.cell w' w.heap.size w.heap.size 55 v (cellsP p).1 ∧ PA w' g (cellsP p).2 ∧ w.grownBy w' (some g) := by
  have H := Lib.hid h
  have hg := h.1.1
  have L1 := cellP_len p
  have HE : Hid (cellsP p = ((cellP p).1 :: (sepP cellP [44] ((cellP p).2.rest.length + 1) (cellP p).2).1, (sepP cellP [44] ((cellP p).2.rest.length + 1) (cellP p).2).2)) := rfl
  generalize hR : cellsP p = R at *
  clear hR
  go_enter Tryd.func48, Tryd.ntmps48
  go_wp2_with fail
  refine (p_cell p g _ H.out hs).mono ?_
  rintro e w1 ⟨v1, rfl, hn1, h1, hb1⟩
  obtain ⟨A1, c1, rfl, -, -⟩ := hn1.form
  have X1 := Lib.hid (H.out.grown h1 hb1)
  have B1 := Lib.hid hb1
  have hz1 := hb1.size
  generalize hP : cellP p = P1 at *
  obtain ⟨⟨ng1, rs1⟩, p1⟩ := P1
  simp only at L1 X1 HE hn1
  have O1 : Hid (OwnG Enc.cell (w1.alloc (.cells #[.bool ng1, .slice A1 rs1.length c1] 55)) w.heap.size w.heap.size 55 (.slice (some ⟨w1.heap.size, 0, none⟩) [(ng1, rs1)].length [(ng1, rs1)].length) [(ng1, rs1)]) := by
    refine OwnG.lit w1 [(ng1, rs1)] #[.bool ng1, .slice A1 rs1.length c1] hz1 (by unfold maxLen; simp) rfl (Elems.one ?_)
    exact Enc.cell_rd.2 ⟨_, rfl, hn1.below (B := w1.heap.size) (fun _ h => h.2) (below_alloc1 _ _)⟩
  have hw2 := below_alloc1 w1 (.cells #[.bool ng1, .slice A1 rs1.length c1] 55)
  have X2 := Lib.hid (X1.out.next hw2)
  have B2 := Lib.hid (fr_next B1.out (grown_below hw2))
  clear h1 hb1 hn1
  go_wp2
  clear hw2
  generalize w1.alloc (.cells #[.bool ng1, .slice A1 rs1.length c1] 55) = w2 at *
  go_loopw [3] (fun v wr => ∃ (acc : List CellD) (q : PS) (n : Nat), q.rest.length < n ∧ (q.rest.length + acc.length ≤ 2001 ∧ q.rest.length ≤ 2000) ∧ Hid (R = (acc ++ (sepP cellP [44] n q).1, (sepP cellP [44] n q).2)) ∧ Hid (OwnG Enc.cell wr w.heap.size w.heap.size 55 v acc) ∧ Hid (PX wr g q) ∧ Hid (w.grownBy wr (some g))) (fun _ wr => restLen wr g)
  case atStart => exact ⟨[(ng1, rs1)], p1, p1.rest.length + 1, by omega, ⟨by simp only [List.length_cons, List.length_nil]; omega, by omega⟩, HE, O1, X2, B2⟩
  case round =>
    obtain ⟨acc, q, n, hn, ⟨hb, hb2⟩, HR, HO, HX, HB⟩ := hrel
    obtain ⟨m, rfl⟩ : ∃ m, n = m + 1 := ⟨n - 1, by omega⟩
    have hq := HX.out.1
    have T1 := takesP_len [44] q
    have ML := Lib.hid (restLen_eq hq)
    clear hq
    have HS : Hid (sepP cellP [44] (m + 1) q = if (takesP [44] q).1 then ((cellP (takesP [44] q).2).1 :: (sepP cellP [44] m (cellP (takesP [44] q).2).2).1, (sepP cellP [44] m (cellP (takesP [44] q).2).2).2) else ([], (takesP [44] q).2)) := rfl
    go_wp2_with fail
    refine (p_takes [44] q g _ HX.out.1 (by omega)).mono ?_
    rintro e w3 ⟨rfl, h3, hb3⟩
    have X3 := Lib.hid (HX.out.grown h3 hb3)
    have B3 := Lib.hid (fr_next HB.out hb3)
    have O3 := Lib.hid (HO.out.grownP hb3 hg hg)
    clear h3 hb3
    generalize hT : takesP [44] q = T at *
    obtain ⟨t3, q3⟩ := T
    simp only at T1 X3 HS
    cases t3
    · have HS' : Hid (sepP cellP [44] (m + 1) q = ([], q3)) := by show _ = _; rw [HS.out]; rfl
      clear HS
      go_wp2
      go_ret
      have hr := HR.out
      rw [HS'.out, List.append_nil] at hr
      exact ⟨_, rfl, by rw [hr]; exact O3.out, by rw [hr]; exact X3.out.1, B3.out⟩
    · have I1 := cellP_len q3
      have T1' : q3.rest.length + 1 ≤ q.rest.length := by simpa using T1
      have hz3 := B3.out.size
      go_wp2_with fail
      refine (p_cell q3 g _ X3.out (by omega)).mono ?_
      rintro e w4 ⟨v4, rfl, hn4, h4, hb4⟩
      obtain ⟨A4, c4, rfl, -, -⟩ := hn4.form
      have X4 := Lib.hid (X3.out.grown h4 hb4)
      have B4 := Lib.hid (fr_next B3.out hb4)
      have O4 := Lib.hid (O3.out.grownP hb4 hg hg)
      have hz4 := B4.out.size
      generalize hP4 : cellP q3 = P4 at *
      obtain ⟨⟨ng4, rs4⟩, q4⟩ := P4
      simp only at I1 X4 HS hn4
      have HS' : Hid (sepP cellP [44] (m + 1) q = ((ng4, rs4) :: (sepP cellP [44] m q4).1, (sepP cellP [44] m q4).2)) := by show _ = _; rw [HS.out]; rfl
      have hw5 := below_alloc1 w4 (.cells #[.bool ng4, .slice A4 rs4.length c4] 55)
      have O5 := Lib.hid (O4.out.alloc (.cells #[.bool ng4, .slice A4 rs4.length c4] 55))
      have X5 := Lib.hid (X4.out.next hw5)
      have B5 := Lib.hid (fr_next B4.out (grown_below hw5))
      have hz5 : w.heap.size ≤ (w4.alloc (.cells #[.bool ng4, .slice A4 rs4.length c4] 55)).heap.size := Nat.le_trans hz4 hw5.size
      have HY : Hid (Enc.cell.rd (w4.alloc (.cells #[.bool ng4, .slice A4 rs4.length c4] 55)) (Off w.heap.size (w4.alloc (.cells #[.bool ng4, .slice A4 rs4.length c4] 55)) u3) (ng4, rs4) [.bool ng4, .slice A4 rs4.length c4]) := Enc.cell_rd.2 ⟨_, rfl, (hn4.on (below_alloc1 _ _)).more (off_new O3.out hz3 (Nat.le_refl _))⟩
      clear h4 hb4 HS hw5 hn4
      go_wp2_with (at_builtin; refine wpList_append_one (E := Enc.cell) _ rfl _ _ 40 rfl w.heap.size w.heap.size 55 32 (.agg #[.bool false, .slice none 0 0]) x_under_cs x_info_c rfl (by decide) _ _ rfl O5.out ⟨w4.heap.size, 0, none⟩ (ng4, rs4) [.bool ng4, .slice A4 rs4.length c4] rfl HY.out (cellx_new w4 _ _) (by omega) (by unfold maxLen; omega) hz5 ?_; intro v' w6 hown' hgrow6 _)
      have hbel : Below w.heap.size _ w6 := below_of_grown hgrow6 hz5 (fun k hk => (O5.out.lt k hk).1)
      have X6 := X5.out.below hbel hg
      refine ⟨⟨acc ++ [(ng4, rs4)], q4, m, by omega, ⟨by rw [List.length_append]; simp only [List.length_cons, List.length_nil]; omega, by omega⟩, ?_, hown', X6, fr_below B5.out hbel (Nat.le_refl _)⟩, ?_⟩
      · show R = _
        rw [HR.out, HS'.out]; simp
      · rw [restLen_eq X6.1, ML.out]; omega

set_option maxRecDepth 100000 in
set_option maxHeartbeats 2000000 in
theorem p_inputs (p : PS) (g : Nat) (w : World) (h : PX w g p) (hs : p.rest.length ≤ 2000) :
    Calls Tryd.prog 36 #[.pointer (some ⟨g, 0, none⟩)] w fun e w' => ∃ v, e = .returned v ∧ OwnG Enc.str w' w.heap.size w.heap.size 9 v (inputsP p).1 ∧ PA w' g (inputsP p).2 ∧ w.grownBy w' (some g) := by
  have H := Lib.hid h
  have hg := h.1.1
  have L1 := strP_len p
  have HE : Hid (inputsP p = ((strP p).1 :: (sepP strP [44] ((strP p).2.rest.length + 1) (strP p).2).1, (sepP strP [44] ((strP p).2.rest.length + 1) (strP p).2).2)) := rfl
  generalize hR : inputsP p = R at *
  clear hR
  go_enter Tryd.func36, Tryd.ntmps36
  go_wp2_with fail
  refine (p_str p g _ H.out hs).mono ?_
  rintro e w1 ⟨rfl, h1, hb1⟩
  have X1 := Lib.hid (H.out.grown h1 hb1)
  have B1 := Lib.hid hb1
  have hz1 := hb1.size
  generalize hP : strP p = P1 at *
  obtain ⟨s1, p1⟩ := P1
  simp only at L1 X1 HE
  have O1 : Hid (OwnG Enc.str (w1.alloc (.cells #[.string s1] 9)) w.heap.size w.heap.size 9 (.slice (some ⟨w1.heap.size, 0, none⟩) [s1].length [s1].length) [s1]) := by
    refine OwnG.lit w1 [s1] #[.string s1] hz1 (by unfold maxLen; simp) rfl (Elems.one ?_)
    exact rfl
  have hw2 := below_alloc1 w1 (.cells #[.string s1] 9)
  have X2 := Lib.hid (X1.out.next hw2)
  have B2 := Lib.hid (fr_next B1.out (grown_below hw2))
  clear h1 hb1
  go_wp2
  clear hw2
  generalize w1.alloc (.cells #[.string s1] 9) = w2 at *
  go_loopw [3] (fun v wr => ∃ (acc : List ByteArray) (q : PS) (n : Nat), q.rest.length < n ∧ (q.rest.length + acc.length ≤ 2001 ∧ q.rest.length ≤ 2000) ∧ Hid (R = (acc ++ (sepP strP [44] n q).1, (sepP strP [44] n q).2)) ∧ Hid (OwnG Enc.str wr w.heap.size w.heap.size 9 v acc) ∧ Hid (PX wr g q) ∧ Hid (w.grownBy wr (some g))) (fun _ wr => restLen wr g)
  case atStart => exact ⟨[s1], p1, p1.rest.length + 1, by omega, ⟨by simp only [List.length_cons, List.length_nil]; omega, by omega⟩, HE, O1, X2, B2⟩
  case round =>
    obtain ⟨acc, q, n, hn, ⟨hb, hb2⟩, HR, HO, HX, HB⟩ := hrel
    obtain ⟨m, rfl⟩ : ∃ m, n = m + 1 := ⟨n - 1, by omega⟩
    have hq := HX.out.1
    have T1 := takesP_len [44] q
    have ML := Lib.hid (restLen_eq hq)
    clear hq
    have HS : Hid (sepP strP [44] (m + 1) q = if (takesP [44] q).1 then ((strP (takesP [44] q).2).1 :: (sepP strP [44] m (strP (takesP [44] q).2).2).1, (sepP strP [44] m (strP (takesP [44] q).2).2).2) else ([], (takesP [44] q).2)) := rfl
    go_wp2_with fail
    refine (p_takes [44] q g _ HX.out.1 (by omega)).mono ?_
    rintro e w3 ⟨rfl, h3, hb3⟩
    have X3 := Lib.hid (HX.out.grown h3 hb3)
    have B3 := Lib.hid (fr_next HB.out hb3)
    have O3 := Lib.hid (HO.out.grownP hb3 hg hg)
    clear h3 hb3
    generalize hT : takesP [44] q = T at *
    obtain ⟨t3, q3⟩ := T
    simp only at T1 X3 HS
    cases t3
    · have HS' : Hid (sepP strP [44] (m + 1) q = ([], q3)) := by show _ = _; rw [HS.out]; rfl
      clear HS
      go_wp2
      go_ret
      have hr := HR.out
      rw [HS'.out, List.append_nil] at hr
      exact ⟨_, rfl, by rw [hr]; exact O3.out, by rw [hr]; exact X3.out.1, B3.out⟩
    · have I1 := strP_len q3
      have T1' : q3.rest.length + 1 ≤ q.rest.length := by simpa using T1
      have hz3 := B3.out.size
      go_wp2_with fail
      refine (p_str q3 g _ X3.out (by omega)).mono ?_
      rintro e w4 ⟨rfl, h4, hb4⟩
      have X4 := Lib.hid (X3.out.grown h4 hb4)
      have B4 := Lib.hid (fr_next B3.out hb4)
      have O4 := Lib.hid (O3.out.grownP hb4 hg hg)
      have hz4 := B4.out.size
      generalize hP4 : strP q3 = P4 at *
      obtain ⟨s4, q4⟩ := P4
      simp only at I1 X4 HS
      have HS' : Hid (sepP strP [44] (m + 1) q = (s4 :: (sepP strP [44] m q4).1, (sepP strP [44] m q4).2)) := by show _ = _; rw [HS.out]; rfl
      have hw5 := below_alloc1 w4 (.cells #[.string s4] 9)
      have O5 := Lib.hid (O4.out.alloc (.cells #[.string s4] 9))
      have X5 := Lib.hid (X4.out.next hw5)
      have B5 := Lib.hid (fr_next B4.out (grown_below hw5))
      have hz5 : w.heap.size ≤ (w4.alloc (.cells #[.string s4] 9)).heap.size := Nat.le_trans hz4 hw5.size
      have HY : Hid (Enc.str.rd (w4.alloc (.cells #[.string s4] 9)) (Off w.heap.size (w4.alloc (.cells #[.string s4] 9)) u3) s4 [.string s4]) := rfl
      clear h4 hb4 HS hw5
      go_wp2_with (at_builtin; refine wpList_append_one (E := Enc.str) _ rfl _ _ 22 rfl w.heap.size w.heap.size 9 16 (.string ⟨#[]⟩) x_under_ss x_info_s rfl (by decide) _ _ rfl O5.out ⟨w4.heap.size, 0, none⟩ s4 [.string s4] rfl HY.out (cellx_new w4 _ _) (by omega) (by unfold maxLen; omega) hz5 ?_; intro v' w6 hown' hgrow6 _)
      have hbel : Below w.heap.size _ w6 := below_of_grown hgrow6 hz5 (fun k hk => (O5.out.lt k hk).1)
      have X6 := X5.out.below hbel hg
      refine ⟨⟨acc ++ [s4], q4, m, by omega, ⟨by rw [List.length_append]; simp only [List.length_cons, List.length_nil]; omega, by omega⟩, ?_, hown', X6, fr_below B5.out hbel (Nat.le_refl _)⟩, ?_⟩
      · show R = _
        rw [HR.out, HS'.out]; simp
      · rw [restLen_eq X6.1, ML.out]; omega

set_option maxRecDepth 100000 in
set_option maxHeartbeats 2000000 in
theorem p_rule (p : PS) (g : Nat) (w : World) (h : PX w g p) (hs : p.rest.length ≤ 2000) :
    Calls Tryd.prog 38 #[.pointer (some ⟨g, 0, none⟩)] w fun e w' => ∃ v, e = .returned (.agg #[v, .int .i64 (ruleP p).1.2]) ∧ Sl Enc.cell w' (From w.heap.size w') (ruleP p).1.1 v ∧ PA w' g (ruleP p).2 ∧ w.grownBy w' (some g) := by
  have H := Lib.hid h
  have hg := h.1.1
  have hwa := below_alloc1 w (.cells #[.slice none 0 0, .int .i64 0] 42)
  have C0 := Lib.hid (Cs.new w [.slice none 0 0, .int .i64 0] 42)
  have hza : (w.alloc (.cells #[.slice none 0 0, .int .i64 0] 42)).heap.size = w.heap.size + 1 := by simp
  generalize hwe : w.alloc (.cells #[.slice none 0 0, .int .i64 0] 42) = wa at *
  have hwb := below_alloc1 wa (.cells #[.slice none 0 0, .int .i64 0] 42)
  have D0 := Lib.hid (Cs.new wa [.slice none 0 0, .int .i64 0] 42)
  have hzb : (wa.alloc (.cells #[.slice none 0 0, .int .i64 0] 42)).heap.size = w.heap.size + 2 := by simp; omega
  rw [hza] at D0
  generalize hwf : wa.alloc (.cells #[.slice none 0 0, .int .i64 0] 42) = w0 at *
  have C0 := Lib.hid (C0.out.next hwb)
  have X0 := Lib.hid ((H.out.next hwa).next hwb)
  have B0 : Hid (w.grownBy w0 (some g)) := fr_next (grown_below hwa) (grown_below hwb)
  clear hwa hwb
  have HE : Hid (ruleP p = (((cellsP p).1, (numberP (wantsP [61, 62] (cellsP p).2)).1), wantsP [59] (numberP (wantsP [61, 62] (cellsP p).2)).2)) := rfl
  have L1 := cellsP_len p
  have L2 := wantsP_len [61, 62] (cellsP p).2
  have L3 := numberP_len (wantsP [61, 62] (cellsP p).2)
  generalize hR : ruleP p = R at *
  clear hR
  go_enter Tryd.func38, Tryd.ntmps38
  go_wp2_with fail
  refine (p_cells p g _ X0.out hs).mono ?_
  rintro e w1 ⟨v1, rfl, hn1, h1, hb1⟩
  have S1 := Lib.hid (hn1.sl (Nat.le_refl _))
  obtain ⟨A1, c1, rfl, -, -, -⟩ := hn1.form
  have X1 := Lib.hid (X0.out.grown h1 hb1)
  have B1 := Lib.hid (fr_next B0.out hb1)
  have C1 := Lib.hid (C0.out.grown hb1 (by omega))
  have D1 := Lib.hid (D0.out.grown hb1 (by omega))
  have hz1 := hb1.size
  clear hwe hwf
  clear h1 hb1 hn1
  generalize hP1 : cellsP p = P1 at *
  obtain ⟨cs1, p1⟩ := P1
  simp only at X1 HE S1 L1 L2 L3
  obtain ⟨d0, d1, d2⟩ := D1.out
  have r0 := d1 0 _ rfl
  have f0 := d2 0 (by simp)
  clear d1 d2
  have b2 := below_set w1 (w.heap.size + 1) 0 (.slice A1 cs1.length c1)
  have X2 := Lib.hid (X1.out.below b2 (by omega))
  have B2 := Lib.hid (fr_below B1.out b2 (by omega))
  have C2 := Lib.hid (C1.out.below b2 (by omega))
  have D2 := Lib.hid (D1.out.set 0 (by simp) (.slice A1 cs1.length c1))
  have hz2 : (w1.setCell ⟨w.heap.size + 1, 0, none⟩ (.slice A1 cs1.length c1)).heap.size = w1.heap.size := by simp [World.setCell]
  have S2 : Hid (Sl Enc.cell (w1.setCell ⟨w.heap.size + 1, 0, none⟩ (.slice A1 cs1.length c1)) (From w0.heap.size w1) cs1 (.slice A1 cs1.length c1)) := S1.out.keep fun q hq => World.cell?_of_block (RowKit.Below.heap_setCell _ _ _ _ (by have := hq.1; show q.block ≠ w.heap.size + 1; omega))
  generalize hwe2 : w1.setCell ⟨w.heap.size + 1, 0, none⟩ (.slice A1 cs1.length c1) = w2 at *
  go_wp2_with fail
  refine (p_wants [61, 62] p1 g _ X2.out.1 (by omega)).mono ?_
  rintro e w3 ⟨rfl, h3, hb3⟩
  have X3 := Lib.hid (X2.out.grown h3 hb3)
  have B3 := Lib.hid (fr_next B2.out hb3)
  have C3 := Lib.hid (C2.out.grown hb3 (by omega))
  have D3 := Lib.hid (D2.out.grown hb3 (by omega))
  have hz3 := hb3.size
  have S3 := Lib.hid (S2.out.grown hb3 (fun k hk => ⟨by have := hk.2; omega, by have := hk.1; omega⟩))
  clear hwe2 r0 f0 b2
  clear h3 hb3
  generalize hP3 : wantsP [61, 62] p1 = p3 at *
  go_wp2_with fail
  refine (p_number p3 g _ X3.out (by omega)).mono ?_
  rintro e w4 ⟨rfl, h4, hb4⟩
  have X4 := Lib.hid (X3.out.grown h4 hb4)
  have B4 := Lib.hid (fr_next B3.out hb4)
  have C4 := Lib.hid (C3.out.grown hb4 (by omega))
  have D4 := Lib.hid (D3.out.grown hb4 (by omega))
  have hz4 := hb4.size
  have S4 := Lib.hid (S3.out.grown hb4 (fun k hk => ⟨by have := hk.2; omega, by have := hk.1; omega⟩))
  clear h4 hb4
  generalize hP4 : numberP p3 = P4 at *
  obtain ⟨n4, p4⟩ := P4
  simp only at X4 HE L3
  obtain ⟨d0, d1, d2⟩ := D4.out
  have r0 := d1 1 _ rfl
  have f0 := d2 1 (by simp)
  clear d1 d2
  have b5 := below_set w4 (w.heap.size + 1) 1 (.int .i64 n4)
  have X5 := Lib.hid (X4.out.below b5 (by omega))
  have B5 := Lib.hid (fr_below B4.out b5 (by omega))
  have C5 := Lib.hid (C4.out.below b5 (by omega))
  have D5 := Lib.hid (D4.out.set 1 (by simp) (.int .i64 n4))
  have hz5 : (w4.setCell ⟨w.heap.size + 1, 1, none⟩ (.int .i64 n4)).heap.size = w4.heap.size := by simp [World.setCell]
  have S5 : Hid (Sl Enc.cell (w4.setCell ⟨w.heap.size + 1, 1, none⟩ (.int .i64 n4)) (From w0.heap.size w1) cs1 (.slice A1 cs1.length c1)) := S4.out.keep fun q hq => World.cell?_of_block (RowKit.Below.heap_setCell _ _ _ _ (by have := hq.1; show q.block ≠ w.heap.size + 1; omega))
  generalize hwe5 : w4.setCell ⟨w.heap.size + 1, 1, none⟩ (.int .i64 n4) = w5 at *
  go_wp2_with fail
  refine (p_wants [59] p4 g _ X5.out.1 (by omega)).mono ?_
  rintro e w6 ⟨rfl, h6, hb6⟩
  have X6 := Lib.hid (X5.out.grown h6 hb6)
  have B6 := Lib.hid (fr_next B5.out hb6)
  have C6 := Lib.hid (C5.out.grown hb6 (by omega))
  have D6 := Lib.hid (D5.out.grown hb6 (by omega))
  have hz6 := hb6.size
  have S6 := Lib.hid (S5.out.grown hb6 (fun k hk => ⟨by have := hk.2; omega, by have := hk.1; omega⟩))
  clear hwe5 r0 f0 b5
  clear h6 hb6
  generalize hP6 : wantsP [59] p4 = p6 at *
  obtain ⟨d0, d1, d2⟩ := D6.out
  have r0 := d1 0 _ rfl
  have r1 := d1 1 _ rfl
  obtain ⟨u0, u1, u2⟩ := C6.out
  have k0 := u1 0 _ rfl
  have k1 := u1 1 _ rfl
  have l0 := u2 0 (by simp)
  have l1 := u2 1 (by simp)
  clear d1 d2 u1 u2
  have C7 := Lib.hid ((C6.out.set 0 (by simp) (.slice A1 cs1.length c1)).set 1 (by simp) (.int .i64 n4))
  have b7 := below_set w6 w.heap.size 0 (.slice A1 cs1.length c1)
  have b8 := below_set (w6.setCell ⟨w.heap.size, 0, none⟩ (.slice A1 cs1.length c1)) w.heap.size 1 (.int .i64 n4)
  have X8 := Lib.hid ((X6.out.below b7 hg).below b8 hg)
  have B8 := Lib.hid (fr_below (fr_below B6.out b7 (Nat.le_refl _)) b8 (Nat.le_refl _))
  have S8 : Hid (Sl Enc.cell ((w6.setCell ⟨w.heap.size, 0, none⟩ (.slice A1 cs1.length c1)).setCell ⟨w.heap.size, 1, none⟩ (.int .i64 n4)) (From w0.heap.size w1) cs1 (.slice A1 cs1.length c1)) :=
    (S6.out.keep fun q hq => World.cell?_of_block (RowKit.Below.heap_setCell _ _ _ _ (by have := hq.1; show q.block ≠ w.heap.size; omega))).keep fun q hq => World.cell?_of_block (RowKit.Below.heap_setCell _ _ _ _ (by have := hq.1; show q.block ≠ w.heap.size; omega))
  clear b7 b8
  go_wp2
  refine bodyPost_ret (ret_ruleX (b := w.heap.size) rfl rfl C7.out) rfl ?_
  rw [HE.out]
  refine ⟨_, rfl, S8.out.more (fun k hk => ⟨by have := hk.1; omega, ?_⟩), X8.out.1, B8.out⟩
  have := hk.2
  simp [World.setCell]; omega

theorem ret_domX {fn : Func} {p : Tmp} {tmps : Array Value} {W : World} {b : Nat} {x y z : Value} (h : fn.results = #[.cell p 27]) (hp : tmps.getD p undef = .pointer (some ⟨b, 0, none⟩)) (ht : Cs W b [x, y, z]) :
    (results fn tmps).run Tryd.prog W = .ok (.agg #[x, y, z]) W := by
  have q0 := ht.at 0 rfl
  have q1 := ht.at 1 rfl
  have q2 := ht.at 2 rfl
  have hp' : tmps[p]?.getD undef = .pointer (some ⟨b, 0, none⟩) := by simpa using hp
  simp [results, h, hp', go_sem, q0, q1, q2]

set_option maxRecDepth 100000 in
set_option maxHeartbeats 2000000 in
theorem p_domain (p : PS) (g : Nat) (w : World) (h : PX w g p) (hs : p.rest.length ≤ 2000) :
    Calls Tryd.prog 16 #[.pointer (some ⟨g, 0, none⟩)] w fun e w' => e = .returned (.agg #[.string (domP p).1.1, .int .i64 (domP p).1.2.1, .int .i64 (domP p).1.2.2]) ∧ PA w' g (domP p).2 ∧ w.grownBy w' (some g) := by
  have H := Lib.hid h
  have hg := h.1.1
  have hwa := below_alloc1 w (.cells #[.string ⟨#[]⟩, .int .i64 0, .int .i64 0] 27)
  have C0 := Lib.hid (Cs.new w [.string ⟨#[]⟩, .int .i64 0, .int .i64 0] 27)
  have hza : (w.alloc (.cells #[.string ⟨#[]⟩, .int .i64 0, .int .i64 0] 27)).heap.size = w.heap.size + 1 := by simp
  generalize hwe : w.alloc (.cells #[.string ⟨#[]⟩, .int .i64 0, .int .i64 0] 27) = wa at *
  have hwb := below_alloc1 wa (.cells #[.string ⟨#[]⟩, .int .i64 0, .int .i64 0] 27)
  have D0 := Lib.hid (Cs.new wa [.string ⟨#[]⟩, .int .i64 0, .int .i64 0] 27)
  have hzb : (wa.alloc (.cells #[.string ⟨#[]⟩, .int .i64 0, .int .i64 0] 27)).heap.size = w.heap.size + 2 := by simp; omega
  rw [hza] at D0
  generalize hwf : wa.alloc (.cells #[.string ⟨#[]⟩, .int .i64 0, .int .i64 0] 27) = w0 at *
  have C0 := Lib.hid (C0.out.next hwb)
  have X0 := Lib.hid ((H.out.next hwa).next hwb)
  have B0 : Hid (w.grownBy w0 (some g)) := fr_next (grown_below hwa) (grown_below hwb)
  clear hwa hwb
  have HE : Hid (domP p = (((strP p).1, (numberP (strP p).2).1, (numberP (wantsP [46, 46] (numberP (strP p).2).2)).1), (numberP (wantsP [46, 46] (numberP (strP p).2).2)).2)) := rfl
  have L1 := strP_len p
  have L2 := numberP_len (strP p).2
  have L3 := wantsP_len [46, 46] (numberP (strP p).2).2
  generalize hR : domP p = R at *
  clear hR
  go_enter Tryd.func16, Tryd.ntmps16
  go_wp2_with fail
  refine (p_str p g _ X0.out hs).mono ?_
  rintro e w1 ⟨rfl, h1, hb1⟩
  have X1 := Lib.hid (X0.out.grown h1 hb1)
  have B1 := Lib.hid (fr_next B0.out hb1)
  have C1 := Lib.hid (C0.out.grown hb1 (by omega))
  have D1 := Lib.hid (D0.out.grown hb1 (by omega))
  have hz1 := hb1.size
  clear hwe hwf
  clear h1 hb1
  generalize hP1 : strP p = P1 at *
  obtain ⟨s1, p1⟩ := P1
  simp only at X1 HE L1 L2 L3
  obtain ⟨d0, d1, d2⟩ := D1.out
  have r0 := d1 0 _ rfl
  have f0 := d2 0 (by simp)
  clear d1 d2
  have b2 := below_set w1 (w.heap.size + 1) 0 (.string s1)
  have X2 := Lib.hid (X1.out.below b2 (by omega))
  have B2 := Lib.hid (fr_below B1.out b2 (by omega))
  have C2 := Lib.hid (C1.out.below b2 (by omega))
  have D2 := Lib.hid (D1.out.set 0 (by simp) (.string s1))
  have hz2 : (w1.setCell ⟨w.heap.size + 1, 0, none⟩ (.string s1)).heap.size = w1.heap.size := by simp [World.setCell]
  generalize hwe2 : w1.setCell ⟨w.heap.size + 1, 0, none⟩ (.string s1) = w2 at *
  go_wp2_with fail
  refine (p_number p1 g _ X2.out (by omega)).mono ?_
  rintro e w3 ⟨rfl, h3, hb3⟩
  have X3 := Lib.hid (X2.out.grown h3 hb3)
  have B3 := Lib.hid (fr_next B2.out hb3)
  have C3 := Lib.hid (C2.out.grown hb3 (by omega))
  have D3 := Lib.hid (D2.out.grown hb3 (by omega))
  have hz3 := hb3.size
  clear hwe2 r0 f0 b2
  clear h3 hb3
  generalize hP3 : numberP p1 = P3 at *
  obtain ⟨n3, p3⟩ := P3
  simp only at X3 HE L2 L3
  obtain ⟨d0, d1, d2⟩ := D3.out
  have r0 := d1 1 _ rfl
  have f0 := d2 1 (by simp)
  clear d1 d2
  have b4 := below_set w3 (w.heap.size + 1) 1 (.int .i64 n3)
  have X4 := Lib.hid (X3.out.below b4 (by omega))
  have B4 := Lib.hid (fr_below B3.out b4 (by omega))
  have C4 := Lib.hid (C3.out.below b4 (by omega))
  have D4 := Lib.hid (D3.out.set 1 (by simp) (.int .i64 n3))
  have hz4 : (w3.setCell ⟨w.heap.size + 1, 1, none⟩ (.int .i64 n3)).heap.size = w3.heap.size := by simp [World.setCell]
  generalize hwe4 : w3.setCell ⟨w.heap.size + 1, 1, none⟩ (.int .i64 n3) = w4 at *
  go_wp2_with fail
  refine (p_wants [46, 46] p3 g _ X4.out.1 (by omega)).mono ?_
  rintro e w5 ⟨rfl, h5, hb5⟩
  have X5 := Lib.hid (X4.out.grown h5 hb5)
  have B5 := Lib.hid (fr_next B4.out hb5)
  have C5 := Lib.hid (C4.out.grown hb5 (by omega))
  have D5 := Lib.hid (D4.out.grown hb5 (by omega))
  have hz5 := hb5.size
  clear hwe4 r0 f0 b4
  clear h5 hb5
  generalize hP5 : wantsP [46, 46] p3 = p5 at *
  go_wp2_with fail
  refine (p_number p5 g _ X5.out (by omega)).mono ?_
  rintro e w6 ⟨rfl, h6, hb6⟩
  have X6 := Lib.hid (X5.out.grown h6 hb6)
  have B6 := Lib.hid (fr_next B5.out hb6)
  have C6 := Lib.hid (C5.out.grown hb6 (by omega))
  have D6 := Lib.hid (D5.out.grown hb6 (by omega))
  have hz6 := hb6.size
  clear h6 hb6
  generalize hP6 : numberP p5 = P6 at *
  obtain ⟨n6, p6⟩ := P6
  simp only at X6 HE
  obtain ⟨d0, d1, d2⟩ := D6.out
  have r0 := d1 2 _ rfl
  have f0 := d2 2 (by simp)
  clear d1 d2
  have b7 := below_set w6 (w.heap.size + 1) 2 (.int .i64 n6)
  have X7 := Lib.hid (X6.out.below b7 (by omega))
  have B7 := Lib.hid (fr_below B6.out b7 (by omega))
  have C7 := Lib.hid (C6.out.below b7 (by omega))
  have D7 := Lib.hid (D6.out.set 2 (by simp) (.int .i64 n6))
  have hz7 : (w6.setCell ⟨w.heap.size + 1, 2, none⟩ (.int .i64 n6)).heap.size = w6.heap.size := by simp [World.setCell]
  generalize hwe7 : w6.setCell ⟨w.heap.size + 1, 2, none⟩ (.int .i64 n6) = w7 at *
  obtain ⟨e0, e1, e2⟩ := D7.out
  have s0 := e1 0 _ rfl
  have s1' := e1 1 _ rfl
  have s2 := e1 2 _ rfl
  obtain ⟨u0, u1, u2⟩ := C7.out
  have k0 := u1 0 _ rfl
  have k1 := u1 1 _ rfl
  have k2 := u1 2 _ rfl
  have l0 := u2 0 (by simp)
  have l1 := u2 1 (by simp)
  have l2 := u2 2 (by simp)
  clear e1 e2 u1 u2 b7
  have C8 := Lib.hid (((C7.out.set 0 (by simp) (.string s1)).set 1 (by simp) (.int .i64 n3)).set 2 (by simp) (.int .i64 n6))
  have b8 := below_set w7 w.heap.size 0 (.string s1)
  have b9 := below_set (w7.setCell ⟨w.heap.size, 0, none⟩ (.string s1)) w.heap.size 1 (.int .i64 n3)
  have b10 := below_set ((w7.setCell ⟨w.heap.size, 0, none⟩ (.string s1)).setCell ⟨w.heap.size, 1, none⟩ (.int .i64 n3)) w.heap.size 2 (.int .i64 n6)
  have X8 := Lib.hid (((X7.out.below b8 hg).below b9 hg).below b10 hg)
  have B8 := Lib.hid (fr_below (fr_below (fr_below B7.out b8 (Nat.le_refl _)) b9 (Nat.le_refl _)) b10 (Nat.le_refl _))
  clear b8 b9 b10
  go_wp2
  refine bodyPost_ret (ret_domX (b := w.heap.size) rfl rfl C8.out) rfl ?_
  rw [HE.out]
  exact ⟨rfl, X8.out.1, B8.out⟩

def polL : List Bs := [] :: polW
theorem polL_at {w : World} {G : Nat} (hG : Tryd.prog.globalNamed "ratebook/text.policies" = some G) (h : VarsOk w) {k : Nat} (hk : k < 8) : w.cell? ⟨G, k, none⟩ = some (.string (bs (polL.getD k []))) := by
  have h0 := World.var?_cell hG h.pol k
  rw [h0]
  have : ∀ k : Fin 8, ((([] :: polW).map fun l => Value.string (bs l)).toArray)[k.1]? = some (.string (bs (polL.getD k.1 []))) := by
    intro k
    match k with
    | ⟨0, _⟩ => rfl
    | ⟨1, _⟩ => rfl
    | ⟨2, _⟩ => rfl
    | ⟨3, _⟩ => rfl
    | ⟨4, _⟩ => rfl
    | ⟨5, _⟩ => rfl
    | ⟨6, _⟩ => rfl
    | ⟨7, _⟩ => rfl
  exact this ⟨k, hk⟩
theorem pol_found {W : Bs} {k : Nat} (h1 : 1 ≤ k) (h2 : k ≤ 7) (hn : ∀ j, 1 ≤ j → j < k → polL.getD j [] ≠ W) (hk : polL.getD k [] = W) : polW.findIdx? (· == W) = some (k - 1) := by
  have hl : polW.length = 7 := rfl
  have e : ∀ j (h : j < polW.length), polW[j] = polL.getD (j + 1) [] := by
    intro j h
    show _ = (([] : Bs) :: polW).getD (j + 1) []
    simp [List.getD, List.getElem?_eq_getElem h]
  rw [List.findIdx?_eq_some_iff_getElem]
  refine ⟨by omega, ?_, fun j hj => ?_⟩
  · rw [e _ (by omega), show k - 1 + 1 = k by omega, hk]; simp
  · rw [e _ (by omega)]
    have := hn (j + 1) (by omega) (by omega)
    simpa using this
theorem pol_none {W : Bs} (hn : ∀ j, 1 ≤ j → j < 8 → polL.getD j [] ≠ W) : polW.findIdx? (· == W) = none := by
  have hl : polW.length = 7 := rfl
  rw [List.findIdx?_eq_none_iff]
  intro x hx
  obtain ⟨j, hj, rfl⟩ := List.getElem_of_mem hx
  have e : polW[j] = polL.getD (j + 1) [] := by
    show _ = (([] : Bs) :: polW).getD (j + 1) []
    simp [List.getD, List.getElem?_eq_getElem hj]
  rw [e]
  have := hn (j + 1) (by omega) (by omega)
  simpa using this

set_option maxRecDepth 100000 in
set_option maxHeartbeats 2000000 in
theorem p_policy (p : PS) (g : Nat) (w : World) (h : PX w g p) (hs : p.rest.length ≤ 2000) :
    Calls Tryd.prog 34 #[.pointer (some ⟨g, 0, none⟩)] w fun e w' => e = .returned (.int .i64 (polP p).1) ∧ PA w' g (polP p).2 ∧ w.grownBy w' (some g) := by
  have H := Lib.hid h
  have hg := h.1.1
  have HE : Hid (polP p = match polW.findIdx? (· == (wordP p).1) with
    | some k => ((k : Int) + 1, (wordP p).2)
    | none => (0, ⟨(wordP p).2.rest, true⟩)) := rfl
  generalize hR : polP p = R at *
  clear hR
  go_enter Tryd.func34, Tryd.ntmps34
  go_wp2_with fail
  refine (p_word p g _ H.out.1 hs).mono ?_
  rintro e w1 ⟨rfl, h1, hb1⟩
  have X1 := Lib.hid (H.out.grown h1 hb1)
  have B1 := Lib.hid hb1
  clear h1 hb1
  generalize hP1 : wordP p = P1 at *
  obtain ⟨W, p1⟩ := P1
  simp only at X1 HE
  have hcell : ∀ k : Nat, k < 8 → w1.cell? ⟨0, k, none⟩ = some (.string (bs (polL.getD k []))) := fun k hk => polL_at (by kernel_rfl) X1.out.2.1 hk
  have HCE := Lib.hid hcell
  clear hcell
  obtain ⟨⟨u0, u1, u2, u3, u4⟩, u5, u6⟩ := X1.out
  clear u5 u6
  have hW := bs_toList W
  go_wp2
  go_loopw [4] (fun i wr => ∃ k : Nat, (1 ≤ k ∧ k ≤ 8) ∧ i = .int .i64 k ∧ Hid (∀ j, 1 ≤ j → j < k → polL.getD j [] ≠ W) ∧ wr = w1) (fun i _ => 8 - (intOf i).toNat)
  case atStart => exact ⟨1, by omega, rfl, fun j h1 h2 => by omega, rfl⟩
  case round =>
    obtain ⟨k, ⟨hk1, hk8⟩, rfl, hf, rfl⟩ := hrel
    by_cases hk : k < 8
    · have hk' : (k : Int) ≤ 7 := by omega
      have hc := HCE.out k hk
      have hx := bs_toList (polL.getD k [])
      generalize hXX : polL.getD k [] = XX at *
      by_cases hq : XX = W
      · have HF := Lib.hid (pol_found hk1 (by omega) hf.out (hXX.trans hq))
        subst hq
        have hkk : ((k - 1 : Nat) : Int) + 1 = k := by omega
        have HE' : Hid (R = ((k : Int), p1)) := by show R = _; rw [HE.out, HF.out]; simp only [hkk]
        clear HE
        go_wp2
        go_ret
        rw [HE'.out]
        exact ⟨rfl, X1.out.1, B1.out⟩
      · have hq1 : (XX == W) = false := beq_eq_false_iff_ne.2 hq
        go_wp2
        refine ⟨⟨k + 1, by omega, by go_num, fun j h1 h2 => ?_, by first | trivial | rfl⟩, by simp [intOf]; omega⟩
        by_cases hjk : j = k
        · subst hjk; rw [hXX]; exact hq
        · exact hf.out j h1 (by omega)
    · obtain rfl : k = 8 := by omega
      have HE' : Hid (R = (0, ⟨p1.rest, true⟩)) := by show R = _; rw [HE.out, pol_none hf.out]
      clear HE
      go_wp2
      go_ret
      rw [HE'.out]
      exact ⟨rfl, X1.out.1.set1 true, fr_next B1.out (grown_set ..)⟩

end Go.Proofs.YtmdljknlbmlacabDoor
