/- The parser's methods oneRange, ranges, cell, cells and rule, each as a Lean function of the state that the receiver reads as. Conditions: the receiver is a parser in memory; the text has at most 2000 bytes; the package variables that strconv reads are as their initialisers lay them. -/
import Derived.Test.YtmdljknlbmlacabDoorTxtB
import Derived.Test.YtmdljknlbmlacabDoorBox
import Derived.Test.YtmdljknlbmlacabDoorTab
namespace Go.Proofs.YtmdljknlbmlacabDoor
open Go.RowKit Go.Shelf

section
variable {w w' : World} {b g : Nat} {vs : List Value} {p : PS}
theorem PX.below {B : Nat} (h : PX w g p) (hb : Below B w w') (hg : g < B) : PX w' g p :=
  ⟨h.1.keep (hb.block g hg) hb.size, h.2.1.keep h.2.2 fun k hk => hb.block k (by omega), h.2.2⟩
/-- the frame of a call that writes the parser's block and new memory -/
theorem fr_below {B : Nat} {w1 : World} (h : w.grownBy w1 (some g)) (hb : Below B w1 w') (hB : w.heap.size ≤ B) : w.grownBy w' (some g) :=
  ⟨hb.os.trans h.os, hb.tape.trans h.tape, hb.output.trans h.output, Nat.le_trans h.size hb.size, fun k hk hne => (hb.block k (by omega)).trans (h.block k hk hne)⟩
theorem fr_refl : w.grownBy w (some g) := grown_refl w _
theorem fr_next {w1 : World} (h : w.grownBy w1 (some g)) (h' : w1.grownBy w' (some g)) : w.grownBy w' (some g) := World.grownBy.trans' h h'
end

theorem ret_rngX {fn : Func} {p : Tmp} {tmps : Array Value} {W : World} {b : Nat} {x y : Value} (h : fn.results = #[.cell p 77]) (hp : tmps.getD p undef = .pointer (some ⟨b, 0, none⟩)) (ht : Cs W b [x, y]) :
    (results fn tmps).run Tryd.prog W = .ok (.agg #[x, y]) W := by
  have q0 := ht.at 0 rfl
  have q1 := ht.at 1 rfl
  have hp' : tmps[p]?.getD undef = .pointer (some ⟨b, 0, none⟩) := by simpa using hp
  simp [results, h, hp', go_sem, q0, q1]
theorem ret_cellX {fn : Func} {p : Tmp} {tmps : Array Value} {W : World} {b : Nat} {x y : Value} (h : fn.results = #[.cell p 55]) (hp : tmps.getD p undef = .pointer (some ⟨b, 0, none⟩)) (ht : Cs W b [x, y]) :
    (results fn tmps).run Tryd.prog W = .ok (.agg #[x, y]) W := by
  have q0 := ht.at 0 rfl
  have q1 := ht.at 1 rfl
  have hp' : tmps[p]?.getD undef = .pointer (some ⟨b, 0, none⟩) := by simpa using hp
  simp [results, h, hp', go_sem, q0, q1]
theorem ret_ruleX {fn : Func} {p : Tmp} {tmps : Array Value} {W : World} {b : Nat} {x y : Value} (h : fn.results = #[.cell p 42]) (hp : tmps.getD p undef = .pointer (some ⟨b, 0, none⟩)) (ht : Cs W b [x, y]) :
    (results fn tmps).run Tryd.prog W = .ok (.agg #[x, y]) W := by
  have q0 := ht.at 0 rfl
  have q1 := ht.at 1 rfl
  have hp' : tmps[p]?.getD undef = .pointer (some ⟨b, 0, none⟩) := by simpa using hp
  simp [results, h, hp', go_sem, q0, q1]

set_option maxRecDepth 100000 in
set_option maxHeartbeats 1000000 in
theorem p_range (p : PS) (g : Nat) (w : World) (h : PX w g p) (hs : p.rest.length ≤ 2000) :
    Calls Tryd.prog 87 #[.pointer (some ⟨g, 0, none⟩)] w fun e w' => e = .returned (.agg #[.int .i64 (rangeP p).1.1, .int .i64 (rangeP p).1.2]) ∧ PA w' g (rangeP p).2 ∧ w.grownBy w' (some g) := by
  have H := Lib.hid h
  have hg := h.1.1
  have L1 := numberP_len p
  have L2 := takesP_len [46, 46] (numberP p).2
  have hw0 := below_alloc1 w (.cells #[.int .i64 0, .int .i64 0] 77)
  have C0 := Cs.new w [.int .i64 0, .int .i64 0] 77
  have hz0 : (w.alloc (.cells #[.int .i64 0, .int .i64 0] 77)).heap.size = w.heap.size + 1 := by simp
  generalize hwe : w.alloc (.cells #[.int .i64 0, .int .i64 0] 77) = w0 at *
  have X0 := Lib.hid (H.out.next hw0)
  have B0 : Hid (w.grownBy w0 (some g)) := grown_below hw0
  have C0' := Lib.hid C0
  clear hw0 C0
  have HE : Hid (rangeP p = if (takesP [46, 46] (numberP p).2).1 then (((numberP p).1, (numberP (takesP [46, 46] (numberP p).2).2).1), ⟨(numberP (takesP [46, 46] (numberP p).2).2).2.rest, (numberP (takesP [46, 46] (numberP p).2).2).2.bad || decide ((numberP (takesP [46, 46] (numberP p).2).2).1 ≤ (numberP p).1)⟩) else (((numberP p).1, (numberP p).1), (takesP [46, 46] (numberP p).2).2)) := rfl
  generalize hR : rangeP p = R at *
  clear hR
  go_enter Tryd.func87, Tryd.ntmps87
  go_wp2_with fail
  clear hwe
  refine (p_number p g _ X0.out hs).mono ?_
  rintro e w1 ⟨rfl, h1, hb1⟩
  have X1 := Lib.hid (X0.out.grown h1 hb1)
  have B1 := Lib.hid (fr_next B0.out hb1)
  have C1 := Lib.hid (C0'.out.grown hb1 (by omega))
  clear h1 hb1
  generalize hP : numberP p = P1 at *
  obtain ⟨n1, p1⟩ := P1
  simp only at L1 L2 X1 HE
  go_wp2_with fail
  refine (p_takes [46, 46] p1 g _ X1.out.1 (by omega)).mono ?_
  rintro e w2 ⟨rfl, h2, hb2⟩
  have X2 := Lib.hid (X1.out.grown h2 hb2)
  have B2 := Lib.hid (fr_next B1.out hb2)
  have C2 := Lib.hid (C1.out.grown hb2 (by omega))
  clear h2 hb2
  generalize hP2 : takesP [46, 46] p1 = P2 at *
  obtain ⟨t2, p2⟩ := P2
  simp only at L2 X2 HE
  cases t2
  · have HE' : Hid (R = ((n1, n1), p2)) := by show R = _; have := HE.out; simpa using this
    obtain ⟨q0, q1, q2⟩ := C2.out
    have r0 := q1 0 _ rfl
    have r1 := q1 1 _ rfl
    have f0 := q2 0 (by simp)
    have f1 := q2 1 (by simp)
    clear q1 q2 HE
    go_wp2
    refine bodyPost_ret (ret_rngX (b := w.heap.size) rfl rfl (((C2.out.set 0 (by simp) (.int .i64 n1)).set 1 (by simp) (.int .i64 n1)))) rfl ?_
    rw [HE'.out]
    refine ⟨rfl, ?_, ?_⟩
    · exact ((X2.out.below (below_set ..) hg).below (below_set ..) hg).1
    · exact fr_below (fr_below B2.out (below_set ..) (Nat.le_refl _)) (below_set ..) (Nat.le_refl _)
  · have L3 := numberP_len p2
    go_wp2_with fail
    refine (p_number p2 g _ X2.out (by simp at L2; omega)).mono ?_
    rintro e w3 ⟨rfl, h3, hb3⟩
    have X3 := Lib.hid (X2.out.grown h3 hb3)
    have B3 := Lib.hid (fr_next B2.out hb3)
    have C3 := Lib.hid (C2.out.grown hb3 (by omega))
    clear h3 hb3
    generalize hP3 : numberP p2 = P3 at *
    obtain ⟨n3, p3⟩ := P3
    simp only at X3 HE
    by_cases hle : n3 ≤ n1
    · have HE' : Hid (R = ((n1, n3), ⟨p3.rest, true⟩)) := by show R = _; have := HE.out; simp only [if_true] at this; rw [this]; simp [hle]
      obtain ⟨⟨u0, u1, u2, u3, u4⟩, u5, u6⟩ := X3.out
      obtain ⟨q0, q1, q2⟩ := C3.out
      have r0 := q1 0 _ rfl
      have r1 := q1 1 _ rfl
      have f0 := q2 0 (by simp)
      have f1 := q2 1 (by simp)
      clear q1 q2 HE u5 u6
      have X4 := Lib.hid (X3.out.1.set1 true)
      have B4 := Lib.hid (fr_next B3.out (grown_set w3 g 1 (.bool true)))
      have C4 := Lib.hid (C3.out.grown (grown_set w3 g 1 (.bool true)) (by omega))
      have V4 := Lib.hid (X3.out.grown X4.out (grown_set w3 g 1 (.bool true)))
      go_wp2
      refine bodyPost_ret (ret_rngX (b := w.heap.size) rfl rfl (((C4.out.set 0 (by simp) (.int .i64 n1)).set 1 (by simp) (.int .i64 n3)))) rfl ?_
      rw [HE'.out]
      refine ⟨rfl, ?_, ?_⟩
      · exact ((V4.out.below (below_set ..) hg).below (below_set ..) hg).1
      · exact fr_below (fr_below B4.out (below_set ..) (Nat.le_refl _)) (below_set ..) (Nat.le_refl _)
    · have HE' : Hid (R = ((n1, n3), p3)) := by show R = _; have := HE.out; simp only [if_true] at this; rw [this]; simp [hle]
      obtain ⟨q0, q1, q2⟩ := C3.out
      have r0 := q1 0 _ rfl
      have r1 := q1 1 _ rfl
      have f0 := q2 0 (by simp)
      have f1 := q2 1 (by simp)
      clear q1 q2 HE
      have hle' : n1 < n3 := by omega
      go_wp2
      refine bodyPost_ret (ret_rngX (b := w.heap.size) rfl rfl (((C3.out.set 0 (by simp) (.int .i64 n1)).set 1 (by simp) (.int .i64 n3)))) rfl ?_
      rw [HE'.out]
      refine ⟨rfl, ?_, ?_⟩
      · exact ((X3.out.below (below_set ..) hg).below (below_set ..) hg).1
      · exact fr_below (fr_below B3.out (below_set ..) (Nat.le_refl _)) (below_set ..) (Nat.le_refl _)

def restLen (w : World) (g : Nat) : Nat := match w.cell? ⟨g, 0, none⟩ with
  | some (.string s) => s.size
  | _ => 0
theorem restLen_eq {w : World} {g : Nat} {p : PS} (h : PA w g p) : restLen w g = p.rest.length := by
  unfold restLen
  rw [h.2.1]
  exact bs_size _
theorem x_under_rs : Tryd.prog.underlying 53 = some (.slice 77) := by kernel_rfl
theorem x_info_r : (Tryd.prog.info? 77).map (fun i => (i.zero, i.size, i.bytes)) = some (some (.agg #[.int .i64 0, .int .i64 0]), 2, 16) := by kernel_rfl
theorem x_under_cs : Tryd.prog.underlying 40 = some (.slice 55) := by kernel_rfl
theorem x_info_c : (Tryd.prog.info? 55).map (fun i => (i.zero, i.size, i.bytes)) = some (some (.agg #[.bool false, .slice none 0 0]), 2, 32) := by kernel_rfl
theorem x_under_ss : Tryd.prog.underlying 22 = some (.slice 9) := by kernel_rfl
theorem x_info_s : (Tryd.prog.info? 9).map (fun i => (i.zero, i.size, i.bytes)) = some (some (.string ⟨#[]⟩), 1, 16) := by kernel_rfl
theorem cellx_new (w : World) (vs : List Value) (e : Nat) : ∀ j u, vs[j]? = some u → (w.alloc (.cells vs.toArray e)).cell? ((⟨w.heap.size, 0, none⟩ : Addr).add j) = some u := by
  intro j u hu
  have ea : (⟨w.heap.size, 0, none⟩ : Addr).add j = ⟨w.heap.size, j, none⟩ := by unfold Addr.add; split <;> simp_all
  rw [ea]
  exact (World.cell?_alloc_new ..).trans (by simpa using hu)

set_option maxRecDepth 100000 in
set_option maxHeartbeats 2000000 in
theorem p_ranges (p : PS) (g : Nat) (w : World) (h : PX w g p) (hs : p.rest.length ≤ 2000) :
    Calls Tryd.prog 75 #[.pointer (some ⟨g, 0, none⟩)] w fun e w' => ∃ v, e = .returned v ∧ OwnG Enc.rng w' w.heap.size w.heap.size 77 v (rangesP p).1 ∧ PA w' g (rangesP p).2 ∧ w.grownBy w' (some g) := by
  have H := Lib.hid h
  have hg := h.1.1
  have L1 := rangeP_len p
  have HE : Hid (rangesP p = ((rangeP p).1 :: (sepP rangeP [124] ((rangeP p).2.rest.length + 1) (rangeP p).2).1, (sepP rangeP [124] ((rangeP p).2.rest.length + 1) (rangeP p).2).2)) := rfl
  generalize hR : rangesP p = R at *
  clear hR
  go_enter Tryd.func75, Tryd.ntmps75
  go_wp2_with fail
  refine (p_range p g _ H.out hs).mono ?_
  rintro e w1 ⟨rfl, h1, hb1⟩
  have X1 := Lib.hid (H.out.grown h1 hb1)
  have B1 := Lib.hid hb1
  have hz1 := hb1.size
  generalize hP : rangeP p = P1 at *
  obtain ⟨⟨lo1, hi1⟩, p1⟩ := P1
  simp only at L1 X1 HE
  have O1 : Hid (OwnG Enc.rng (w1.alloc (.cells #[.int .i64 lo1, .int .i64 hi1] 77)) w.heap.size w.heap.size 77 (.slice (some ⟨w1.heap.size, 0, none⟩) [(lo1, hi1)].length [(lo1, hi1)].length) [(lo1, hi1)]) := by
    refine OwnG.lit w1 [(lo1, hi1)] #[.int .i64 lo1, .int .i64 hi1] hz1 (by unfold maxLen; simp) rfl (Elems.one ?_)
    exact rfl
  have hw2 := below_alloc1 w1 (.cells #[.int .i64 lo1, .int .i64 hi1] 77)
  have X2 := Lib.hid (X1.out.next hw2)
  have B2 := Lib.hid (fr_next B1.out (grown_below hw2))
  clear h1 hb1
  go_wp2
  clear hw2
  generalize w1.alloc (.cells #[.int .i64 lo1, .int .i64 hi1] 77) = w2 at *
  go_loopw [3] (fun v wr => ∃ (acc : List (Int × Int)) (q : PS) (n : Nat), q.rest.length < n ∧ (q.rest.length + acc.length ≤ 2001 ∧ q.rest.length ≤ 2000) ∧ Hid (R = (acc ++ (sepP rangeP [124] n q).1, (sepP rangeP [124] n q).2)) ∧ Hid (OwnG Enc.rng wr w.heap.size w.heap.size 77 v acc) ∧ Hid (PX wr g q) ∧ Hid (w.grownBy wr (some g))) (fun _ wr => restLen wr g)
  case atStart => exact ⟨[(lo1, hi1)], p1, p1.rest.length + 1, by omega, ⟨by simp only [List.length_cons, List.length_nil]; omega, by omega⟩, HE, O1, X2, B2⟩
  case round =>
    obtain ⟨acc, q, n, hn, ⟨hb, hb2⟩, HR, HO, HX, HB⟩ := hrel
    obtain ⟨m, rfl⟩ : ∃ m, n = m + 1 := ⟨n - 1, by omega⟩
    have hq := HX.out.1
    have T1 := takesP_len [124] q
    have ML := Lib.hid (restLen_eq hq)
    clear hq
    have HS : Hid (sepP rangeP [124] (m + 1) q = if (takesP [124] q).1 then ((rangeP (takesP [124] q).2).1 :: (sepP rangeP [124] m (rangeP (takesP [124] q).2).2).1, (sepP rangeP [124] m (rangeP (takesP [124] q).2).2).2) else ([], (takesP [124] q).2)) := rfl
    go_wp2_with fail
    refine (p_takes [124] q g _ HX.out.1 (by omega)).mono ?_
    rintro e w3 ⟨rfl, h3, hb3⟩
    have X3 := Lib.hid (HX.out.grown h3 hb3)
    have B3 := Lib.hid (fr_next HB.out hb3)
    have O3 := Lib.hid (HO.out.grownP hb3 hg hg)
    clear h3 hb3
    generalize hT : takesP [124] q = T at *
    obtain ⟨t3, q3⟩ := T
    simp only at T1 X3 HS
    cases t3
    · have HS' : Hid (sepP rangeP [124] (m + 1) q = ([], q3)) := by show _ = _; rw [HS.out]; rfl
      clear HS
      go_wp2
      go_ret
      have hr := HR.out
      rw [HS'.out, List.append_nil] at hr
      exact ⟨_, rfl, by rw [hr]; exact O3.out, by rw [hr]; exact X3.out.1, B3.out⟩
    · have I1 := rangeP_len q3
      have T1' : q3.rest.length + 1 ≤ q.rest.length := by simpa using T1
      have hz3 := B3.out.size
      go_wp2_with fail
      refine (p_range q3 g _ X3.out (by omega)).mono ?_
      rintro e w4 ⟨rfl, h4, hb4⟩
      have X4 := Lib.hid (X3.out.grown h4 hb4)
      have B4 := Lib.hid (fr_next B3.out hb4)
      have O4 := Lib.hid (O3.out.grownP hb4 hg hg)
      have hz4 := B4.out.size
      generalize hP4 : rangeP q3 = P4 at *
      obtain ⟨⟨lo4, hi4⟩, q4⟩ := P4
      simp only at I1 X4 HS
      have HS' : Hid (sepP rangeP [124] (m + 1) q = ((lo4, hi4) :: (sepP rangeP [124] m q4).1, (sepP rangeP [124] m q4).2)) := by show _ = _; rw [HS.out]; rfl
      have hw5 := below_alloc1 w4 (.cells #[.int .i64 lo4, .int .i64 hi4] 77)
      have O5 := Lib.hid (O4.out.alloc (.cells #[.int .i64 lo4, .int .i64 hi4] 77))
      have X5 := Lib.hid (X4.out.next hw5)
      have B5 := Lib.hid (fr_next B4.out (grown_below hw5))
      have hz5 : w.heap.size ≤ (w4.alloc (.cells #[.int .i64 lo4, .int .i64 hi4] 77)).heap.size := Nat.le_trans hz4 hw5.size
      have HY : Hid (Enc.rng.rd (w4.alloc (.cells #[.int .i64 lo4, .int .i64 hi4] 77)) (Off w.heap.size (w4.alloc (.cells #[.int .i64 lo4, .int .i64 hi4] 77)) u3) (lo4, hi4) [.int .i64 lo4, .int .i64 hi4]) := rfl
      clear h4 hb4 HS hw5
      go_wp2_with (at_builtin; refine wpList_append_one (E := Enc.rng) _ rfl _ _ 53 rfl w.heap.size w.heap.size 77 16 (.agg #[.int .i64 0, .int .i64 0]) x_under_rs x_info_r rfl (by decide) _ _ rfl O5.out ⟨w4.heap.size, 0, none⟩ (lo4, hi4) [.int .i64 lo4, .int .i64 hi4] rfl HY.out (cellx_new w4 _ _) (by omega) (by unfold maxLen; omega) hz5 ?_; intro v' w6 hown' hgrow6 _)
      have hbel : Below w.heap.size _ w6 := below_of_grown hgrow6 hz5 (fun k hk => (O5.out.lt k hk).1)
      have X6 := X5.out.below hbel hg
      refine ⟨⟨acc ++ [(lo4, hi4)], q4, m, by omega, ⟨by rw [List.length_append]; simp only [List.length_cons, List.length_nil]; omega, by omega⟩, ?_, hown', X6, fr_below B5.out hbel (Nat.le_refl _)⟩, ?_⟩
      · show R = _
        rw [HR.out, HS'.out]; simp
      · rw [restLen_eq X6.1, ML.out]; omega

set_option maxRecDepth 100000 in
set_option maxHeartbeats 2000000 in
theorem p_cell (p : PS) (g : Nat) (w : World) (h : PX w g p) (hs : p.rest.length ≤ 2000) :
    Calls Tryd.prog 61 #[.pointer (some ⟨g, 0, none⟩)] w fun e w' => ∃ v, e = .returned (.agg #[.bool (cellP p).1.1, v]) ∧ Sl Enc.rng w' (From w.heap.size w') (cellP p).1.2 v ∧ PA w' g (cellP p).2 ∧ w.grownBy w' (some g) := by
  have H := Lib.hid h
  have hg := h.1.1
  have L1 := takesP_len [42] p
  have hw0 := below_alloc1 w (.cells #[.bool false, .slice none 0 0] 55)
  have C0 := Lib.hid (Cs.new w [.bool false, .slice none 0 0] 55)
  have hz0 : (w.alloc (.cells #[.bool false, .slice none 0 0] 55)).heap.size = w.heap.size + 1 := by simp
  generalize hwe : w.alloc (.cells #[.bool false, .slice none 0 0] 55) = w0 at *
  have X0 := Lib.hid (H.out.next hw0)
  have B0 : Hid (w.grownBy w0 (some g)) := grown_below hw0
  clear hw0
  have HE : Hid (cellP p = if (takesP [42] p).1 then ((false, []), (takesP [42] p).2) else (((optionP [110, 111, 116] (takesP [42] p).2).1, (rangesP (optionP [110, 111, 116] (takesP [42] p).2).2).1), (rangesP (optionP [110, 111, 116] (takesP [42] p).2).2).2)) := rfl
  generalize hR : cellP p = R at *
  clear hR
  go_enter Tryd.func61, Tryd.ntmps61
  go_wp2_with fail
  clear hwe
  refine (p_takes [42] p g _ X0.out.1 hs).mono ?_
  rintro e w1 ⟨rfl, h1, hb1⟩
  have X1 := Lib.hid (X0.out.grown h1 hb1)
  have B1 := Lib.hid (fr_next B0.out hb1)
  have C1 := Lib.hid (C0.out.grown hb1 (by omega))
  have hz1 := hb1.size
  clear h1 hb1
  generalize hP : takesP [42] p = P1 at *
  obtain ⟨t1, p1⟩ := P1
  simp only at L1 X1 HE
  cases t1
  · have L2 := optionP_len [110, 111, 116] p1
    have hw2 := below_alloc1 w1 (.cells #[.bool false, .slice none 0 0] 55)
    have D2 := Lib.hid (Cs.new w1 [.bool false, .slice none 0 0] 55)
    have hz2 : (w1.alloc (.cells #[.bool false, .slice none 0 0] 55)).heap.size = w1.heap.size + 1 := by simp
    generalize hwe2 : w1.alloc (.cells #[.bool false, .slice none 0 0] 55) = w2 at *
    have X2 := Lib.hid (X1.out.next hw2)
    have C2 := Lib.hid (C1.out.next hw2)
    have B2 := Lib.hid (fr_next B1.out (grown_below hw2))
    clear hw2
    go_wp2_with fail
    clear hwe2
    refine (p_option [110, 111, 116] p1 g _ X2.out.1 (by simp at L1; omega)).mono ?_
    rintro e w3 ⟨rfl, h3, hb3⟩
    have X3 := Lib.hid (X2.out.grown h3 hb3)
    have B3 := Lib.hid (fr_next B2.out hb3)
    have C3 := Lib.hid (C2.out.grown hb3 (by omega))
    have D3 := Lib.hid (D2.out.grown hb3 (by omega))
    have hz3 := hb3.size
    clear h3 hb3
    generalize hP3 : optionP [110, 111, 116] p1 = P3 at *
    obtain ⟨t3, p3⟩ := P3
    simp only at L2 X3 HE
    obtain ⟨d0, d1, d2⟩ := D3.out
    have r0 := d1 0 _ rfl
    have f0 := d2 0 (by simp)
    clear d1 d2
    have X4 := Lib.hid (X3.out.below (below_set w3 w1.heap.size 0 (.bool t3)) (by omega))
    have B4 := Lib.hid (fr_below B3.out (below_set w3 w1.heap.size 0 (.bool t3)) (by omega))
    have C4 := Lib.hid (C3.out.below (below_set w3 w1.heap.size 0 (.bool t3)) (by omega))
    have D4 := Lib.hid (D3.out.set 0 (by simp) (.bool t3))
    have hz4 : (w3.setCell ⟨w1.heap.size, 0, none⟩ (.bool t3)).heap.size = w3.heap.size := by simp [World.setCell]
    generalize hwe4 : w3.setCell ⟨w1.heap.size, 0, none⟩ (.bool t3) = w4 at *
    go_wp2_with fail
    clear hwe4 r0 f0
    refine (p_ranges p3 g _ X4.out (by simp at L1; omega)).mono ?_
    rintro e w5 ⟨v5, rfl, hn5, h5, hb5⟩
    have S5 := Lib.hid (hn5.sl (Nat.le_refl _))
    obtain ⟨A5, c5, rfl, -, -, -⟩ := hn5.form
    have X5 := Lib.hid (X4.out.grown h5 hb5)
    have B5 := Lib.hid (fr_next B4.out hb5)
    have C5 := Lib.hid (C4.out.grown hb5 (by omega))
    have D5 := Lib.hid (D4.out.grown hb5 (by omega))
    have hz5 := hb5.size
    clear h5 hb5 hn5
    generalize hP5 : rangesP p3 = P5 at *
    obtain ⟨rs5, p5⟩ := P5
    simp only at X5 HE S5
    have HE' : Hid (R = ((t3, rs5), p5)) := by show R = _; have := HE.out; simpa using this
    clear HE
    obtain ⟨d0, d1, d2⟩ := D5.out
    have r0 := d1 0 _ rfl
    have r1 := d1 1 _ rfl
    have f0 := d2 0 (by simp)
    have f1 := d2 1 (by simp)
    obtain ⟨u0, u1, u2⟩ := C5.out
    have k0 := u1 0 _ rfl
    have k1 := u1 1 _ rfl
    have l0 := u2 0 (by simp)
    have l1 := u2 1 (by simp)
    clear d1 d2 u1 u2
    have b6 := below_set w5 w1.heap.size 1 (.slice A5 rs5.length c5)
    have X6 := Lib.hid (X5.out.below b6 (by omega))
    have B6 := Lib.hid (fr_below B5.out b6 (by omega))
    have C6 := Lib.hid (C5.out.below b6 (by omega))
    have S6 : Hid (Sl Enc.rng (w5.setCell ⟨w1.heap.size, 1, none⟩ (.slice A5 rs5.length c5)) (From w4.heap.size w5) rs5 (.slice A5 rs5.length c5)) :=
      S5.out.keep fun q hq => World.cell?_of_block (RowKit.Below.heap_setCell _ _ _ _ (by have := hq.1; show q.block ≠ w1.heap.size; omega))
    have C7 := Lib.hid ((C6.out.set 0 (by simp) (.bool t3)).set 1 (by simp) (.slice A5 rs5.length c5))
    have b7 := below_set (w5.setCell ⟨w1.heap.size, 1, none⟩ (.slice A5 rs5.length c5)) w.heap.size 0 (.bool t3)
    have b8 := below_set ((w5.setCell ⟨w1.heap.size, 1, none⟩ (.slice A5 rs5.length c5)).setCell ⟨w.heap.size, 0, none⟩ (.bool t3)) w.heap.size 1 (.slice A5 rs5.length c5)
    have X8 := Lib.hid ((X6.out.below b7 hg).below b8 hg)
    have B8 := Lib.hid (fr_below (fr_below B6.out b7 (Nat.le_refl _)) b8 (Nat.le_refl _))
    have S8 : Hid (Sl Enc.rng (((w5.setCell ⟨w1.heap.size, 1, none⟩ (.slice A5 rs5.length c5)).setCell ⟨w.heap.size, 0, none⟩ (.bool t3)).setCell ⟨w.heap.size, 1, none⟩ (.slice A5 rs5.length c5)) (From w4.heap.size w5) rs5 (.slice A5 rs5.length c5)) :=
      (S6.out.keep fun q hq => World.cell?_of_block (RowKit.Below.heap_setCell _ _ _ _ (by have := hq.1; show q.block ≠ w.heap.size; omega))).keep fun q hq => World.cell?_of_block (RowKit.Below.heap_setCell _ _ _ _ (by have := hq.1; show q.block ≠ w.heap.size; omega))
    clear b6 b7 b8
    go_wp2
    refine bodyPost_ret (ret_cellX (b := w.heap.size) rfl rfl C7.out) rfl ?_
    rw [HE'.out]
    refine ⟨_, rfl, S8.out.more (fun k hk => ⟨by have := hk.1; omega, ?_⟩), X8.out.1, B8.out⟩
    simp [World.setCell]; exact hk.2
  · have HE' : Hid (R = ((false, []), p1)) := by show R = _; have := HE.out; simpa using this
    clear HE
    obtain ⟨u0, u1, u2⟩ := C1.out
    have k0 := u1 0 _ rfl
    have k1 := u1 1 _ rfl
    have l0 := u2 0 (by simp)
    have l1 := u2 1 (by simp)
    clear u1 u2
    go_wp2
    refine bodyPost_ret (ret_cellX (b := w.heap.size) rfl rfl ((C1.out.set 0 (by simp) (.bool false)).set 1 (by simp) (.slice none 0 0))) rfl ?_
    rw [HE'.out]
    refine ⟨_, rfl, Sl.nil, ?_, ?_⟩
    · exact ((X1.out.below (below_set ..) hg).below (below_set ..) hg).1
    · exact fr_below (fr_below B1.out (below_set ..) (Nat.le_refl _)) (below_set ..) (Nat.le_refl _)

end Go.Proofs.YtmdljknlbmlacabDoor
