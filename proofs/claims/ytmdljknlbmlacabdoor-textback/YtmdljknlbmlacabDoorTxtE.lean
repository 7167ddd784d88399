/- The parser's method table, as a Lean function of the state that the receiver reads as. Conditions: the receiver is a parser in memory; the text has at most 2000 bytes; the package variables that strconv and the policies read are as their initialisers lay them. -/
import Derived.Test.YtmdljknlbmlacabDoorTxtD
import Derived.Deep.RegionLaw
namespace Go.Proofs.YtmdljknlbmlacabDoor
open Go.RowKit Go.Shelf

theorem x_under_ru : Tryd.prog.underlying 23 = some (.slice 42) := by kernel_rfl
theorem x_info_ru : (Tryd.prog.info? 42).map (fun i => (i.zero, i.size, i.bytes)) = some (some (.agg #[.slice none 0 0, .int .i64 0]), 2, 32) := by kernel_rfl
theorem ret_tabX {fn : Func} {p : Tmp} {tmps : Array Value} {W : World} {b : Nat} {x y z u v : Value} (h : fn.results = #[.cell p 25]) (hp : tmps.getD p undef = .pointer (some ⟨b, 0, none⟩)) (ht : Cs W b [x, y, z, u, v]) :
    (results fn tmps).run Tryd.prog W = .ok (.agg #[x, y, z, u, v]) W := by
  have q0 := ht.at 0 rfl
  have q1 := ht.at 1 rfl
  have q2 := ht.at 2 rfl
  have q3 := ht.at 3 rfl
  have q4 := ht.at 4 rfl
  have hp' : tmps[p]?.getD undef = .pointer (some ⟨b, 0, none⟩) := by simpa using hp
  simp [results, h, hp', go_sem, q0, q1, q2, q3, q4]
theorem Cs.put5 {w : World} {b : Nat} {a1 a2 a3 a4 a5 : Value} (h : Cs w b [a1, a2, a3, a4, a5]) (x y z u v : Value) :
    Cs (((((w.setCell ⟨b, 0, none⟩ x).setCell ⟨b, 1, none⟩ y).setCell ⟨b, 2, none⟩ z).setCell ⟨b, 3, none⟩ u).setCell ⟨b, 4, none⟩ v) b [x, y, z, u, v] :=
  ((((h.set 0 (by simp) x).set 1 (by simp) y).set 2 (by simp) z).set 3 (by simp) u).set 4 (by simp) v
theorem below_put5 (w : World) (b : Nat) (x y z u v : Value) : Below b w (((((w.setCell ⟨b, 0, none⟩ x).setCell ⟨b, 1, none⟩ y).setCell ⟨b, 2, none⟩ z).setCell ⟨b, 3, none⟩ u).setCell ⟨b, 4, none⟩ v) :=
  ((((below_set ..).trans (below_set ..)).trans (below_set ..)).trans (below_set ..)).trans (below_set ..)
theorem size_put5 (w : World) (b : Nat) (x y z u v : Value) : (((((w.setCell ⟨b, 0, none⟩ x).setCell ⟨b, 1, none⟩ y).setCell ⟨b, 2, none⟩ z).setCell ⟨b, 3, none⟩ u).setCell ⟨b, 4, none⟩ v).heap.size = w.heap.size := by simp [World.setCell]
theorem Sl.put5 {α : Type} {E : Enc α} {w : World} {S : Nat → Prop} {l : List α} {s : Value} (h : Sl E w S l s) (b : Nat) (hS : ∀ k, S k → k ≠ b) (x y z u v : Value) :
    Sl E (((((w.setCell ⟨b, 0, none⟩ x).setCell ⟨b, 1, none⟩ y).setCell ⟨b, 2, none⟩ z).setCell ⟨b, 3, none⟩ u).setCell ⟨b, 4, none⟩ v) S l s := by
  refine h.keep fun q hq => World.cell?_of_block ?_
  have hb := hS _ hq
  rw [RowKit.Below.heap_setCell _ _ _ _ hb, RowKit.Below.heap_setCell _ _ _ _ hb, RowKit.Below.heap_setCell _ _ _ _ hb, RowKit.Below.heap_setCell _ _ _ _ hb, RowKit.Below.heap_setCell _ _ _ _ hb]
theorem PX.drew {w : World} {g : Nat} {p : PS} (h : PX w g p) : PX w.drew g p := h.next ((Below.refl _ _).drew)
theorem fr_drew {w w1 : World} {g : Nat} (h : w.grownBy w1 (some g)) : w.grownBy w1.drew (some g) := ⟨h.os, h.tape, h.output, h.size, h.block⟩
theorem Sl.drewS {α : Type} {E : Enc α} {w : World} {S : Nat → Prop} {l : List α} {v : Value} (h : Sl E w S l v) : Sl E w.drew S l v := h.keep fun _ _ => rfl
theorem OwnG.drewO {α : Type} {E : Enc α} {w : World} {base lo e : Nat} {v : Value} {l : List α} (h : OwnG E w base lo e v l) : OwnG E w.drew base lo e v l := h.next ((Below.refl _ _).drew)
theorem tabP_eq (p : PS) (a : ByteArray × PS) (b : Int × PS) (c : Bool × PS) (d : PS) (i : List ByteArray × PS) (H : PS) (ha : strP p = a) (hb : polP a.2 = b) (hc : optionP [99, 111, 109, 112, 108, 101, 116, 101] b.2 = c) (hd : wantsP [40] c.2 = d) (hi : inputsP d = i) (hH : wantsP [123] (wantsP [41] i.2) = H) :
    tabP p = (⟨a.1, b.1, c.1, i.1, (rulesP (needP H + 1) H).1⟩, (rulesP (needP H + 1) H).2) := by
  subst ha hb hc hd hi hH
  rfl

def needW (w : World) (g : Nat) : Nat := match w.cell? ⟨g, 0, none⟩, w.cell? ⟨g, 1, none⟩ with
  | some (.string s), some (.bool b) => if b then 0 else s.size + 1
  | _, _ => 0
theorem needW_eq {w : World} {g : Nat} {p : PS} (h : PA w g p) : needW w g = needP p := by
  unfold needW needP
  rw [h.2.1, h.2.2.1]
  simp only [bs_size]

set_option maxRecDepth 100000 in
set_option maxHeartbeats 4000000 in
theorem p_table (p : PS) (g : Nat) (w : World) (h : PX w g p) (hs : p.rest.length ≤ 2000) :
    Calls Tryd.prog 19 #[.pointer (some ⟨g, 0, none⟩)] w fun e w' => ∃ v, e = .returned v ∧ TabAt w' (From w.heap.size w') (tabP p).1 v ∧ PA w' g (tabP p).2 ∧ w.grownBy w' (some g) := by
  have H := Lib.hid h
  have hg := h.1.1
  have hwa := below_alloc1 w (.cells #[.string ⟨#[]⟩, .int .i64 0, .bool false, .slice none 0 0, .slice none 0 0] 25)
  have C0 := Lib.hid (Cs.new w [.string ⟨#[]⟩, .int .i64 0, .bool false, .slice none 0 0, .slice none 0 0] 25)
  have hza : (w.alloc (.cells #[.string ⟨#[]⟩, .int .i64 0, .bool false, .slice none 0 0, .slice none 0 0] 25)).heap.size = w.heap.size + 1 := by simp
  generalize hwe : w.alloc (.cells #[.string ⟨#[]⟩, .int .i64 0, .bool false, .slice none 0 0, .slice none 0 0] 25) = wa at *
  have hwb := below_alloc1 wa (.cells #[.string ⟨#[]⟩, .int .i64 0, .bool false, .slice none 0 0, .slice none 0 0] 25)
  have D0 := Lib.hid (Cs.new wa [.string ⟨#[]⟩, .int .i64 0, .bool false, .slice none 0 0, .slice none 0 0] 25)
  have hzb : (wa.alloc (.cells #[.string ⟨#[]⟩, .int .i64 0, .bool false, .slice none 0 0, .slice none 0 0] 25)).heap.size = w.heap.size + 2 := by simp; omega
  rw [hza] at D0
  generalize hwf : wa.alloc (.cells #[.string ⟨#[]⟩, .int .i64 0, .bool false, .slice none 0 0, .slice none 0 0] 25) = w0 at *
  have C0 := Lib.hid (C0.out.next hwb)
  have X0 := Lib.hid ((H.out.next hwa).next hwb)
  have B0 : Hid (w.grownBy w0 (some g)) := fr_next (grown_below hwa) (grown_below hwb)
  clear hwa hwb
  generalize hR : tabP p = R at *
  have HR0 := Lib.hid hR
  clear hR
  go_enter Tryd.func19, Tryd.ntmps19
  go_wp2_with fail
  refine (p_str p g _ X0.out hs).mono ?_
  rintro e w1 ⟨rfl, h1, hb1⟩
  have X1 := Lib.hid (X0.out.grown h1 hb1)
  have B1 := Lib.hid (fr_next B0.out hb1)
  have C1 := Lib.hid (C0.out.grown hb1 (by omega))
  have D1 := Lib.hid (D0.out.grown hb1 (by omega))
  have hz1 := hb1.size
  clear hwe hwf
  have L1 := strP_len p
  clear h1 hb1
  generalize hP1 : strP p = P1 at *
  obtain ⟨s1, p1⟩ := P1
  simp only at X1 L1
  obtain ⟨d0, d1, d2⟩ := D1.out
  have r0 := d1 0 _ rfl
  have f0 := d2 0 (by simp)
  clear d1 d2
  have b2 := below_set w1 (w.heap.size + 1) 0 (.string s1)
  have X2 := Lib.hid (X1.out.below b2 (by omega))
  have B2 := Lib.hid (fr_below B1.out b2 (by omega))
  have C2 := Lib.hid (C1.out.below b2 (by omega))
  have D2 := Lib.hid (D1.out.set 0 (by simp) (.string s1))
  have hz2 : (w1.setCell ⟨w.heap.size + 1, 0, none⟩ (.string s1)).heap.size = w1.heap.size := by simp [World.setCell]
  generalize hwe2 : w1.setCell ⟨w.heap.size + 1, 0, none⟩ (.string s1) = w2 at *
  go_wp2_with fail
  refine (p_policy p1 g _ X2.out (by omega)).mono ?_
  rintro e w3 ⟨rfl, h3, hb3⟩
  have X3 := Lib.hid (X2.out.grown h3 hb3)
  have B3 := Lib.hid (fr_next B2.out hb3)
  have C3 := Lib.hid (C2.out.grown hb3 (by omega))
  have D3 := Lib.hid (D2.out.grown hb3 (by omega))
  have hz3 := hb3.size
  clear hwe2 r0 f0 b2
  have L3 := polP_len p1
  clear h3 hb3
  generalize hP3 : polP p1 = P3 at *
  obtain ⟨n3, p3⟩ := P3
  simp only at X3 L3
  obtain ⟨d0, d1, d2⟩ := D3.out
  have r0 := d1 1 _ rfl
  have f0 := d2 1 (by simp)
  clear d1 d2
  have b4 := below_set w3 (w.heap.size + 1) 1 (.int .i64 n3)
  have X4 := Lib.hid (X3.out.below b4 (by omega))
  have B4 := Lib.hid (fr_below B3.out b4 (by omega))
  have C4 := Lib.hid (C3.out.below b4 (by omega))
  have D4 := Lib.hid (D3.out.set 1 (by simp) (.int .i64 n3))
  have hz4 : (w3.setCell ⟨w.heap.size + 1, 1, none⟩ (.int .i64 n3)).heap.size = w3.heap.size := by simp [World.setCell]
  generalize hwe4 : w3.setCell ⟨w.heap.size + 1, 1, none⟩ (.int .i64 n3) = w4 at *
  go_wp2_with fail
  refine (p_option [99, 111, 109, 112, 108, 101, 116, 101] p3 g _ X4.out.1 (by omega)).mono ?_
  rintro e w5 ⟨rfl, h5, hb5⟩
  have X5 := Lib.hid (X4.out.grown h5 hb5)
  have B5 := Lib.hid (fr_next B4.out hb5)
  have C5 := Lib.hid (C4.out.grown hb5 (by omega))
  have D5 := Lib.hid (D4.out.grown hb5 (by omega))
  have hz5 := hb5.size
  clear hwe4 r0 f0 b4
  have L5 := optionP_len [99, 111, 109, 112, 108, 101, 116, 101] p3
  clear h5 hb5
  generalize hP5 : optionP [99, 111, 109, 112, 108, 101, 116, 101] p3 = P5 at *
  obtain ⟨t5, p5⟩ := P5
  simp only at X5 L5
  obtain ⟨d0, d1, d2⟩ := D5.out
  have r0 := d1 2 _ rfl
  have f0 := d2 2 (by simp)
  clear d1 d2
  have b6 := below_set w5 (w.heap.size + 1) 2 (.bool t5)
  have X6 := Lib.hid (X5.out.below b6 (by omega))
  have B6 := Lib.hid (fr_below B5.out b6 (by omega))
  have C6 := Lib.hid (C5.out.below b6 (by omega))
  have D6 := Lib.hid (D5.out.set 2 (by simp) (.bool t5))
  have hz6 : (w5.setCell ⟨w.heap.size + 1, 2, none⟩ (.bool t5)).heap.size = w5.heap.size := by simp [World.setCell]
  generalize hwe6 : w5.setCell ⟨w.heap.size + 1, 2, none⟩ (.bool t5) = w6 at *
  go_wp2_with fail
  refine (p_wants [40] p5 g _ X6.out.1 (by omega)).mono ?_
  rintro e w7 ⟨rfl, h7, hb7⟩
  have X7 := Lib.hid (X6.out.grown h7 hb7)
  have B7 := Lib.hid (fr_next B6.out hb7)
  have C7 := Lib.hid (C6.out.grown hb7 (by omega))
  have D7 := Lib.hid (D6.out.grown hb7 (by omega))
  have hz7 := hb7.size
  clear hwe6 r0 f0 b6
  have L7 := wantsP_len [40] p5
  clear h7 hb7
  generalize hP7 : wantsP [40] p5 = p7 at *
  go_wp2_with fail
  refine (p_inputs p7 g _ X7.out (by omega)).mono ?_
  rintro e w8 ⟨v8, rfl, hn8, h8, hb8⟩
  have S8 := Lib.hid (hn8.sl (Nat.le_refl _))
  obtain ⟨A8, c8, rfl, -, -, -⟩ := hn8.form
  have X8 := Lib.hid (X7.out.grown h8 hb8)
  have B8 := Lib.hid (fr_next B7.out hb8)
  have C8 := Lib.hid (C7.out.grown hb8 (by omega))
  have D8 := Lib.hid (D7.out.grown hb8 (by omega))
  have hz8 := hb8.size
  clear hn8
  have L8 := inputsP_len p7
  clear h8 hb8
  generalize hP8 : inputsP p7 = P8 at *
  obtain ⟨is8, p8⟩ := P8
  simp only at X8 L8
  simp only at S8
  obtain ⟨d0, d1, d2⟩ := D8.out
  have r0 := d1 3 _ rfl
  have f0 := d2 3 (by simp)
  clear d1 d2
  have b9 := below_set w8 (w.heap.size + 1) 3 (.slice A8 is8.length c8)
  have X9 := Lib.hid (X8.out.below b9 (by omega))
  have B9 := Lib.hid (fr_below B8.out b9 (by omega))
  have C9 := Lib.hid (C8.out.below b9 (by omega))
  have D9 := Lib.hid (D8.out.set 3 (by simp) (.slice A8 is8.length c8))
  have hz9 : (w8.setCell ⟨w.heap.size + 1, 3, none⟩ (.slice A8 is8.length c8)).heap.size = w8.heap.size := by simp [World.setCell]
  have S9 : Hid (Sl Enc.str (w8.setCell ⟨w.heap.size + 1, 3, none⟩ (.slice A8 is8.length c8)) (From w7.heap.size w8) is8 (.slice A8 is8.length c8)) := S8.out.keep fun q hq => World.cell?_of_block (RowKit.Below.heap_setCell _ _ _ _ (by have := hq.1; show q.block ≠ w.heap.size + 1; omega))
  generalize hwe9 : w8.setCell ⟨w.heap.size + 1, 3, none⟩ (.slice A8 is8.length c8) = w9 at *
  go_wp2_with fail
  refine (p_wants [41] p8 g _ X9.out.1 (by omega)).mono ?_
  rintro e w10 ⟨rfl, h10, hb10⟩
  have X10 := Lib.hid (X9.out.grown h10 hb10)
  have B10 := Lib.hid (fr_next B9.out hb10)
  have C10 := Lib.hid (C9.out.grown hb10 (by omega))
  have D10 := Lib.hid (D9.out.grown hb10 (by omega))
  have hz10 := hb10.size
  clear hwe9 r0 f0 b9
  have S10 := Lib.hid (S9.out.grown hb10 (fun k hk => ⟨by have := hk.2; omega, by have := hk.1; omega⟩))
  have L10 := wantsP_len [41] p8
  clear h10 hb10
  generalize hP10 : wantsP [41] p8 = p10 at *
  go_wp2_with fail
  refine (p_wants [123] p10 g _ X10.out.1 (by omega)).mono ?_
  rintro e w11 ⟨rfl, h11, hb11⟩
  have X11 := Lib.hid (X10.out.grown h11 hb11)
  have B11 := Lib.hid (fr_next B10.out hb11)
  have C11 := Lib.hid (C10.out.grown hb11 (by omega))
  have D11 := Lib.hid (D10.out.grown hb11 (by omega))
  have hz11 := hb11.size
  have S11 := Lib.hid (S10.out.grown hb11 (fun k hk => ⟨by have := hk.2; omega, by have := hk.1; omega⟩))
  have L11 := wantsP_len [123] p10
  clear h11 hb11
  generalize hP11 : wantsP [123] p10 = p11 at *
  have HE' := Lib.hid (HR0.out.symm.trans (tabP_eq p _ _ _ _ _ p11 hP1 hP3 hP5 hP7 hP8 (by rw [show wantsP [41] (is8, p8).2 = p10 from hP10]; exact hP11)))
  clear HR0 hP1 hP3 hP5 hP7 hP8 hP10 hP11
  simp only at HE'
  have D11' : Hid (Cs w11 (w.heap.size + 1) [.string s1, .int .i64 n3, .bool t5, .slice A8 is8.length c8, .slice none 0 0]) := D11
  have hg11 : w.heap.size + 2 ≤ w11.heap.size := by omega
  have hzz : w8.heap.size ≤ w11.heap.size := by omega
  go_wp2
  go_loopw [22] (fun _ wr => ∃ (vr : Value) (acc : List RuleD) (q : PS) (n : Nat), needP q < n ∧ (q.rest.length ≤ 2000 ∧ acc.length + needP q ≤ 2001) ∧ w11.heap.size ≤ wr.heap.size ∧ Hid (R = (⟨s1, n3, t5, is8, acc ++ (rulesP n q).1⟩, (rulesP n q).2)) ∧ Hid (OwnG Enc.rule wr w11.heap.size w11.heap.size 42 vr acc) ∧ Hid (Cs wr (w.heap.size + 1) [.string s1, .int .i64 n3, .bool t5, .slice A8 is8.length c8, vr]) ∧ Hid (Cs wr w.heap.size [.string ⟨#[]⟩, .int .i64 0, .bool false, .slice none 0 0, .slice none 0 0]) ∧ Hid (Sl Enc.str wr (From w7.heap.size w8) is8 (.slice A8 is8.length c8)) ∧ Hid (PX wr g q) ∧ Hid (w.grownBy wr (some g))) (fun _ wr => needW wr g)
  case atStart =>
    refine ⟨.slice none 0 0, [], p11, needP p11 + 1, by omega, ⟨by omega, ?_⟩, Nat.le_refl _, ?_, OwnG.nil, D11', C11, S11, X11, B11⟩
    · unfold needP; simp only [List.length_nil]; split <;> omega
    · exact HE'.out
  case round =>
    obtain ⟨vr, acc, q, n, hn, ⟨hb1, hb2⟩, hzl, HR, HO, HD, HC, HS, HX, HB⟩ := hrel
    obtain ⟨m, rfl⟩ : ∃ m, n = m + 1 := ⟨n - 1, by omega⟩
    have ML := Lib.hid (needW_eq HX.out.1)
    obtain ⟨⟨x0, x1, x2, x3, x4⟩, x5, x6⟩ := HX.out
    clear x5 x6 x1
    cases hqb : q.bad
    · rw [hqb] at x2
      have HQ := Lib.hid hqb
      have T1 := takesP_len [125] q
      go_wp2_with fail
      refine (p_takes [125] q g _ HX.out.1 hb1).mono ?_
      rintro e w12 ⟨rfl, h12, hb12⟩
      have X12 := Lib.hid (HX.out.grown h12 hb12)
      have B12 := Lib.hid (fr_next HB.out hb12)
      have C12 := Lib.hid (HC.out.grown hb12 (by omega))
      have D12 := Lib.hid (HD.out.grown hb12 (by omega))
      have S12 := Lib.hid (HS.out.grown hb12 (fun k hk => ⟨by have := hk.2; omega, by have := hk.1; omega⟩))
      have O12 := Lib.hid (HO.out.grownP hb12 (by omega) (by omega))
      have hz12 := hb12.size
      clear h12 hb12
      cases htt : (takesP [125] q).1
      · have ND := needP_next q hqb htt
        have HRN : Hid (rulesP (m + 1) q = ((ruleP (takesP [125] q).2).1 :: (rulesP m (ruleP (takesP [125] q).2).2).1, (rulesP m (ruleP (takesP [125] q).2).2).2)) := by show _ = _; rw [rulesP, if_neg (by rw [hqb]; simp), if_neg (by rw [htt]; simp)]
        rw [htt] at T1
        generalize hT : (takesP [125] q).2 = q12 at *
        have RL := ruleP_len q12
        have hq12 : q12.rest.length ≤ 2000 := by simp at T1; omega
        have hrule := Lib.hid (fun W (hX : PX W g q12) => p_rule q12 g W hX hq12)
        clear hqb htt hT
        generalize ruleP q12 = RR at *
        obtain ⟨⟨cs13, n13⟩, q13⟩ := RR
        simp only at RL ND hrule HRN
        obtain ⟨Ar, cr, ear, -, -, -⟩ := O12.out.form
        subst ear
        obtain ⟨d0, d1, d2⟩ := D12.out
        have r4 := d1 4 _ rfl
        have f4 := d2 4 (by simp)
        have r4' : w12.drew.cell? ⟨w.heap.size + 1, 4, none⟩ = some (.slice Ar acc.length cr) := r4
        clear d1 d2 x0 x2 x3 x4
        have hz12' : w11.heap.size ≤ w12.heap.size := Nat.le_trans hzl hz12
        go_wp2_with fail
        go_region_law
          (first
           | (go_simp; go_at_call 38; refine (hrule.out _ ?_).mono ?_; exact X12.out.drew; rintro e w13 ⟨v13, rfl, hn13, h13, hb13⟩; obtain ⟨A13, c13, rfl, -, -⟩ := hn13.form; have X13 := Lib.hid (X12.out.drew.grown h13 hb13); have B13 := Lib.hid (fr_next (fr_drew B12.out) hb13); have C13 := Lib.hid (C12.out.drew.grown hb13 (by omega)); have D13 := Lib.hid (D12.out.drew.grown hb13 (by omega)); have S13 := Lib.hid ((S12.out.drewS).grown hb13 (fun k hk => ⟨by have := hk.2; show k < w12.heap.size; omega, by have := hk.1; omega⟩)); have O13 := Lib.hid (O12.out.drewO.grownP hb13 (by omega) (by omega)); have hz13 : w12.heap.size ≤ w13.heap.size := hb13.size; have t4 := D13.out.at 4 rfl; have hw14 := below_alloc1 w13 (.cells #[.slice A13 cs13.length c13, .int .i64 n13] 42); have t4' := (D13.out.next hw14).at 4 rfl; have O14 := Lib.hid (O13.out.alloc (.cells #[.slice A13 cs13.length c13, .int .i64 n13] 42)); have X14 := Lib.hid (X13.out.next hw14); have B14 := Lib.hid (fr_next B13.out (grown_below hw14)); have C14 := Lib.hid (C13.out.next hw14); have D14 := Lib.hid (D13.out.next hw14); have S14 := Lib.hid (S13.out.below (B := w13.heap.size) (fun k hk => by have := hk.2; omega) hw14); have HY : Hid (Enc.rule.rd (w13.alloc (.cells #[.slice A13 cs13.length c13, .int .i64 n13] 42)) (Off w11.heap.size (w13.alloc (.cells #[.slice A13 cs13.length c13, .int .i64 n13] 42)) (.slice Ar acc.length cr)) (cs13, n13) [.slice A13 cs13.length c13, .int .i64 n13]) := Enc.rule_rd.2 ⟨_, rfl, (hn13.on hw14).more (off_new O12.out.drewO hz12' (Nat.le_refl _))⟩; have hz14 : w11.heap.size ≤ (w13.alloc (.cells #[.slice A13 cs13.length c13, .int .i64 n13] 42)).heap.size := Nat.le_trans (Nat.le_trans hz12' hz13) hw14.size; clear hw14 h13 hb13 hn13)
           | (refine step_append_one (E := Enc.rule) rfl (.tmp 33) (.tmp 36) 23 rfl w11.heap.size w11.heap.size 42 32 (.agg #[.slice none 0 0, .int .i64 0]) x_under_ru x_info_ru rfl (by decide) (.slice Ar acc.length cr) acc (by simp [Act.eval]) O14.out ⟨w13.heap.size, 0, none⟩ (cs13, n13) [.slice A13 cs13.length c13, .int .i64 n13] (by simp [Act.eval]) HY.out (cellx_new w13 _ _) ?_ ?_ hz14 ?_; omega; (unfold maxLen; omega); intro v15 w15 hown15 hg15 _; obtain ⟨A15, c15, e15, -, -, -⟩ := hown15.form; rw [List.length_append] at e15; simp only [List.length_cons, List.length_nil, Nat.zero_add] at e15; subst e15; have hb15 : Below w11.heap.size _ w15 := below_of_grown hg15 hz14 (fun k hk => (O14.out.lt k hk).1); have O15 := Lib.hid hown15; have X15 := Lib.hid (X14.out.below hb15 (by omega)); have B15 := Lib.hid (fr_below B14.out hb15 (by omega)); have C15 := Lib.hid (C14.out.below hb15 (by omega)); have D15 := Lib.hid (D14.out.below hb15 (by omega)); have S15 := Lib.hid (S14.out.below (B := w11.heap.size) (fun k hk => by have := hk.2; omega) hb15); have hz15 := hb15.size; have y4 := D15.out.at 4 rfl; have y5 := D15.out.2.2 4 (by simp); clear hown15 hg15 hb15))
        all_goals
          go_wp2
          have b16 := below_set w15 (w.heap.size + 1) 4 (.slice A15 (acc.length + 1) c15)
          have X16 := X15.out.below b16 (by omega)
          have z16 : (w15.setCell ⟨w.heap.size + 1, 4, none⟩ (.slice A15 (acc.length + 1) c15)).heap.size = w15.heap.size := by simp [World.setCell]
          refine ⟨⟨_, acc ++ [(cs13, n13)], q13, m, by omega, ⟨by simp at T1; omega, by rw [List.length_append]; simp only [List.length_cons, List.length_nil]; omega⟩, by rw [z16]; omega, ?_, O15.out.setCell (by omega) ?_, D15.out.set 4 (by simp) _, C15.out.below b16 (by omega), S15.out.keep (fun q hq => World.cell?_of_block (RowKit.Below.heap_setCell _ _ _ _ (by have := hq.1; show q.block ≠ w.heap.size + 1; omega))), X16, fr_below B15.out b16 (by omega)⟩, ?_⟩
          · show R = _
            rw [HR.out, HRN.out]; simp
          · intro hh
            have := (O15.out.lt _ hh).1
            omega
          · rw [needW_eq X16.1, ML.out]; omega
      · have HRN : Hid (rulesP (m + 1) q = ([], (takesP [125] q).2)) := by show _ = _; rw [rulesP, if_neg (by rw [hqb]; simp), if_pos htt]
        generalize hT : (takesP [125] q).2 = q12 at *
        clear hqb
        have htt' := Lib.hid htt
        clear htt
        have hzl' := hzl
        have hzl : w11.heap.size ≤ w12.heap.size := Nat.le_trans hzl' hz12
        obtain ⟨Ar, cr, ear, -, -, -⟩ := O12.out.form
        subst ear
        obtain ⟨d0, d1, d2⟩ := D12.out
        have r0 := d1 0 _ rfl
        have r1 := d1 1 _ rfl
        have r2 := d1 2 _ rfl
        have r3 := d1 3 _ rfl
        have r4 := d1 4 _ rfl
        obtain ⟨u0, u1, u2⟩ := C12.out
        have k0 := u1 0 _ rfl
        have k1 := u1 1 _ rfl
        have k2 := u1 2 _ rfl
        have k3 := u1 3 _ rfl
        have k4 := u1 4 _ rfl
        have l0 := u2 0 (by simp)
        have l1 := u2 1 (by simp)
        have l2 := u2 2 (by simp)
        have l3 := u2 3 (by simp)
        have l4 := u2 4 (by simp)
        clear d1 d2 u1 u2
        have hzx : w11.heap.size ≤ w12.heap.size := hzl
        have C20 := Lib.hid (C12.out.put5 (.string s1) (.int .i64 n3) (.bool t5) (.slice A8 is8.length c8) (.slice Ar acc.length cr))
        have b20 := below_put5 w12 w.heap.size (.string s1) (.int .i64 n3) (.bool t5) (.slice A8 is8.length c8) (.slice Ar acc.length cr)
        have X20 := Lib.hid (X12.out.below b20 hg)
        have B20 := Lib.hid (fr_below B12.out b20 (Nat.le_refl _))
        have S20 := Lib.hid (S12.out.put5 w.heap.size (fun k hk => by have := hk.1; omega) (.string s1) (.int .i64 n3) (.bool t5) (.slice A8 is8.length c8) (.slice Ar acc.length cr))
        have O20 := Lib.hid ((O12.out.sl (Nat.le_refl _)).put5 w.heap.size (fun k hk => by have := hk.1; omega) (.string s1) (.int .i64 n3) (.bool t5) (.slice A8 is8.length c8) (.slice Ar acc.length cr))
        have z20 := size_put5 w12 w.heap.size (.string s1) (.int .i64 n3) (.bool t5) (.slice A8 is8.length c8) (.slice Ar acc.length cr)
        clear b20
        go_wp2
        refine bodyPost_ret (ret_tabX (b := w.heap.size) rfl rfl C20.out) rfl ?_
        have hr := HR.out
        rw [HRN.out, List.append_nil] at hr
        rw [hr]
        refine ⟨_, rfl, ⟨_, _, rfl, S20.out.more (fun k hk => ⟨by have := hk.1; omega, ?_⟩), O20.out.more (fun k hk => ⟨by have := hk.1; omega, ?_⟩)⟩, X20.out.1, B20.out⟩
        · have := hk.2
          rw [z20]; omega
        · have := hk.2
          rw [z20]; omega
    · rw [hqb] at x2
      have HRN : Hid (rulesP (m + 1) q = ([], q)) := by show _ = _; rw [rulesP, if_pos hqb]
      clear hqb
      obtain ⟨Ar, cr, ear, -, -, -⟩ := HO.out.form
      subst ear
      obtain ⟨d0, d1, d2⟩ := HD.out
      have r0 := d1 0 _ rfl
      have r1 := d1 1 _ rfl
      have r2 := d1 2 _ rfl
      have r3 := d1 3 _ rfl
      have r4 := d1 4 _ rfl
      obtain ⟨u0, u1, u2⟩ := HC.out
      have k0 := u1 0 _ rfl
      have k1 := u1 1 _ rfl
      have k2 := u1 2 _ rfl
      have k3 := u1 3 _ rfl
      have k4 := u1 4 _ rfl
      have l0 := u2 0 (by simp)
      have l1 := u2 1 (by simp)
      have l2 := u2 2 (by simp)
      have l3 := u2 3 (by simp)
      have l4 := u2 4 (by simp)
      clear d1 d2 u1 u2
      have hzx : w11.heap.size ≤ wr.heap.size := hzl
      have C20 := Lib.hid (HC.out.put5 (.string s1) (.int .i64 n3) (.bool t5) (.slice A8 is8.length c8) (.slice Ar acc.length cr))
      have b20 := below_put5 wr w.heap.size (.string s1) (.int .i64 n3) (.bool t5) (.slice A8 is8.length c8) (.slice Ar acc.length cr)
      have X20 := Lib.hid (HX.out.below b20 hg)
      have B20 := Lib.hid (fr_below HB.out b20 (Nat.le_refl _))
      have S20 := Lib.hid (HS.out.put5 w.heap.size (fun k hk => by have := hk.1; omega) (.string s1) (.int .i64 n3) (.bool t5) (.slice A8 is8.length c8) (.slice Ar acc.length cr))
      have O20 := Lib.hid ((HO.out.sl (Nat.le_refl _)).put5 w.heap.size (fun k hk => by have := hk.1; omega) (.string s1) (.int .i64 n3) (.bool t5) (.slice A8 is8.length c8) (.slice Ar acc.length cr))
      have z20 := size_put5 wr w.heap.size (.string s1) (.int .i64 n3) (.bool t5) (.slice A8 is8.length c8) (.slice Ar acc.length cr)
      clear b20
      go_wp2
      refine bodyPost_ret (ret_tabX (b := w.heap.size) rfl rfl C20.out) rfl ?_
      have hr := HR.out
      rw [HRN.out, List.append_nil] at hr
      rw [hr]
      refine ⟨_, rfl, ⟨_, _, rfl, S20.out.more (fun k hk => ⟨by have := hk.1; omega, ?_⟩), O20.out.more (fun k hk => ⟨by have := hk.1; omega, ?_⟩)⟩, X20.out.1, B20.out⟩
      · have := hk.2
        rw [z20]; omega
      · have := hk.2
        rw [z20]; omega

end Go.Proofs.YtmdljknlbmlacabDoor
