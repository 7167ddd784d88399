/- table.smallest, Gap and Clash, each as a Lean function of the data that its arguments read as. Conditions: argument slices read as lists in old memory; names and lists fit into 2^47 bytes. -/
import Derived.Test.YthnfkghgaagaiabTableG
namespace Go.Proofs.Ythnfkghgaagaiab
open Go.RowKit

def PtPost (r : List Int × Bool) (w : World) (e : Ending) (w' : World) : Prop := ∃ v, e = .returned (.tuple #[v, .bool r.2]) ∧ Sl Enc.int w' (From w.heap.size w') r.1 v ∧ Below w.heap.size w w'
theorem PtPost.from {r : List Int × Bool} {w w0 w' : World} {e : Ending} (hb : Below w.heap.size w w0) (h : PtPost r w0 e w') : PtPost r w e w' := by
  obtain ⟨v, h1, h2, h3⟩ := h
  exact ⟨v, h1, h2.more fun k hk => ⟨Nat.le_trans hb.size hk.1, hk.2⟩, bx hb h3⟩

set_option maxHeartbeats 1000000 in
theorem table_smallest (l : List BoxD) (v : Value) (w : World) (h : Sl Enc.rng.slice.slice w (Old w) l v) (hl : ∀ b, b ∈ l → b.length ≤ 3) :
    Calls Try.prog 29 #[v] w (PtPost (smallV l) w) := by
  have H := Lib.hid h
  have HL := Lib.hid hl
  clear hl
  obtain ⟨A, c, rfl, hc1, hc2, -⟩ := h
  unfold maxLen at hc2
  by_cases h0 : l.length = 0
  · have HE : Hid (smallV l = ([], false)) := by show _ = _; rw [List.length_eq_zero_iff.1 h0]; rfl
    have h0' : (l.length : Int) = 0 := by omega
    go_enter Try.func29, Try.ntmps29
    go_wp2
    go_ret2
    rw [HE.out]
    exact ⟨_, rfl, Sl.nil, Below.refl _ _⟩
  · obtain ⟨b0, o0, x0, u0, e0, hS0, hx0, c0, hr0⟩ := H.out.sl_at (k := 0) (by omega)
    subst e0
    have c0' : w.cell? ⟨b0, o0, none⟩ = some u0 := by simpa using c0
    have HR0 := Lib.hid hr0
    have HL0 := Lib.hid (HL.out x0 (List.mem_of_getElem? hx0.out))
    have HE : Hid (smallV l = (leastL (pointL x0) (l.drop 1), true)) := by
      have := hx0.out
      cases l with
      | nil => simp at this
      | cons z l => simp at this; subst this; rfl
    have HBK := Lib.hid (H.out.back1 rfl (j := 1) (by omega))
    have HD : Hid ((l.drop 1).length = l.length - 1) := List.length_drop ..
    generalize smallV l = R at *
    clear c0 hr0 hx0
    have HM := Lib.hid (fun b (hb : b ∈ l.drop 1) => HL.out b (List.mem_of_mem_drop hb))
    generalize l.drop 1 = D at *
    generalize hN : l.length = N at *
    have HN := Lib.hid hN
    clear hN
    have hn0 : 0 < N := by omega
    have hl0 : (0 : Int) < N := by omega
    have hl1 : (1 : Int) ≤ N := by omega
    have h0' : ((N : Int) == 0) = false := beq_eq_false_iff_ne.2 (by omega)
    obtain ⟨Au, cu, rfl, hu1, hu2⟩ := HR0.out.form
    by_cases h1 : N = 1
    · subst h1
      have HDE : Hid (D = []) := List.length_eq_zero_iff.1 HD.out
      clear HBK
      have hcc : c = 1 ∨ ¬ c = 1 := by omega
      rcases hcc with hcc | hcc
      all_goals
       go_enter Try.func29, Try.ntmps29
       go_wp2_with fail
       refine (box_Point x0 _ _ HR0.out (by have := HL0.out; omega)).mono ?_
       rintro e w1 ⟨v1, rfl, ho1, hb1⟩
       have hs1 := ho1.sl (Nat.le_refl _)
       have HS1 := Lib.hid hs1
       clear ho1 hs1
       go_wp2
       go_loopw [4, 18] (fun u i wr => u = v1 ∧ i = .int .i64 0 ∧ wr = w1) (fun _ _ _ => 0)
       case atStart => exact ⟨rfl, rfl, rfl⟩
       case round =>
         obtain ⟨rfl, rfl, rfl⟩ := hrel
         go_wp2
         go_ret2
         rw [HE.out, HDE.out]
         exact ⟨_, rfl, HS1.out, hb1⟩
    · have hc1' : ¬ c = 1 := by omega
      have HB : Hid (Sl Enc.rng.slice.slice w (Old w) D (.slice (some ⟨b0, o0 + 1, none⟩) (N - 1) (c - 1))) := by
        have := HBK.out
        rw [if_neg hc1'] at this
        exact this
      clear HBK h1
      go_enter Try.func29, Try.ntmps29
      go_wp2_with fail
      refine (box_Point x0 _ _ HR0.out (by have := HL0.out; omega)).mono ?_
      rintro e w1 ⟨v1, rfl, ho1, hb1⟩
      have hs1 := ho1.sl (Nat.le_refl _)
      have HS1 := Lib.hid hs1
      clear ho1 hs1
      go_wp2
      go_loopw [4, 18] (fun u i wr => ∃ k : Nat, k ≤ N - 1 ∧ i = .int .i64 k ∧ Sl Enc.int wr (From w.heap.size wr) (leastL (pointL x0) (D.take k)) u ∧ Below w.heap.size w wr) (fun _ i _ => N - 1 - (intOf i).toNat)
      case atStart => exact ⟨0, Nat.zero_le _, rfl, HS1.out, hb1⟩
      case round =>
        obtain ⟨k, hk, rfl, hsl, hbl⟩ := hrel
        have hsz := hbl.size
        by_cases hlt : k < N - 1
        · obtain ⟨bb, ob, y, uy, eb, _, hy, c1, hry⟩ := (HB.out.onOld hbl).sl_at (k := k) (by rw [HD.out]; exact hlt)
          obtain ⟨rfl, rfl⟩ := some_addr eb
          obtain ⟨Ay, cy, rfl, hy1, hy2⟩ := hry.form
          have HRY := Lib.hid hry
          have HLY := Lib.hid (HM.out y (List.mem_of_getElem? hy.out))
          have HT := Lib.hid (leastL_take hy.out (pointL x0))
          have HS := Lib.hid hsl
          obtain ⟨Ap, cp, rfl, hp1, hp2⟩ := hsl.form
          clear hry hsl eb
          generalize leastL (pointL x0) (D.take k) = P at *
          go_wp2_with fail
          refine (box_Point y _ _ HRY.out (by have := HLY.out; omega)).mono ?_
          rintro e w2 ⟨v2, rfl, ho2, hb2⟩
          have hs2 := ho2.sl (Nat.le_refl _)
          obtain ⟨A2, c2, rfl, -, -⟩ := hs2.form
          have HS2 := Lib.hid hs2
          have HP2 := Lib.hid (HS.out.on hb2)
          clear ho2 hs2
          go_wp2_with fail
          refine (slices_Compare (pointL y) P _ _ _ (HS2.out.more fun _ h => h.2) (HP2.out.more fun _ h => h.2)).mono ?_
          rintro e w3 ⟨rfl, hb3⟩
          have HS3 := Lib.hid (HS2.out.on hb3)
          have HP3 := Lib.hid (HP2.out.on hb3)
          have hb03 := bx hbl (bx hb2 hb3)
          by_cases hcm : cmpL (pointL y) P < 0
          · have HQ : Hid (lexLt (pointL y) P = true) := decide_eq_true hcm
            go_wp2
            refine ⟨⟨k + 1, by omega, by go_num, ?_, hb03⟩, by simp [intOf]; omega⟩
            rw [HT.out, HQ.out]
            exact HS3.out.more fun kk hkk => ⟨Nat.le_trans hsz hkk.1, hkk.2⟩
          · have HQ : Hid (lexLt (pointL y) P = false) := decide_eq_false hcm
            have hcm' : 0 ≤ cmpL (pointL y) P := by omega
            go_wp2
            refine ⟨⟨k + 1, by omega, by go_num, ?_, hb03⟩, by simp [intOf]; omega⟩
            rw [HT.out, HQ.out]
            exact HP3.out
        · go_wp2
          go_ret2
          have e : D.take k = D := List.take_of_length_le (by rw [HD.out]; omega)
          rw [e] at hsl
          rw [HE.out]
          exact ⟨_, rfl, hsl, hbl⟩

theorem cells_small {t : TabD} (hg : goodT t = true) : ∀ r, r ∈ t.rules → ∀ c, c ∈ r.1 → c.2.length * 16 ≤ 140737488355328 := by
  intro r hr c hc
  have := (goodC_iff.1 ((goodR_iff.1 ((goodRs_iff.1 (goodT_iff.1 hg).2.2.2.2).2.2 r hr)).2.2.2 c hc)).2.1
  omega
theorem restBox_small {a : BoxD} {l : List BoxD} : ∀ b, b ∈ restBox a l → b.length ≤ 3 := by
  intro b hb
  rw [restBox_eq] at hb
  split at hb
  · rename_i hg
    obtain ⟨r1, _⟩ := restF_all hg l _ (Nat.le_refl _)
    rw [List.take_length] at r1
    have := goodBox_iff.1 (r1 b hb)
    omega
  · simp at hb

set_option maxHeartbeats 1000000 in
theorem table_Gap (t : TabD) (a : BoxD) (v va : Value) (w : World) (h : TabAt w (Old w) t v) (h' : Sl Enc.rng.slice w (Old w) a va) (hs : smallT t) :
    Calls Try.prog 11 #[v, va] w (PtPost (gapV t a) w) := by
  have HS := Lib.hid hs
  have HT := Lib.hid h
  have HA := Lib.hid h'
  have HCS := Lib.hid (cells_small (t := t))
  have HRL := Lib.hid (fun hg : goodT t = true => (goodRs_iff.1 (goodT_iff.1 hg).2.2.2.2).2.1)
  have HE : Hid (gapV t a = if t.pol ≠ 7 ∧ fitsB t a = true then smallV (restBox a (areasL t.rules a)) else ([], false)) := rfl
  have HFG : Hid (fitsB t a = true → goodT t = true) := fun hf => by simp only [fitsB, Bool.and_eq_true] at hf; exact hf.1
  obtain ⟨nm, pol, comp, ins, rules⟩ := t
  obtain ⟨vi, vr, rfl, hi, hr⟩ := h
  simp only at hi hr HE HCS HRL
  clear hs
  have H := Lib.hid hr
  obtain ⟨Ai, ci, rfl, hi1, hi2, -⟩ := hi
  obtain ⟨A, c, rfl, hc1, hc2, -⟩ := hr
  obtain ⟨B, d, rfl, hd1, hd2, -⟩ := h'
  unfold maxLen at hi2 hc2 hd2
  generalize gapV ⟨nm, pol, comp, ins, rules⟩ a = R at *
  have hb0 := below_alloc1 w (.cells #[.string nm, .int .i64 pol, .bool comp, .slice Ai ins.length ci, .slice A rules.length c] 25)
  generalize hw0 : w.alloc (.cells #[.string nm, .int .i64 pol, .bool comp, .slice Ai ins.length ci, .slice A rules.length c] 25) = w0 at *
  have hg0 : w.heap.size < w0.heap.size := by rw [← hw0]; simp
  have k0 : w0.cell? ⟨w.heap.size, 0, none⟩ = some (.string nm) := by rw [← hw0]; exact cell_new _ _ _ _ _ rfl
  have k1 : w0.cell? ⟨w.heap.size, 1, none⟩ = some (.int .i64 pol) := by rw [← hw0]; exact cell_new _ _ _ _ _ rfl
  have k2 : w0.cell? ⟨w.heap.size, 2, none⟩ = some (.bool comp) := by rw [← hw0]; exact cell_new _ _ _ _ _ rfl
  have k3 : w0.cell? ⟨w.heap.size, 3, none⟩ = some (.slice Ai ins.length ci) := by rw [← hw0]; exact cell_new _ _ _ _ _ rfl
  have k4 : w0.cell? ⟨w.heap.size, 4, none⟩ = some (.slice A rules.length c) := by rw [← hw0]; exact cell_new _ _ _ _ _ rfl
  have HT0 := Lib.hid (HT.out.onOld hb0)
  have HA0 := Lib.hid (HA.out.onOld hb0)
  by_cases h7 : pol = 7
  · have h7' : (pol == 7) = true := by rw [h7]; rfl
    have HV : Hid (R = ([], false)) := by show _ = _; rw [HE.out, if_neg (fun hh => hh.1 h7)]
    clear h7
    go_enter Try.func11, Try.ntmps11
    go_wp2
    go_ret2
    rw [HV.out]
    exact ⟨_, rfl, Sl.nil, hb0⟩
  · have h7' : (pol == 7) = false := beq_eq_false_iff_ne.2 h7
    have H7 := Lib.hid h7
    clear h7
    go_enter Try.func11, Try.ntmps11
    go_wp2_with fail
    refine (table_fits _ a _ _ _ HT0.out HA0.out HS.out).mono ?_
    rintro e w1 ⟨rfl, hb1⟩
    have j4 := (hb1.cell (p := ⟨w.heap.size, 4, none⟩) hg0).trans k4
    have hb01 := bx hb0 hb1
    have HA1 := Lib.hid (HA0.out.onOld hb1)
    have H1 := Lib.hid (H.out.onOld hb01)
    have hsz1 := hb01.size
    clear k0 k1 k2 k3 k4 hw0 hb1 HT0 HA0
    cases hf : fitsB ⟨nm, pol, comp, ins, rules⟩ a
    · have HV : Hid (R = ([], false)) := by show _ = _; rw [HE.out, if_neg (fun hh => by rw [hf] at hh; cases hh.2)]
      clear hf
      go_wp2
      go_ret2
      rw [HV.out]
      exact ⟨_, rfl, Sl.nil, hb01⟩
    · have HV : Hid (R = smallV (restBox a (areasL rules a))) := by show _ = _; rw [HE.out, if_pos ⟨H7.out, hf⟩]
      have hgt := HFG.out hf
      have hrl : rules.length ≤ 6 := HRL.out hgt
      have HC := Lib.hid (HCS.out hgt)
      clear hf hgt HFG HCS HRL HE
      go_wp2
      go_loopw [6, 23] (fun u i wr => ∃ k : Nat, k ≤ rules.length ∧ i = .int .i64 k ∧ OwnG Enc.rng.slice.slice wr w1.heap.size w1.heap.size 27 u (areasL (rules.take k) a) ∧ Below w1.heap.size w1 wr) (fun _ i _ => rules.length - (intOf i).toNat)
      case atStart => exact ⟨0, Nat.zero_le _, rfl, OwnG.nil, Below.refl _ _⟩
      case round =>
        obtain ⟨k, hk, rfl, hown, hbl⟩ := hrel
        have hsz := hbl.size
        by_cases hlt : k < rules.length
        · obtain ⟨b, o, cs, x, vc, rfl, _, hx, c1, c2, hr⟩ := (H1.out.onOld hbl).rule_at hlt
          obtain ⟨Ar, cr, rfl, hr1, hr2⟩ := hr.form
          have hbz := below_alloc1 wr (.cells #[.slice Ar cs.length cr, .int .i64 x] 43)
          have HR := Lib.hid (hr.onOld hbz)
          have HA2 := Lib.hid ((HA1.out.onOld hbl).onOld hbz)
          have HTK := Lib.hid (areasL_take hx.out a)
          have HO := Lib.hid hown
          have HCC := Lib.hid (HC.out _ (List.mem_of_getElem? hx.out))
          have HN : Hid ((areasL (rules.take k) a).length ≤ k) := by have := areasL_length (rules.take k) a; rw [List.length_take] at this; show _ ≤ _; omega
          clear hr hown
          go_wp2_with fail
          refine (table_Area cs x a _ _ _ HR.out HA2.out HCC.out).mono ?_
          rintro e w2 ⟨v2, rfl, hn2, hb2⟩
          have hbz2 := bx hbz hb2
          have hb02 := bx hbl hbz2
          have hsz2 := hb02.size
          obtain ⟨A2, c2', rfl, -, -⟩ := hn2.form
          cases hok : areaOk cs a
          · have HK : Hid (areasL (rules.take (k + 1)) a = areasL (rules.take k) a) := by show _ = _; rw [HTK.out, hok]; simp
            clear hok hn2
            go_wp2
            refine ⟨⟨k + 1, by omega, by go_num, ?_, hb02⟩, by simp [intOf]; omega⟩
            rw [HK.out]
            exact HO.out.next hbz2
          · have HK : Hid (areasL (rules.take (k + 1)) a = areasL (rules.take k) a ++ [areaL cs a]) := by show _ = _; rw [HTK.out, hok]; rfl
            have eV : areaV cs a = areaL cs a := by unfold areaV; rw [hok]; rfl
            rw [eV] at hn2 ⊢
            clear hok eV
            generalize areaL cs a = C at *
            have HO1 := Lib.hid ((HO.out.next hbz2).alloc (.cells #[.slice A2 C.length c2'] 27))
            have hoff : ∀ kk, From (wr.alloc (.cells #[.slice Ar cs.length cr, .int .i64 x] 43)).heap.size (w2.alloc (.cells #[.slice A2 C.length c2'] 27)) kk → Off w1.heap.size (w2.alloc (.cells #[.slice A2 C.length c2'] 27)) u6 kk := fun kk hkk => off_new HO.out hsz (Nat.le_refl _) kk ⟨Nat.le_trans hbz.size hkk.1, hkk.2⟩
            have HY : Hid (Enc.rng.slice.slice.rd (w2.alloc (.cells #[.slice A2 C.length c2'] 27)) (Off w1.heap.size (w2.alloc (.cells #[.slice A2 C.length c2'] 27)) u6) C [.slice A2 C.length c2']) := ⟨_, rfl, (hn2.on (below_alloc1 _ _)).more hoff⟩
            have hb3 : Below w1.heap.size w1 (w2.alloc (.cells #[.slice A2 C.length c2'] 27)) := hb02.alloc hsz2 _
            have hsz3 := hb3.size
            clear hn2 hb2 hoff
            go_wp2_with (at_builtin; refine wpList_append_one (E := Enc.rng.slice.slice) _ rfl _ _ 79 rfl w1.heap.size w1.heap.size 27 24 (.slice none 0 0) under_boxes infoBox rfl (by decide) _ _ rfl HO1.out ⟨w2.heap.size, 0, none⟩ C [.slice A2 C.length c2'] rfl HY.out (cell_one_new _ _ _) (by have := HN.out; omega) (by have := HN.out; unfold maxLen; omega) hsz3 ?_; intro v' w3 hown' hgrow3 _)
            refine ⟨⟨k + 1, by omega, by go_num, by rw [HK.out]; exact hown', hb3.grown hgrow3 hsz3 (fun _ hr => (HO.out.lt _ hr).1)⟩, by simp [intOf]; omega⟩
        · have e : rules.take k = rules := List.take_of_length_le (by omega)
          rw [e] at hown
          have HO := Lib.hid (hown.slOld (Nat.le_refl _))
          have HA2 := Lib.hid (HA1.out.onOld hbl)
          have hal : (areasL rules a).length ≤ 20 := by have := areasL_length rules a; omega
          clear hown e
          go_wp2_with fail
          refine (box_Rest a (areasL rules a) _ _ _ HA2.out HO.out hal).mono ?_
          rintro e w2 ⟨v2, rfl, ho2, hb2⟩
          have HO2 := Lib.hid (ho2.slOld (Nat.le_refl _))
          clear ho2
          go_wp2_with fail
          refine (table_smallest _ _ _ HO2.out restBox_small).mono ?_
          rintro e w3 ⟨v3, rfl, hn3, hb3⟩
          go_wp2
          go_ret2
          rw [HV.out]
          exact PtPost.from (bx hb01 (bx hbl hb2)) ⟨v3, rfl, hn3, hb3⟩

end Go.Proofs.Ythnfkghgaagaiab
