/- ratebookref.GapOf and ClashOf answer as table.Gap and table.Clash do. Conditions: argument slices read as lists in old memory; sizes are within bounds. -/
import Derived.Test.YtiejicjknenneaaGreatDoorRefSrch
import Derived.Test.YtiejicjknenneaaGreatDoorTabsSays
import Derived.Test.YtiejicjknenneaaGreatDoorRefSays
import Derived.Test.YtiejicjknenneaaGreatDoorRefBox
import Derived.Test.YtiejicjknenneaaGreatDoorTableI
namespace Go.Proofs.YtiejicjknenneaaGreatDoor
open Go.RowKit

theorem idx_len (k : Nat) (l : List RuleD) (i : List Int) : (idxL k l i).length = (outsL l i).length := by
  induction l generalizing k with
  | nil => rfl
  | cons r l ih =>
    have e : idxL k (r :: l) i = (if matchC r.1 i then [(k : Int)] else []) ++ idxL (k + 1) l i := rfl
    rw [e, List.length_append, ih (k + 1)]
    unfold outsL
    by_cases h : matchC r.1 i = true
    · simp [h]; omega
    · simp [h]
theorem clash_code {t : TabD} (h : goodT t = true) (l : List Int) : decide ((saysV t l).2.2 = 4) = conflictB t.pol (outsL t.rules l) := by
  unfold saysV
  by_cases hl : l.length = t.ins.length
  · rw [if_pos ⟨h, hl⟩, saysO_code]
    cases conflictB t.pol (outsL t.rules l) <;> simp
  · rw [if_neg (fun hh => hl hh.2)]
    have : outsL t.rules l = [] := by
      have h0 : (outsL t.rules l).length = 0 := by
        rw [outs_none]
        intro r hr
        have hlen := (goodR_iff.1 ((goodRs_iff.1 (goodT_iff.1 h).2.2.2.2).2.2 r hr)).2.2.1
        cases hm : matchC r.1 l
        · rfl
        · have : ∀ (cs : List CellD) (i : List Int), matchC cs i = true → cs.length = i.length := by
            intro cs
            induction cs with
            | nil => intro i hi; cases i <;> simp_all [matchC]
            | cons c cs ih =>
              intro i hi
              cases i with
              | nil => simp [matchC] at hi
              | cons n i =>
                simp only [matchC, Bool.and_eq_true] at hi
                simp [ih i hi.2]
          have := this _ _ hm
          omega
      exact List.length_eq_zero_iff.1 h0
    rw [this]; rfl
theorem clash_none {t : TabD} {a : BoxD} (h : fitsB t a = true) (hp : 2 < t.pol) : clashV t a = ([], false) := by
  have hL := clash_least h
  have hf : ∀ i, conflictB t.pol (outsL t.rules i) = false := by
    intro i
    cases outsL t.rules i with
    | nil => rfl
    | cons x l =>
      show l.any (forbidsB t.pol x) = false
      rw [List.any_eq_false]
      intro y _
      unfold forbidsB
      rw [decide_eq_false (by omega), decide_eq_false (by omega)]
      simp
  cases hb : (clashV t a).2
  · have := (hL.2 hb).1
    rw [← this, ← hb]
  · have := (hL.1 hb).2.1
    simp only at this
    rw [hf] at this; cases this

section
variable {nm : ByteArray} {pol : Int} {comp : Bool} {ins : List ByteArray} {rules : List RuleD} {Ai Ar : Option Addr} {ci cr : Nat}
set_option maxRecDepth 100000 in
set_option maxHeartbeats 1000000 in
theorem ref_gapF (l : List Int) (vl : Value) (w : World) (B : Nat) (H : Hid (TabAt w (Old w) ⟨nm, pol, comp, ins, rules⟩ (.agg #[.string nm, .int .i64 pol, .bool comp, .slice Ai ins.length ci, .slice Ar rules.length cr]))) (hl : Sl Enc.int w (Old w) l vl) (HS : Hid (smallT ⟨nm, pol, comp, ins, rules⟩))
    (c0 : w.cell? ⟨B, 0, none⟩ = some (.string nm)) (c1 : w.cell? ⟨B, 1, none⟩ = some (.int .i64 pol)) (c2 : w.cell? ⟨B, 2, none⟩ = some (.bool comp)) (c3 : w.cell? ⟨B, 3, none⟩ = some (.slice Ai ins.length ci)) (c4 : w.cell? ⟨B, 4, none⟩ = some (.slice Ar rules.length cr)) :
    Calls Tryz.prog 21 (#[vl] ++ #[.pointer (some ⟨B, 0, none⟩)]) w fun e w' => e = .returned (.bool (decide ((outsL rules l).length = 0))) ∧ Below w.heap.size w w' := by
  have HL := Lib.hid hl
  have HID := Lib.hid (idx_len 0 rules l)
  obtain ⟨Al, cl, rfl, -, -⟩ := hl.form
  clear hl
  go_enter Tryz.func21, Tryz.ntmps21
  go_wp2_with fail
  refine (ref_MatchesOf _ l _ _ _ H.out HL.out HS.out).mono ?_
  rintro e w1 ⟨v1, rfl, ho1, hb1⟩
  obtain ⟨A1, c1', e1', -, -, -⟩ := ho1.form
  replace e1' : v1 = .slice A1 (idxL 0 rules l).length c1' := e1'
  subst e1'
  have e1 : decide ((outsL rules l).length = 0) = ((((idxL 0 rules l).length : Int)) == 0) := by
    rw [HID.out]
    cases h : (outsL rules l).length with
    | zero => rfl
    | succ n => simp; omega
  generalize hgl : (idxL 0 rules l).length = N at *
  have E1 := Lib.hid e1
  clear e1 hgl ho1
  go_wp2
  go_ret
  exact ⟨ret_bool E1.out.symm, hb1⟩
set_option maxRecDepth 100000 in
set_option maxHeartbeats 1000000 in
theorem ref_clashF (l : List Int) (vl : Value) (w : World) (B : Nat) (H : Hid (TabAt w (Old w) ⟨nm, pol, comp, ins, rules⟩ (.agg #[.string nm, .int .i64 pol, .bool comp, .slice Ai ins.length ci, .slice Ar rules.length cr]))) (hl : Sl Enc.int w (Old w) l vl) (HS : Hid (smallT ⟨nm, pol, comp, ins, rules⟩)) (hsi : ins.length * 16 ≤ 140737488355328)
    (c0 : w.cell? ⟨B, 0, none⟩ = some (.string nm)) (c1 : w.cell? ⟨B, 1, none⟩ = some (.int .i64 pol)) (c2 : w.cell? ⟨B, 2, none⟩ = some (.bool comp)) (c3 : w.cell? ⟨B, 3, none⟩ = some (.slice Ai ins.length ci)) (c4 : w.cell? ⟨B, 4, none⟩ = some (.slice Ar rules.length cr)) :
    Calls Tryz.prog 25 (#[vl] ++ #[.pointer (some ⟨B, 0, none⟩)]) w fun e w' => e = .returned (.bool (decide ((saysV ⟨nm, pol, comp, ins, rules⟩ l).2.2 = 4))) ∧ Below w.heap.size w w' := by
  have HL := Lib.hid hl
  obtain ⟨Al, cl, rfl, -, -⟩ := hl.form
  clear hl
  generalize hR : saysV ⟨nm, pol, comp, ins, rules⟩ l = R
  have HR := Lib.hid hR
  clear hR
  obtain ⟨r1, r2, r3⟩ := R
  go_enter Tryz.func25, Tryz.ntmps25
  go_wp2_with fail
  refine (ref_SaysOf _ l _ _ _ H.out HL.out HS.out hsi).mono ?_
  intro e w1 hp1
  rw [HR.out] at hp1
  obtain ⟨rfl, hb1⟩ := hp1
  go_wp2
  go_ret
  refine ⟨ret_bool ?_, hb1⟩
  by_cases h : r3 = 4 <;> simp [h]
end

set_option maxRecDepth 100000 in
set_option maxHeartbeats 400000 in
theorem ref_GapOf (t : TabD) (a : BoxD) (v va : Value) (w : World) (h : TabAt w (Old w) t v) (h' : Sl Enc.rng.slice w (Old w) a va) (hs : smallT t) (hsi : t.ins.length * 16 ≤ 140737488355328) :
    Calls Tryz.prog 7 #[v, va] w (PtPost (gapV t a) w) := by
  have H := Lib.hid h
  have HA := Lib.hid h'
  have HS := Lib.hid hs
  have HSI := Lib.hid hsi
  obtain ⟨nm, pol, comp, ins, rules⟩ := t
  obtain ⟨vi, vr, rfl, hi', hr'⟩ := h
  simp only at hi' hr' hsi
  obtain ⟨Ai, ci, rfl, hi1, hi2⟩ := hi'.form
  obtain ⟨Ar, cr, rfl, hr1, hr2⟩ := hr'.form
  obtain ⟨Aa, ca, rfl, ha1, ha2⟩ := h'.form
  unfold maxLen at hi2 hr2 ha2
  have hw0 := below_alloc1 w (.cells #[.string nm, .int .i64 pol, .bool comp, .slice Ai ins.length ci, .slice Ar rules.length cr] 25)
  have c0 : (w.alloc (.cells #[.string nm, .int .i64 pol, .bool comp, .slice Ai ins.length ci, .slice Ar rules.length cr] 25)).cell? ⟨w.heap.size, 0, none⟩ = some (.string nm) := cell_new _ _ _ _ _ rfl
  have c1 : (w.alloc (.cells #[.string nm, .int .i64 pol, .bool comp, .slice Ai ins.length ci, .slice Ar rules.length cr] 25)).cell? ⟨w.heap.size, 1, none⟩ = some (.int .i64 pol) := cell_new _ _ _ _ _ rfl
  have c2 : (w.alloc (.cells #[.string nm, .int .i64 pol, .bool comp, .slice Ai ins.length ci, .slice Ar rules.length cr] 25)).cell? ⟨w.heap.size, 2, none⟩ = some (.bool comp) := cell_new _ _ _ _ _ rfl
  have c3 : (w.alloc (.cells #[.string nm, .int .i64 pol, .bool comp, .slice Ai ins.length ci, .slice Ar rules.length cr] 25)).cell? ⟨w.heap.size, 3, none⟩ = some (.slice Ai ins.length ci) := cell_new _ _ _ _ _ rfl
  have c4 : (w.alloc (.cells #[.string nm, .int .i64 pol, .bool comp, .slice Ai ins.length ci, .slice Ar rules.length cr] 25)).cell? ⟨w.heap.size, 4, none⟩ = some (.slice Ar rules.length cr) := cell_new _ _ _ _ _ rfl
  have hlt0 : w.heap.size < (w.alloc (.cells #[.string nm, .int .i64 pol, .bool comp, .slice Ai ins.length ci, .slice Ar rules.length cr] 25)).heap.size := by simp
  generalize hwe : w.alloc (.cells #[.string nm, .int .i64 pol, .bool comp, .slice Ai ins.length ci, .slice Ar rules.length cr] 25) = w0 at *
  have H0 := Lib.hid (H.out.onOld hw0)
  have A0 := Lib.hid (HA.out.onOld hw0)
  clear hi' hr' h' hs
  cases hG : goodT ⟨nm, pol, comp, ins, rules⟩
  · have HV : Hid (gapV ⟨nm, pol, comp, ins, rules⟩ a = ([], false)) := by show _ = _; simp [gapV, fitsB, hG]
    have HGG := Lib.hid hG
    clear hG
    go_enter Tryz.func7, Tryz.ntmps7
    go_wp2_with fail
    clear hwe
    refine (ref_IsTable _ _ _ H0.out HS.out HSI.out).mono ?_
    rintro e w1 ⟨rfl, hb1⟩
    rw [HGG.out]
    go_wp2
    go_ret2
    refine ⟨.slice none 0 0, ?_, ?_, bx hw0 hb1⟩
    · rw [HV.out]; rfl
    · rw [HV.out]; exact Sl.nil
  · have HGG := Lib.hid hG
    cases hBx : goodBox a ins.length
    · have HV : Hid (gapV ⟨nm, pol, comp, ins, rules⟩ a = ([], false)) := by show _ = _; simp [gapV, fitsB, hBx]
      have HBB := Lib.hid hBx
      clear hG hBx
      go_enter Tryz.func7, Tryz.ntmps7
      go_wp2_with fail
      clear hwe
      refine (ref_IsTable _ _ _ H0.out HS.out HSI.out).mono ?_
      rintro e w1 ⟨rfl, hb1⟩
      rw [HGG.out]
      have d3 := (hb1.cell (p := ⟨w.heap.size, 3, none⟩) hlt0).trans c3
      go_wp2_with fail
      refine (ref_IsBox a _ ins.length _ (A0.out.onOld hb1)).mono ?_
      rintro e w2 ⟨rfl, hb2⟩
      rw [HBB.out]
      go_wp2
      go_ret2
      refine ⟨.slice none 0 0, ?_, ?_, bx hw0 (bx hb1 hb2)⟩
      · rw [HV.out]; rfl
      · rw [HV.out]; exact Sl.nil
    · have HBB := Lib.hid hBx
      have hfit : fitsB ⟨nm, pol, comp, ins, rules⟩ a = true := by simp [fitsB, hG, hBx]
      have HFit := Lib.hid hfit
      by_cases hp : pol = 7
      · have HV : Hid (gapV ⟨nm, pol, comp, ins, rules⟩ a = ([], false)) := by show _ = _; simp [gapV, hp]
        clear hG hBx hfit
        have hp1 : (pol == 7) = true := by simp [hp]
        clear hp
        go_enter Tryz.func7, Tryz.ntmps7
        go_wp2_with fail
        clear hwe
        refine (ref_IsTable _ _ _ H0.out HS.out HSI.out).mono ?_
        rintro e w1 ⟨rfl, hb1⟩
        rw [HGG.out]
        have d3 := (hb1.cell (p := ⟨w.heap.size, 3, none⟩) hlt0).trans c3
        go_wp2_with fail
        refine (ref_IsBox a _ ins.length _ (A0.out.onOld hb1)).mono ?_
        rintro e w2 ⟨rfl, hb2⟩
        rw [HBB.out]
        have d1 := ((bx hb1 hb2).cell (p := ⟨w.heap.size, 1, none⟩) hlt0).trans c1
        go_wp2
        go_ret2
        refine ⟨.slice none 0 0, ?_, ?_, bx hw0 (bx hb1 hb2)⟩
        · rw [HV.out]; rfl
        · rw [HV.out]; exact Sl.nil
      · have hp1 : (pol == 7) = false := by simp [hp]
        have HP := Lib.hid hp
        obtain ⟨f1, f2, f3⟩ := fits_rules hfit
        simp only at f2 f3
        have hsets := (goodBox_iff.1 hBx).2
        have HSE := Lib.hid hsets
        have hgr := goodRs_iff.1 (goodT_iff.1 hG).2.2.2.2
        simp only at hgr
        have hrl : rules.length ≤ 6 := hgr.2.1
        have HRC : Hid (∀ r ∈ rules, r.1.length = a.length ∧ ∀ c ∈ r.1, goodB c.2 = true) := fun r hr => ⟨f3 r hr, fun c hc => by
          have hx := hgr.2.2 r hr
          simp only [goodR, Bool.and_eq_true, List.all_eq_true] at hx
          have hy := hx.2 c hc
          simp only [goodC, Bool.and_eq_true] at hy
          exact hy.2⟩
        have ha3 : a.length ≤ 3 := by have := (goodBox_iff.1 hBx).1; omega
        have HGA : Hid (∀ s ∈ a, goodB s = true) := fun s hs => by
          simp only [setsB, List.all_eq_true, Bool.and_eq_true] at hsets
          exact (hsets s hs).2
        clear hgr hsets f1 f2 f3 hfit hBx
        have HG2 := Lib.hid hG
        clear hG hp
        go_enter Tryz.func7, Tryz.ntmps7
        go_wp2_with fail
        clear hwe
        refine (ref_IsTable _ _ _ H0.out HS.out HSI.out).mono ?_
        rintro e w1 ⟨rfl, hb1⟩
        rw [HGG.out]
        have d3 := (hb1.cell (p := ⟨w.heap.size, 3, none⟩) hlt0).trans c3
        go_wp2_with fail
        refine (ref_IsBox a _ ins.length _ (A0.out.onOld hb1)).mono ?_
        rintro e w2 ⟨rfl, hb2⟩
        rw [HBB.out]
        have hb02 := bx hb1 hb2
        have hlt2 := Nat.lt_of_lt_of_le hlt0 hb02.size
        have e0 := (hb02.cell (p := ⟨w.heap.size, 0, none⟩) hlt0).trans c0
        have e1 := (hb02.cell (p := ⟨w.heap.size, 1, none⟩) hlt0).trans c1
        have e2 := (hb02.cell (p := ⟨w.heap.size, 2, none⟩) hlt0).trans c2
        have e3 := (hb02.cell (p := ⟨w.heap.size, 3, none⟩) hlt0).trans c3
        have e4 := (hb02.cell (p := ⟨w.heap.size, 4, none⟩) hlt0).trans c4
        have H2 := Lib.hid (H0.out.onOld hb02)
        have A2 := Lib.hid (A0.out.onOld hb02)
        have hsr := ref_search ⟨nm, pol, comp, ins, rules⟩ a _ _ 21 #[.pointer (some ⟨w.heap.size, 0, none⟩)] (fun i => decide ((outsL rules i).length = 0)) w2 H2.out A2.out ha3 HGA.out hrl HRC.out (enters_of Tryz.func21 (by kernel_rfl) rfl)
          (fun l vl W hW _ hl => ref_gapF l vl W w.heap.size (H2.out.onOld hW) hl HS ((hW.cell (p := ⟨w.heap.size, 0, none⟩) hlt2).trans e0) ((hW.cell (p := ⟨w.heap.size, 1, none⟩) hlt2).trans e1) ((hW.cell (p := ⟨w.heap.size, 2, none⟩) hlt2).trans e2) ((hW.cell (p := ⟨w.heap.size, 3, none⟩) hlt2).trans e3) ((hW.cell (p := ⟨w.heap.size, 4, none⟩) hlt2).trans e4))
        have HSR := Lib.hid hsr
        have B2 := Lib.hid (bx hw0 hb02)
        clear hsr c0 c1 c2 c3 c4 d3
        go_wp2_with fail
        refine HSR.out.mono ?_
        intro e w3 hp3
        obtain ⟨at', vr3, hcols, rfl, hs3, hb3⟩ := hp3
        have heq : srchV (fun i => decide ((outsL rules i).length = 0)) at' = gapV ⟨nm, pol, comp, ins, rules⟩ a := by
          exact Least.uniq (srch_ok (t := ⟨nm, pol, comp, ins, rules⟩) (fun o => decide (o.length = 0)) (fun _ => rfl) HSE.out hcols) (gap_least HFit.out HP.out)
        rw [heq] at hs3 ⊢
        have HS3 := Lib.hid hs3
        clear hs3 hcols heq
        obtain ⟨Av, cv, rfl, -, -⟩ := HS3.out.form
        go_wp2
        go_ret2
        exact ⟨_, rfl, HS3.out.more (fun k hk => ⟨Nat.le_trans B2.out.size hk.1, hk.2⟩), bx B2.out hb3⟩

set_option maxRecDepth 100000 in
set_option maxHeartbeats 400000 in
theorem ref_ClashOf (t : TabD) (a : BoxD) (v va : Value) (w : World) (h : TabAt w (Old w) t v) (h' : Sl Enc.rng.slice w (Old w) a va) (hs : smallT t) (hsi : t.ins.length * 16 ≤ 140737488355328) :
    Calls Tryz.prog 9 #[v, va] w (PtPost (clashV t a) w) := by
  have H := Lib.hid h
  have HA := Lib.hid h'
  have HS := Lib.hid hs
  have HSI := Lib.hid hsi
  obtain ⟨nm, pol, comp, ins, rules⟩ := t
  obtain ⟨vi, vr, rfl, hi', hr'⟩ := h
  simp only at hi' hr' hsi
  obtain ⟨Ai, ci, rfl, hi1, hi2⟩ := hi'.form
  obtain ⟨Ar, cr, rfl, hr1, hr2⟩ := hr'.form
  obtain ⟨Aa, ca, rfl, ha1, ha2⟩ := h'.form
  unfold maxLen at hi2 hr2 ha2
  have hw0 := below_alloc1 w (.cells #[.string nm, .int .i64 pol, .bool comp, .slice Ai ins.length ci, .slice Ar rules.length cr] 25)
  have c0 : (w.alloc (.cells #[.string nm, .int .i64 pol, .bool comp, .slice Ai ins.length ci, .slice Ar rules.length cr] 25)).cell? ⟨w.heap.size, 0, none⟩ = some (.string nm) := cell_new _ _ _ _ _ rfl
  have c1 : (w.alloc (.cells #[.string nm, .int .i64 pol, .bool comp, .slice Ai ins.length ci, .slice Ar rules.length cr] 25)).cell? ⟨w.heap.size, 1, none⟩ = some (.int .i64 pol) := cell_new _ _ _ _ _ rfl
  have c2 : (w.alloc (.cells #[.string nm, .int .i64 pol, .bool comp, .slice Ai ins.length ci, .slice Ar rules.length cr] 25)).cell? ⟨w.heap.size, 2, none⟩ = some (.bool comp) := cell_new _ _ _ _ _ rfl
  have c3 : (w.alloc (.cells #[.string nm, .int .i64 pol, .bool comp, .slice Ai ins.length ci, .slice Ar rules.length cr] 25)).cell? ⟨w.heap.size, 3, none⟩ = some (.slice Ai ins.length ci) := cell_new _ _ _ _ _ rfl
  have c4 : (w.alloc (.cells #[.string nm, .int .i64 pol, .bool comp, .slice Ai ins.length ci, .slice Ar rules.length cr] 25)).cell? ⟨w.heap.size, 4, none⟩ = some (.slice Ar rules.length cr) := cell_new _ _ _ _ _ rfl
  have hlt0 : w.heap.size < (w.alloc (.cells #[.string nm, .int .i64 pol, .bool comp, .slice Ai ins.length ci, .slice Ar rules.length cr] 25)).heap.size := by simp
  generalize hwe : w.alloc (.cells #[.string nm, .int .i64 pol, .bool comp, .slice Ai ins.length ci, .slice Ar rules.length cr] 25) = w0 at *
  have H0 := Lib.hid (H.out.onOld hw0)
  have A0 := Lib.hid (HA.out.onOld hw0)
  clear hi' hr' h' hs
  cases hG : goodT ⟨nm, pol, comp, ins, rules⟩
  · have HV : Hid (clashV ⟨nm, pol, comp, ins, rules⟩ a = ([], false)) := by show _ = _; simp [clashV, fitsB, hG]
    have HGG := Lib.hid hG
    clear hG
    go_enter Tryz.func9, Tryz.ntmps9
    go_wp2_with fail
    clear hwe
    refine (ref_IsTable _ _ _ H0.out HS.out HSI.out).mono ?_
    rintro e w1 ⟨rfl, hb1⟩
    rw [HGG.out]
    go_wp2
    go_ret2
    refine ⟨.slice none 0 0, ?_, ?_, bx hw0 hb1⟩
    · rw [HV.out]; rfl
    · rw [HV.out]; exact Sl.nil
  · have HGG := Lib.hid hG
    cases hBx : goodBox a ins.length
    · have HV : Hid (clashV ⟨nm, pol, comp, ins, rules⟩ a = ([], false)) := by show _ = _; simp [clashV, fitsB, hBx]
      have HBB := Lib.hid hBx
      clear hG hBx
      go_enter Tryz.func9, Tryz.ntmps9
      go_wp2_with fail
      clear hwe
      refine (ref_IsTable _ _ _ H0.out HS.out HSI.out).mono ?_
      rintro e w1 ⟨rfl, hb1⟩
      rw [HGG.out]
      have d3 := (hb1.cell (p := ⟨w.heap.size, 3, none⟩) hlt0).trans c3
      go_wp2_with fail
      refine (ref_IsBox a _ ins.length _ (A0.out.onOld hb1)).mono ?_
      rintro e w2 ⟨rfl, hb2⟩
      rw [HBB.out]
      go_wp2
      go_ret2
      refine ⟨.slice none 0 0, ?_, ?_, bx hw0 (bx hb1 hb2)⟩
      · rw [HV.out]; rfl
      · rw [HV.out]; exact Sl.nil
    · have HBB := Lib.hid hBx
      have hfit : fitsB ⟨nm, pol, comp, ins, rules⟩ a = true := by simp [fitsB, hG, hBx]
      have HFit := Lib.hid hfit
      by_cases hp : 2 < pol
      · have HV : Hid (clashV ⟨nm, pol, comp, ins, rules⟩ a = ([], false)) := by show _ = _; exact clash_none hfit hp
        clear hG hBx hfit
        have hp1 : (2 : Int) < pol := hp
        clear hp
        go_enter Tryz.func9, Tryz.ntmps9
        go_wp2_with fail
        clear hwe
        refine (ref_IsTable _ _ _ H0.out HS.out HSI.out).mono ?_
        rintro e w1 ⟨rfl, hb1⟩
        rw [HGG.out]
        have d3 := (hb1.cell (p := ⟨w.heap.size, 3, none⟩) hlt0).trans c3
        go_wp2_with fail
        refine (ref_IsBox a _ ins.length _ (A0.out.onOld hb1)).mono ?_
        rintro e w2 ⟨rfl, hb2⟩
        rw [HBB.out]
        have d1 := ((bx hb1 hb2).cell (p := ⟨w.heap.size, 1, none⟩) hlt0).trans c1
        go_wp2
        go_ret2
        refine ⟨.slice none 0 0, ?_, ?_, bx hw0 (bx hb1 hb2)⟩
        · rw [HV.out]; rfl
        · rw [HV.out]; exact Sl.nil
      · have hp1 : pol ≤ 2 := by omega
        have HP := Lib.hid hp
        obtain ⟨f1, f2, f3⟩ := fits_rules hfit
        simp only at f2 f3
        have hsets := (goodBox_iff.1 hBx).2
        have HSE := Lib.hid hsets
        have hgr := goodRs_iff.1 (goodT_iff.1 hG).2.2.2.2
        simp only at hgr
        have hrl : rules.length ≤ 6 := hgr.2.1
        have HRC : Hid (∀ r ∈ rules, r.1.length = a.length ∧ ∀ c ∈ r.1, goodB c.2 = true) := fun r hr => ⟨f3 r hr, fun c hc => by
          have hx := hgr.2.2 r hr
          simp only [goodR, Bool.and_eq_true, List.all_eq_true] at hx
          have hy := hx.2 c hc
          simp only [goodC, Bool.and_eq_true] at hy
          exact hy.2⟩
        have ha3 : a.length ≤ 3 := by have := (goodBox_iff.1 hBx).1; omega
        have HGA : Hid (∀ s ∈ a, goodB s = true) := fun s hs => by
          simp only [setsB, List.all_eq_true, Bool.and_eq_true] at hsets
          exact (hsets s hs).2
        clear hgr hsets f1 f2 f3 hfit hBx
        have HG2 := Lib.hid hG
        clear hG hp
        go_enter Tryz.func9, Tryz.ntmps9
        go_wp2_with fail
        clear hwe
        refine (ref_IsTable _ _ _ H0.out HS.out HSI.out).mono ?_
        rintro e w1 ⟨rfl, hb1⟩
        rw [HGG.out]
        have d3 := (hb1.cell (p := ⟨w.heap.size, 3, none⟩) hlt0).trans c3
        go_wp2_with fail
        refine (ref_IsBox a _ ins.length _ (A0.out.onOld hb1)).mono ?_
        rintro e w2 ⟨rfl, hb2⟩
        rw [HBB.out]
        have hb02 := bx hb1 hb2
        have hlt2 := Nat.lt_of_lt_of_le hlt0 hb02.size
        have e0 := (hb02.cell (p := ⟨w.heap.size, 0, none⟩) hlt0).trans c0
        have e1 := (hb02.cell (p := ⟨w.heap.size, 1, none⟩) hlt0).trans c1
        have e2 := (hb02.cell (p := ⟨w.heap.size, 2, none⟩) hlt0).trans c2
        have e3 := (hb02.cell (p := ⟨w.heap.size, 3, none⟩) hlt0).trans c3
        have e4 := (hb02.cell (p := ⟨w.heap.size, 4, none⟩) hlt0).trans c4
        have H2 := Lib.hid (H0.out.onOld hb02)
        have A2 := Lib.hid (A0.out.onOld hb02)
        have hsr := ref_search ⟨nm, pol, comp, ins, rules⟩ a _ _ 25 #[.pointer (some ⟨w.heap.size, 0, none⟩)] (fun i => decide ((saysV ⟨nm, pol, comp, ins, rules⟩ i).2.2 = 4)) w2 H2.out A2.out ha3 HGA.out hrl HRC.out (enters_of Tryz.func25 (by kernel_rfl) rfl)
          (fun l vl W hW _ hl => ref_clashF l vl W w.heap.size (H2.out.onOld hW) hl HS hsi ((hW.cell (p := ⟨w.heap.size, 0, none⟩) hlt2).trans e0) ((hW.cell (p := ⟨w.heap.size, 1, none⟩) hlt2).trans e1) ((hW.cell (p := ⟨w.heap.size, 2, none⟩) hlt2).trans e2) ((hW.cell (p := ⟨w.heap.size, 3, none⟩) hlt2).trans e3) ((hW.cell (p := ⟨w.heap.size, 4, none⟩) hlt2).trans e4))
        have HSR := Lib.hid hsr
        have B2 := Lib.hid (bx hw0 hb02)
        clear hsr c0 c1 c2 c3 c4 d3
        go_wp2_with fail
        refine HSR.out.mono ?_
        intro e w3 hp3
        obtain ⟨at', vr3, hcols, rfl, hs3, hb3⟩ := hp3
        have heq : srchV (fun i => decide ((saysV ⟨nm, pol, comp, ins, rules⟩ i).2.2 = 4)) at' = clashV ⟨nm, pol, comp, ins, rules⟩ a := by
          exact Least.uniq (srch_ok (t := ⟨nm, pol, comp, ins, rules⟩) (f := fun i => decide ((saysV ⟨nm, pol, comp, ins, rules⟩ i).2.2 = 4)) (conflictB pol) (fun i => clash_code HG2.out i) HSE.out hcols) (by rw [show (fun i => decide ((saysV ⟨nm, pol, comp, ins, rules⟩ i).2.2 = 4)) = fun i => conflictB pol (outsL rules i) from funext (clash_code HG2.out)]; exact clash_least HFit.out)
        rw [heq] at hs3 ⊢
        have HS3 := Lib.hid hs3
        clear hs3 hcols heq
        obtain ⟨Av, cv, rfl, -, -⟩ := HS3.out.form
        go_wp2
        go_ret2
        exact ⟨_, rfl, HS3.out.more (fun k hk => ⟨Nat.le_trans B2.out.size hk.1, hk.2⟩), bx B2.out hb3⟩

end Go.Proofs.YtiejicjknenneaaGreatDoor
