/- ratebookkeep.TableLeast returns true. Conditions: the arguments read as lists in old memory; names and lists fit into 2^47 bytes. -/
import Derived.Test.YtmdljknlbmlacabKeepLess
namespace Go.Proofs.Ytmdljknlbmlacab
open Go.RowKit

set_option maxHeartbeats 2000000 in
theorem law_TableLeast (t : TabD) (a : BoxD) (l : List Int) (v va vl : Value) (w : World) (h : TabAt w (Old w) t v) (h' : Sl Enc.rng.slice w (Old w) a va) (h'' : Sl Enc.int w (Old w) l vl) (hs : smallT t) :
    Calls Try.prog 3 #[v, va, vl] w fun e w' => e = .returned (.bool true) ∧ Below w.heap.size w w' := by
  have HS := Lib.hid hs
  have HT := Lib.hid h
  have HA := Lib.hid h'
  have HI := Lib.hid h''
  have HF : Hid (goodT t = true → goodBox a t.ins.length = true → hasBox a l = true → _) := fun hg hb hl => least_facts (t := t) (a := a) (l := l) hg hb hl
  obtain ⟨nm, pol, comp, ins, rules⟩ := t
  obtain ⟨vi, vr, rfl, hi, hr⟩ := h
  simp only at hi hr HF
  clear hs
  obtain ⟨Ai, ci, rfl, hi1, hi2, -⟩ := hi
  obtain ⟨A, c, rfl, hc1, hc2, -⟩ := hr
  obtain ⟨B, d, rfl, hd1, hd2, -⟩ := h'
  obtain ⟨C, f, rfl, hf1, hf2, -⟩ := h''
  unfold maxLen at hi2 hc2 hd2 hf2
  have hb0 := below_alloc1 w (.cells #[.string nm, .int .i64 pol, .bool comp, .slice Ai ins.length ci, .slice A rules.length c] 25)
  generalize hw0 : w.alloc (.cells #[.string nm, .int .i64 pol, .bool comp, .slice Ai ins.length ci, .slice A rules.length c] 25) = w0 at *
  have hg0 : w.heap.size < w0.heap.size := by rw [← hw0]; simp
  have k0 : w0.cell? ⟨w.heap.size, 0, none⟩ = some (.string nm) := by rw [← hw0]; exact cell_new _ _ _ _ _ rfl
  have k1 : w0.cell? ⟨w.heap.size, 1, none⟩ = some (.int .i64 pol) := by rw [← hw0]; exact cell_new _ _ _ _ _ rfl
  have k2 : w0.cell? ⟨w.heap.size, 2, none⟩ = some (.bool comp) := by rw [← hw0]; exact cell_new _ _ _ _ _ rfl
  have k3 : w0.cell? ⟨w.heap.size, 3, none⟩ = some (.slice Ai ins.length ci) := by rw [← hw0]; exact cell_new _ _ _ _ _ rfl
  have k4 : w0.cell? ⟨w.heap.size, 4, none⟩ = some (.slice A rules.length c) := by rw [← hw0]; exact cell_new _ _ _ _ _ rfl
  have HT0 := Lib.hid (HT.out.onOld hb0)
  have HA0 := Lib.hid (HA.out.onOld hb0)
  have HI0 := Lib.hid (HI.out.onOld hb0)
  have NT := fun W => keep_tables W
  go_enter Try.func3, Try.ntmps3
  go_wp2_with fail
  refine (table_Good _ _ _ HT0.out HS.out).mono ?_
  rintro e w1 ⟨rfl, hb1⟩
  have k1_0 := (hb1.cell (p := ⟨w.heap.size, 0, none⟩) hg0).trans k0
  have k1_1 := (hb1.cell (p := ⟨w.heap.size, 1, none⟩) hg0).trans k1
  have k1_2 := (hb1.cell (p := ⟨w.heap.size, 2, none⟩) hg0).trans k2
  have k1_3 := (hb1.cell (p := ⟨w.heap.size, 3, none⟩) hg0).trans k3
  have k1_4 := (hb1.cell (p := ⟨w.heap.size, 4, none⟩) hg0).trans k4
  have hg1 := Nat.lt_of_lt_of_le hg0 hb1.size
  have hb01 := bx hb0 hb1
  have HT1 := Lib.hid (HT0.out.onOld hb1)
  have HA1 := Lib.hid (HA0.out.onOld hb1)
  have HI1 := Lib.hid (HI0.out.onOld hb1)
  clear k0 k1 k2 k3 k4 hw0
  cases hg : goodT ⟨nm, pol, comp, ins, rules⟩
  · clear hg
    go_wp2_with fail
    refine (keep_tables _).mono ?_
    rintro e w9 ⟨rfl, hb9⟩
    go_wp2
    go_ret
    exact ⟨rfl, bx hb01 hb9⟩
  have HG := Lib.hid hg
  clear hg
  go_wp2_with fail
  refine (box_Good a _ _ _ HA1.out).mono ?_
  rintro e w2 ⟨rfl, hb2⟩
  have k2_0 := (hb2.cell (p := ⟨w.heap.size, 0, none⟩) hg1).trans k1_0
  have k2_1 := (hb2.cell (p := ⟨w.heap.size, 1, none⟩) hg1).trans k1_1
  have k2_2 := (hb2.cell (p := ⟨w.heap.size, 2, none⟩) hg1).trans k1_2
  have k2_3 := (hb2.cell (p := ⟨w.heap.size, 3, none⟩) hg1).trans k1_3
  have k2_4 := (hb2.cell (p := ⟨w.heap.size, 4, none⟩) hg1).trans k1_4
  have hg2 := Nat.lt_of_lt_of_le hg1 hb2.size
  have hb02 := bx hb01 hb2
  have HT2 := Lib.hid (HT1.out.onOld hb2)
  have HA2 := Lib.hid (HA1.out.onOld hb2)
  have HI2 := Lib.hid (HI1.out.onOld hb2)
  clear k1_0 k1_1 k1_2 k1_3 k1_4
  cases hg : goodBox a ins.length
  · clear hg
    go_wp2_with fail
    refine (keep_tables _).mono ?_
    rintro e w9 ⟨rfl, hb9⟩
    go_wp2
    go_ret
    exact ⟨rfl, bx hb02 hb9⟩
  have HB := Lib.hid hg
  clear hg
  go_wp2_with fail
  refine (box_Has a l _ _ _ HA2.out HI2.out).mono ?_
  rintro e w3 ⟨rfl, hb3⟩
  have k3_0 := (hb3.cell (p := ⟨w.heap.size, 0, none⟩) hg2).trans k2_0
  have k3_1 := (hb3.cell (p := ⟨w.heap.size, 1, none⟩) hg2).trans k2_1
  have k3_2 := (hb3.cell (p := ⟨w.heap.size, 2, none⟩) hg2).trans k2_2
  have k3_3 := (hb3.cell (p := ⟨w.heap.size, 3, none⟩) hg2).trans k2_3
  have k3_4 := (hb3.cell (p := ⟨w.heap.size, 4, none⟩) hg2).trans k2_4
  have hg3 := Nat.lt_of_lt_of_le hg2 hb3.size
  have hb03 := bx hb02 hb3
  have HT3 := Lib.hid (HT2.out.onOld hb3)
  have HA3 := Lib.hid (HA2.out.onOld hb3)
  have HI3 := Lib.hid (HI2.out.onOld hb3)
  clear k2_0 k2_1 k2_2 k2_3 k2_4
  cases hg : hasBox a l
  · clear hg
    go_wp2_with fail
    refine (keep_tables _).mono ?_
    rintro e w9 ⟨rfl, hb9⟩
    go_wp2
    go_ret
    exact ⟨rfl, bx hb03 hb9⟩
  have FF := HF.out HG.out HB.out hg
  clear hg HF
  obtain ⟨F1, F2⟩ := FF
  have HF1 := Lib.hid F1
  have HF2 := Lib.hid F2
  clear F1 F2
  go_wp2_with fail
  refine (table_Gap _ a _ _ _ HT3.out HA3.out HS.out).mono ?_
  rintro e w4 ⟨v4, rfl, hn4, hb4⟩
  have k4_0 := (hb4.cell (p := ⟨w.heap.size, 0, none⟩) hg3).trans k3_0
  have k4_1 := (hb4.cell (p := ⟨w.heap.size, 1, none⟩) hg3).trans k3_1
  have k4_2 := (hb4.cell (p := ⟨w.heap.size, 2, none⟩) hg3).trans k3_2
  have k4_3 := (hb4.cell (p := ⟨w.heap.size, 3, none⟩) hg3).trans k3_3
  have k4_4 := (hb4.cell (p := ⟨w.heap.size, 4, none⟩) hg3).trans k3_4
  have hg4 := Nat.lt_of_lt_of_le hg3 hb4.size
  have hb04 := bx hb03 hb4
  have HT4 := Lib.hid (HT3.out.onOld hb4)
  have HA4 := Lib.hid (HA3.out.onOld hb4)
  have HI4 := Lib.hid (HI3.out.onOld hb4)
  clear k3_0 k3_1 k3_2 k3_3 k3_4
  generalize gapV ⟨nm, pol, comp, ins, rules⟩ a = g at *
  obtain ⟨gp, gok⟩ := g
  simp only at HF1 hn4 ⊢
  obtain ⟨A4, c4, rfl, -, -⟩ := hn4.form
  have HP4 := Lib.hid (hn4.more (S' := Old w4) fun _ h => h.2)
  clear hn4
  go_wp2_with fail
  refine (table_Clash _ a _ _ _ HT4.out HA4.out HS.out).mono ?_
  rintro e w5 ⟨v5, rfl, hn5, hb5⟩
  have k5_0 := (hb5.cell (p := ⟨w.heap.size, 0, none⟩) hg4).trans k4_0
  have k5_1 := (hb5.cell (p := ⟨w.heap.size, 1, none⟩) hg4).trans k4_1
  have k5_2 := (hb5.cell (p := ⟨w.heap.size, 2, none⟩) hg4).trans k4_2
  have k5_3 := (hb5.cell (p := ⟨w.heap.size, 3, none⟩) hg4).trans k4_3
  have k5_4 := (hb5.cell (p := ⟨w.heap.size, 4, none⟩) hg4).trans k4_4
  have hg5 := Nat.lt_of_lt_of_le hg4 hb5.size
  have hb05 := bx hb04 hb5
  have HT5 := Lib.hid (HT4.out.onOld hb5)
  have HA5 := Lib.hid (HA4.out.onOld hb5)
  have HI5 := Lib.hid (HI4.out.onOld hb5)
  clear k4_0 k4_1 k4_2 k4_3 k4_4
  generalize clashV ⟨nm, pol, comp, ins, rules⟩ a = q at *
  obtain ⟨cp, cok⟩ := q
  simp only at HF2 hn5 ⊢
  obtain ⟨A5, c5, rfl, -, -⟩ := hn5.form
  have HP5 := Lib.hid (HP4.out.onOld hb5)
  have HC5 := Lib.hid (hn5.more (S' := Old w5) fun _ h => h.2)
  clear hn5
  go_wp2_with fail
  refine (table_Says _ l _ _ _ HT5.out HI5.out HS.out).mono ?_
  rintro e w6 ⟨rfl, hb6⟩
  have HI6 := Lib.hid (HI5.out.onOld hb6)
  have HP6 := Lib.hid (HP5.out.onOld hb6)
  have HC6 := Lib.hid (HC5.out.onOld hb6)
  have hb06 := bx hb05 hb6
  clear k5_0 k5_1 k5_2 k5_3 k5_4
  generalize saysV ⟨nm, pol, comp, ins, rules⟩ l = r at *
  obtain ⟨rn, rok, re⟩ := r
  simp only at HF1 HF2 ⊢
  cases rok
  · by_cases h0 : re = 0
    · obtain ⟨hg1, hg2⟩ : gok = true ∧ lessK l gp = false := by
        rcases HF1.out with hh | hh | hh
        · cases hh
        · exact absurd h0 hh
        · exact hh
      have HG2 := Lib.hid hg2
      subst hg1
      subst h0
      clear hg2
      go_wp2_with fail
      refine (keep_less l gp _ _ _ HI6.out HP6.out).mono ?_
      rintro e w7 ⟨rfl, hb7⟩
      rw [HG2.out]
      go_wp2_with fail
      refine (keep_tables _).mono ?_
      rintro e w9 ⟨rfl, hb9⟩
      go_wp2
      go_ret
      exact ⟨rfl, bx hb06 (bx hb7 hb9)⟩
    · have h0' : (re != 0) = true := by simpa using h0
      have H0 := Lib.hid h0
      clear h0
      by_cases h4 : re = 4
      · have h4' : (re != 4) = false := by rw [h4]; rfl
        obtain ⟨hc1, hc2⟩ : cok = true ∧ lessK l cp = false := by
          rcases HF2.out with hh | hh
          · exact absurd h4 hh
          · exact hh
        have HC2 := Lib.hid hc2
        subst hc1
        have H4 := Lib.hid h4
        clear h4 hc2
        go_wp2_with fail
        refine (keep_less l cp _ _ _ HI6.out HC6.out).mono ?_
        rintro e w7 ⟨rfl, hb7⟩
        rw [HC2.out]
        go_wp2_with fail
        refine (keep_tables _).mono ?_
        rintro e w9 ⟨rfl, hb9⟩
        go_wp2
        go_ret
        exact ⟨rfl, bx hb06 (bx hb7 hb9)⟩
      · have h4' : (re != 4) = true := by simpa using h4
        have H4 := Lib.hid h4
        clear h4
        go_wp2_with fail
        refine (keep_tables _).mono ?_
        rintro e w9 ⟨rfl, hb9⟩
        go_wp2
        go_ret
        exact ⟨rfl, bx hb06 hb9⟩
  · clear HF1
    by_cases h4 : re = 4
    · have h4' : (re != 4) = false := by rw [h4]; rfl
      obtain ⟨hc1, hc2⟩ : cok = true ∧ lessK l cp = false := by
        rcases HF2.out with hh | hh
        · exact absurd h4 hh
        · exact hh
      have HC2 := Lib.hid hc2
      subst hc1
      have H4 := Lib.hid h4
      clear h4 hc2
      go_wp2_with fail
      refine (keep_less l cp _ _ _ HI6.out HC6.out).mono ?_
      rintro e w7 ⟨rfl, hb7⟩
      rw [HC2.out]
      go_wp2_with fail
      refine (keep_tables _).mono ?_
      rintro e w9 ⟨rfl, hb9⟩
      go_wp2
      go_ret
      exact ⟨rfl, bx hb06 (bx hb7 hb9)⟩
    · have h4' : (re != 4) = true := by simpa using h4
      have H4 := Lib.hid h4
      clear h4
      go_wp2_with fail
      refine (keep_tables _).mono ?_
      rintro e w9 ⟨rfl, hb9⟩
      go_wp2
      go_ret
      exact ⟨rfl, bx hb06 hb9⟩

end Go.Proofs.Ytmdljknlbmlacab
