/- ratebooklaw.TableTells returns true. Conditions: the arguments read as lists in old memory; names and lists fit into 2^47 bytes, and so do the names of inputs, joined. -/
import Derived.Test.YtmdljknlbmlacaaDoorRefSameT
import Derived.Test.YtmdljknlbmlacaaDoorLawTab
namespace Go.Proofs.YtmdljknlbmlacaaDoor
open Go.RowKit

set_option maxRecDepth 100000 in
set_option maxHeartbeats 8000000 in
theorem law_TableTells (t : TabD) (l : List Int) (n : Int) (v u : Value) (w : World) (h : TabAt w (Old w) t v) (h' : Sl Enc.int w (Old w) l u) (hs : smallT t) (hsi : t.ins.length * 16 ≤ 140737488355328)
    (hsc : ∀ r, r ∈ t.rules → r.1.length * 32 ≤ 140737488355328 ∧ ∀ c, c ∈ r.1 → c.2.length * 16 ≤ 140737488355328) (hlen : (Lib.join (t.ins.map (·.data.toList)) [44]).length ≤ 140737488355328) :
    Calls Tryd.prog 3 #[v, u, .int .i64 n] w fun e w' => e = .returned (.bool true) ∧ Below w.heap.size w w' := by
  have HS := Lib.hid hs
  have HT := Lib.hid h
  have HI := Lib.hid h'
  have HSI := Lib.hid hsi
  have HSC := Lib.hid hsc
  have HLEN := Lib.hid hlen
  obtain ⟨nm, pol, comp, ins, rules⟩ := t
  obtain ⟨vi, vr, rfl, hi, hr⟩ := h
  obtain ⟨hs1, hs2, hs3⟩ := hs
  simp only at hi hr hs1 hs2 hs3 hsi
  clear hsc hlen hs2
  obtain ⟨Ai, ci, rfl, hi1, hi2, -⟩ := hi
  obtain ⟨A, c, rfl, hc1, hc2, -⟩ := hr
  obtain ⟨D, f, rfl, hd1, hd2, -⟩ := h'
  unfold maxLen at hi2 hc2 hd2
  have hb0 := below_alloc1 w (.cells #[.string nm, .int .i64 pol, .bool comp, .slice Ai ins.length ci, .slice A rules.length c] 25)
  have F0 := Five.new w (.string nm) (.int .i64 pol) (.bool comp) (.slice Ai ins.length ci) (.slice A rules.length c) 25
  generalize hw0 : w.alloc (.cells #[.string nm, .int .i64 pol, .bool comp, .slice Ai ins.length ci, .slice A rules.length c] 25) = w0 at *
  have HF0 := Lib.hid F0
  obtain ⟨lT0, ⟨k0_0, k0_1, k0_2, k0_3, k0_4⟩, -⟩ := F0
  have HT0 := Lib.hid (HT.out.onOld hb0)
  go_enter Tryd.func3, Tryd.ntmps3
  go_wp2_with fail
  clear hw0 k0_0 k0_1 k0_2 k0_3 k0_4
  refine (ref_CopyTable _ _ _ HT0.out hsi hs3 HSC.out).mono ?_
  rintro e w1 ⟨u1, rfl, hu1, hb1⟩
  have hb01 := bx hb0 hb1
  have HU1 := Lib.hid hu1
  obtain ⟨vi2, vr2, rfl, hui, hur⟩ := hu1
  simp only at hui hur
  obtain ⟨Bi, di, rfl, hdi1, hdi2, -⟩ := hui
  obtain ⟨B, d, rfl, hbd1, hbd2, -⟩ := hur
  unfold maxLen at hdi2 hbd2
  have hb2 := below_alloc1 w1 (.cells #[.string nm, .int .i64 pol, .bool comp, .slice Bi ins.length di, .slice B rules.length d] 25)
  have G2 := Five.new w1 (.string nm) (.int .i64 pol) (.bool comp) (.slice Bi ins.length di) (.slice B rules.length d) 25
  have F2 := (HF0.out.next hb1).next hb2
  have hb02 := bx hb01 hb2
  generalize hw2 : w1.alloc (.cells #[.string nm, .int .i64 pol, .bool comp, .slice Bi ins.length di, .slice B rules.length d] 25) = w2 at *
  obtain ⟨lT2, ⟨k2_0, k2_1, k2_2, k2_3, k2_4⟩, -⟩ := F2
  obtain ⟨lC2, ⟨c2_0, c2_1, c2_2, c2_3, c2_4⟩, -⟩ := G2
  have TT2 := Lib.hid (HT.out.onOld hb02)
  have TC2 := Lib.hid (HU1.out.onOld hb2)
  have HI2 := Lib.hid (HI.out.onOld hb02)
  clear HT HI HT0 HF0 HU1
  go_wp2_with fail
  clear hw2
  refine (table_Says _ l _ _ _ TC2.out HI2.out HS.out).mono ?_
  rintro e w3 ⟨rfl, hb3⟩
  have k3_0 := (hb3.cell (p := ⟨w.heap.size, 0, none⟩) lT2).trans k2_0
  have k3_1 := (hb3.cell (p := ⟨w.heap.size, 1, none⟩) lT2).trans k2_1
  have k3_2 := (hb3.cell (p := ⟨w.heap.size, 2, none⟩) lT2).trans k2_2
  have k3_3 := (hb3.cell (p := ⟨w.heap.size, 3, none⟩) lT2).trans k2_3
  have k3_4 := (hb3.cell (p := ⟨w.heap.size, 4, none⟩) lT2).trans k2_4
  have c3_0 := (hb3.cell (p := ⟨w1.heap.size, 0, none⟩) lC2).trans c2_0
  have c3_1 := (hb3.cell (p := ⟨w1.heap.size, 1, none⟩) lC2).trans c2_1
  have c3_2 := (hb3.cell (p := ⟨w1.heap.size, 2, none⟩) lC2).trans c2_2
  have c3_3 := (hb3.cell (p := ⟨w1.heap.size, 3, none⟩) lC2).trans c2_3
  have c3_4 := (hb3.cell (p := ⟨w1.heap.size, 4, none⟩) lC2).trans c2_4
  have lT3 := Nat.lt_of_lt_of_le lT2 hb3.size
  have lC3 := Nat.lt_of_lt_of_le lC2 hb3.size
  have TT3 := Lib.hid (TT2.out.onOld hb3)
  have TC3 := Lib.hid (TC2.out.onOld hb3)
  have HI3 := Lib.hid (HI2.out.onOld hb3)
  have hb03 := bx hb02 hb3
  clear k2_0 k2_1 k2_2 k2_3 k2_4 c2_0 c2_1 c2_2 c2_3 c2_4
  generalize hR : saysV ⟨nm, pol, comp, ins, rules⟩ l = R at *
  have HR := Lib.hid hR
  clear hR
  obtain ⟨r1, r2, r3⟩ := R
  go_wp2_with fail
  refine (ref_SaysOf _ l _ _ _ TT3.out HI3.out HS.out HSI.out).mono ?_
  rintro e w4 ⟨rfl, hb4⟩
  have k4_0 := (hb4.cell (p := ⟨w.heap.size, 0, none⟩) lT3).trans k3_0
  have k4_1 := (hb4.cell (p := ⟨w.heap.size, 1, none⟩) lT3).trans k3_1
  have k4_2 := (hb4.cell (p := ⟨w.heap.size, 2, none⟩) lT3).trans k3_2
  have k4_3 := (hb4.cell (p := ⟨w.heap.size, 3, none⟩) lT3).trans k3_3
  have k4_4 := (hb4.cell (p := ⟨w.heap.size, 4, none⟩) lT3).trans k3_4
  have c4_0 := (hb4.cell (p := ⟨w1.heap.size, 0, none⟩) lC3).trans c3_0
  have c4_1 := (hb4.cell (p := ⟨w1.heap.size, 1, none⟩) lC3).trans c3_1
  have c4_2 := (hb4.cell (p := ⟨w1.heap.size, 2, none⟩) lC3).trans c3_2
  have c4_3 := (hb4.cell (p := ⟨w1.heap.size, 3, none⟩) lC3).trans c3_3
  have c4_4 := (hb4.cell (p := ⟨w1.heap.size, 4, none⟩) lC3).trans c3_4
  have lT4 := Nat.lt_of_lt_of_le lT3 hb4.size
  have lC4 := Nat.lt_of_lt_of_le lC3 hb4.size
  have TT4 := Lib.hid (TT3.out.onOld hb4)
  have TC4 := Lib.hid (TC3.out.onOld hb4)
  have HI4 := Lib.hid (HI3.out.onOld hb4)
  have hb04 := bx hb03 hb4
  clear k3_0 k3_1 k3_2 k3_3 k3_4 c3_0 c3_1 c3_2 c3_3 c3_4
  rw [HR.out]
  obtain ⟨g, hg⟩ : ∃ g, g = goodT ⟨nm, pol, comp, ins, rules⟩ := ⟨_, rfl⟩
  obtain ⟨nb, hnb⟩ : ∃ nb, nb = nameB nm := ⟨_, rfl⟩
  have HG := Lib.hid hg
  have HNB := Lib.hid hnb
  clear hg hnb
  have m1 : (r1 != r1) = false := by simp
  have m2 : (r2 != r2) = false := by simp
  have m3 : (r3 != r3) = false := by simp
  have m4 : (g != g) = false := by simp
  have m5 : (nb != nb) = false := by simp
  go_wp2_with fail
  go_region_held3 (fun w' => w'.cell? ⟨w.heap.size, 0, none⟩ = some (.string nm) ∧ w'.cell? ⟨w.heap.size, 1, none⟩ = some (.int .i64 pol) ∧ w'.cell? ⟨w.heap.size, 2, none⟩ = some (.bool comp) ∧ w'.cell? ⟨w.heap.size, 3, none⟩ = some (.slice Ai ins.length ci) ∧ w'.cell? ⟨w.heap.size, 4, none⟩ = some (.slice A rules.length c) ∧ w'.cell? ⟨w1.heap.size, 0, none⟩ = some (.string nm) ∧ w'.cell? ⟨w1.heap.size, 1, none⟩ = some (.int .i64 pol) ∧ w'.cell? ⟨w1.heap.size, 2, none⟩ = some (.bool comp) ∧ w'.cell? ⟨w1.heap.size, 3, none⟩ = some (.slice Bi ins.length di) ∧ w'.cell? ⟨w1.heap.size, 4, none⟩ = some (.slice B rules.length d)) (first | exact ⟨k4_0, k4_1, k4_2, k4_3, k4_4, c4_0, c4_1, c4_2, c4_3, c4_4⟩ | exact ⟨k5_0, k5_1, k5_2, k5_3, k5_4, c5_0, c5_1, c5_2, c5_3, c5_4⟩ | exact ⟨k6_0, k6_1, k6_2, k6_3, k6_4, c6_0, c6_1, c6_2, c6_3, c6_4⟩ | exact ⟨k7_0, k7_1, k7_2, k7_3, k7_4, c7_0, c7_1, c7_2, c7_3, c7_4⟩ | exact ⟨k8_0, k8_1, k8_2, k8_3, k8_4, c8_0, c8_1, c8_2, c8_3, c8_4⟩ | exact ⟨k9_0, k9_1, k9_2, k9_3, k9_4, c9_0, c9_1, c9_2, c9_3, c9_4⟩ | exact ⟨k10_0, k10_1, k10_2, k10_3, k10_4, c10_0, c10_1, c10_2, c10_3, c10_4⟩ | exact ⟨k11_0, k11_1, k11_2, k11_3, k11_4, c11_0, c11_1, c11_2, c11_3, c11_4⟩)
    (first
     | (go_at_call 8; refine (table_Good _ _ _ ?_ HS.out).mono ?_; exact TC4.out; rintro e w5 ⟨rfl, hb5⟩; have hb5' : Below w4.heap.size w4 w5 := undrew hb5; rw [← HG.out]; have k5_0 := (hb5'.cell (p := ⟨w.heap.size, 0, none⟩) lT4).trans k4_0; have k5_1 := (hb5'.cell (p := ⟨w.heap.size, 1, none⟩) lT4).trans k4_1; have k5_2 := (hb5'.cell (p := ⟨w.heap.size, 2, none⟩) lT4).trans k4_2; have k5_3 := (hb5'.cell (p := ⟨w.heap.size, 3, none⟩) lT4).trans k4_3; have k5_4 := (hb5'.cell (p := ⟨w.heap.size, 4, none⟩) lT4).trans k4_4; have c5_0 := (hb5'.cell (p := ⟨w1.heap.size, 0, none⟩) lC4).trans c4_0; have c5_1 := (hb5'.cell (p := ⟨w1.heap.size, 1, none⟩) lC4).trans c4_1; have c5_2 := (hb5'.cell (p := ⟨w1.heap.size, 2, none⟩) lC4).trans c4_2; have c5_3 := (hb5'.cell (p := ⟨w1.heap.size, 3, none⟩) lC4).trans c4_3; have c5_4 := (hb5'.cell (p := ⟨w1.heap.size, 4, none⟩) lC4).trans c4_4; have lT5 := Nat.lt_of_lt_of_le lT4 hb5'.size; have lC5 := Nat.lt_of_lt_of_le lC4 hb5'.size; have TT5 := Lib.hid (TT4.out.onOld hb5'); have TC5 := Lib.hid (TC4.out.onOld hb5'); have HI5 := Lib.hid (HI4.out.onOld hb5'); have hb05 := bx hb04 hb5')
     | (go_at_call 9; refine (ref_IsTable _ _ _ ?_ HS.out HSI.out).mono ?_; exact TT5.out; rintro e w6 ⟨rfl, hb6⟩; rw [← HG.out]; have k6_0 := (hb6.cell (p := ⟨w.heap.size, 0, none⟩) lT5).trans k5_0; have k6_1 := (hb6.cell (p := ⟨w.heap.size, 1, none⟩) lT5).trans k5_1; have k6_2 := (hb6.cell (p := ⟨w.heap.size, 2, none⟩) lT5).trans k5_2; have k6_3 := (hb6.cell (p := ⟨w.heap.size, 3, none⟩) lT5).trans k5_3; have k6_4 := (hb6.cell (p := ⟨w.heap.size, 4, none⟩) lT5).trans k5_4; have c6_0 := (hb6.cell (p := ⟨w1.heap.size, 0, none⟩) lC5).trans c5_0; have c6_1 := (hb6.cell (p := ⟨w1.heap.size, 1, none⟩) lC5).trans c5_1; have c6_2 := (hb6.cell (p := ⟨w1.heap.size, 2, none⟩) lC5).trans c5_2; have c6_3 := (hb6.cell (p := ⟨w1.heap.size, 3, none⟩) lC5).trans c5_3; have c6_4 := (hb6.cell (p := ⟨w1.heap.size, 4, none⟩) lC5).trans c5_4; have lT6 := Nat.lt_of_lt_of_le lT5 hb6.size; have lC6 := Nat.lt_of_lt_of_le lC5 hb6.size; have TT6 := Lib.hid (TT5.out.onOld hb6); have TC6 := Lib.hid (TC5.out.onOld hb6); have HI6 := Lib.hid (HI5.out.onOld hb6); have hb06 := bx hb05 hb6)
     | (go_at_call 10; refine (table_Named nm _ hs1).mono ?_; rintro e w7 ⟨rfl, hb7⟩; rw [← HNB.out]; have k7_0 := (hb7.cell (p := ⟨w.heap.size, 0, none⟩) lT6).trans k6_0; have k7_1 := (hb7.cell (p := ⟨w.heap.size, 1, none⟩) lT6).trans k6_1; have k7_2 := (hb7.cell (p := ⟨w.heap.size, 2, none⟩) lT6).trans k6_2; have k7_3 := (hb7.cell (p := ⟨w.heap.size, 3, none⟩) lT6).trans k6_3; have k7_4 := (hb7.cell (p := ⟨w.heap.size, 4, none⟩) lT6).trans k6_4; have c7_0 := (hb7.cell (p := ⟨w1.heap.size, 0, none⟩) lC6).trans c6_0; have c7_1 := (hb7.cell (p := ⟨w1.heap.size, 1, none⟩) lC6).trans c6_1; have c7_2 := (hb7.cell (p := ⟨w1.heap.size, 2, none⟩) lC6).trans c6_2; have c7_3 := (hb7.cell (p := ⟨w1.heap.size, 3, none⟩) lC6).trans c6_3; have c7_4 := (hb7.cell (p := ⟨w1.heap.size, 4, none⟩) lC6).trans c6_4; have lT7 := Nat.lt_of_lt_of_le lT6 hb7.size; have lC7 := Nat.lt_of_lt_of_le lC6 hb7.size; have TT7 := Lib.hid (TT6.out.onOld hb7); have TC7 := Lib.hid (TC6.out.onOld hb7); have HI7 := Lib.hid (HI6.out.onOld hb7); have hb07 := bx hb06 hb7)
     | (go_at_call 11; refine (ref_IsName nm _ hs1).mono ?_; rintro e w8 ⟨rfl, hb8⟩; rw [← HNB.out]; have k8_0 := (hb8.cell (p := ⟨w.heap.size, 0, none⟩) lT7).trans k7_0; have k8_1 := (hb8.cell (p := ⟨w.heap.size, 1, none⟩) lT7).trans k7_1; have k8_2 := (hb8.cell (p := ⟨w.heap.size, 2, none⟩) lT7).trans k7_2; have k8_3 := (hb8.cell (p := ⟨w.heap.size, 3, none⟩) lT7).trans k7_3; have k8_4 := (hb8.cell (p := ⟨w.heap.size, 4, none⟩) lT7).trans k7_4; have c8_0 := (hb8.cell (p := ⟨w1.heap.size, 0, none⟩) lC7).trans c7_0; have c8_1 := (hb8.cell (p := ⟨w1.heap.size, 1, none⟩) lC7).trans c7_1; have c8_2 := (hb8.cell (p := ⟨w1.heap.size, 2, none⟩) lC7).trans c7_2; have c8_3 := (hb8.cell (p := ⟨w1.heap.size, 3, none⟩) lC7).trans c7_3; have c8_4 := (hb8.cell (p := ⟨w1.heap.size, 4, none⟩) lC7).trans c7_4; have lT8 := Nat.lt_of_lt_of_le lT7 hb8.size; have lC8 := Nat.lt_of_lt_of_le lC7 hb8.size; have TT8 := Lib.hid (TT7.out.onOld hb8); have TC8 := Lib.hid (TC7.out.onOld hb8); have HI8 := Lib.hid (HI7.out.onOld hb8); have hb08 := bx hb07 hb8)
     | (go_at_call 13; refine (table_Matches _ l _ _ _ ?_ ?_ HS.out).mono ?_; exact TC8.out; exact HI8.out; rintro e w9 ⟨v9, rfl, ho9, hb9⟩; have HO9 := Lib.hid (ho9.slOld (Nat.le_refl _)); clear ho9; have k9_0 := (hb9.cell (p := ⟨w.heap.size, 0, none⟩) lT8).trans k8_0; have k9_1 := (hb9.cell (p := ⟨w.heap.size, 1, none⟩) lT8).trans k8_1; have k9_2 := (hb9.cell (p := ⟨w.heap.size, 2, none⟩) lT8).trans k8_2; have k9_3 := (hb9.cell (p := ⟨w.heap.size, 3, none⟩) lT8).trans k8_3; have k9_4 := (hb9.cell (p := ⟨w.heap.size, 4, none⟩) lT8).trans k8_4; have c9_0 := (hb9.cell (p := ⟨w1.heap.size, 0, none⟩) lC8).trans c8_0; have c9_1 := (hb9.cell (p := ⟨w1.heap.size, 1, none⟩) lC8).trans c8_1; have c9_2 := (hb9.cell (p := ⟨w1.heap.size, 2, none⟩) lC8).trans c8_2; have c9_3 := (hb9.cell (p := ⟨w1.heap.size, 3, none⟩) lC8).trans c8_3; have c9_4 := (hb9.cell (p := ⟨w1.heap.size, 4, none⟩) lC8).trans c8_4; have lT9 := Nat.lt_of_lt_of_le lT8 hb9.size; have lC9 := Nat.lt_of_lt_of_le lC8 hb9.size; have TT9 := Lib.hid (TT8.out.onOld hb9); have TC9 := Lib.hid (TC8.out.onOld hb9); have HI9 := Lib.hid (HI8.out.onOld hb9); have hb09 := bx hb08 hb9)
     | (go_at_call 14; refine (ref_MatchesOf _ l _ _ _ ?_ ?_ HS.out).mono ?_; exact TT9.out; exact HI9.out; rintro e w10 ⟨v10, rfl, ho10, hb10⟩; have HO10 := Lib.hid (ho10.slOld (Nat.le_refl _)); have HO9' := Lib.hid (HO9.out.onOld hb10); clear ho10; have k10_0 := (hb10.cell (p := ⟨w.heap.size, 0, none⟩) lT9).trans k9_0; have k10_1 := (hb10.cell (p := ⟨w.heap.size, 1, none⟩) lT9).trans k9_1; have k10_2 := (hb10.cell (p := ⟨w.heap.size, 2, none⟩) lT9).trans k9_2; have k10_3 := (hb10.cell (p := ⟨w.heap.size, 3, none⟩) lT9).trans k9_3; have k10_4 := (hb10.cell (p := ⟨w.heap.size, 4, none⟩) lT9).trans k9_4; have c10_0 := (hb10.cell (p := ⟨w1.heap.size, 0, none⟩) lC9).trans c9_0; have c10_1 := (hb10.cell (p := ⟨w1.heap.size, 1, none⟩) lC9).trans c9_1; have c10_2 := (hb10.cell (p := ⟨w1.heap.size, 2, none⟩) lC9).trans c9_2; have c10_3 := (hb10.cell (p := ⟨w1.heap.size, 3, none⟩) lC9).trans c9_3; have c10_4 := (hb10.cell (p := ⟨w1.heap.size, 4, none⟩) lC9).trans c9_4; have lT10 := Nat.lt_of_lt_of_le lT9 hb10.size; have lC10 := Nat.lt_of_lt_of_le lC9 hb10.size; have TT10 := Lib.hid (TT9.out.onOld hb10); have TC10 := Lib.hid (TC9.out.onOld hb10); have HI10 := Lib.hid (HI9.out.onOld hb10); have hb010 := bx hb09 hb10)
     | (go_at_call 12; refine (ref_SameNumbers (idxL 0 rules l) (idxL 0 rules l) _ _ _ ?_ ?_).mono ?_; exact HO9'.out; exact HO10.out; rintro e w11 ⟨rfl, hb11⟩; rw [decide_eq_true (rfl : idxL 0 rules l = idxL 0 rules l)]; have k11_0 := (hb11.cell (p := ⟨w.heap.size, 0, none⟩) lT10).trans k10_0; have k11_1 := (hb11.cell (p := ⟨w.heap.size, 1, none⟩) lT10).trans k10_1; have k11_2 := (hb11.cell (p := ⟨w.heap.size, 2, none⟩) lT10).trans k10_2; have k11_3 := (hb11.cell (p := ⟨w.heap.size, 3, none⟩) lT10).trans k10_3; have k11_4 := (hb11.cell (p := ⟨w.heap.size, 4, none⟩) lT10).trans k10_4; have c11_0 := (hb11.cell (p := ⟨w1.heap.size, 0, none⟩) lC10).trans c10_0; have c11_1 := (hb11.cell (p := ⟨w1.heap.size, 1, none⟩) lC10).trans c10_1; have c11_2 := (hb11.cell (p := ⟨w1.heap.size, 2, none⟩) lC10).trans c10_2; have c11_3 := (hb11.cell (p := ⟨w1.heap.size, 3, none⟩) lC10).trans c10_3; have c11_4 := (hb11.cell (p := ⟨w1.heap.size, 4, none⟩) lC10).trans c10_4; have lT11 := Nat.lt_of_lt_of_le lT10 hb11.size; have lC11 := Nat.lt_of_lt_of_le lC10 hb11.size; have TT11 := Lib.hid (TT10.out.onOld hb11); have TC11 := Lib.hid (TC10.out.onOld hb11); have HI11 := Lib.hid (HI10.out.onOld hb11); have hb011 := bx hb010 hb11))
  clear k4_0 k4_1 k4_2 k4_3 k4_4 c4_0 c4_1 c4_2 c4_3 c4_4
  clear k5_0 k5_1 k5_2 k5_3 k5_4 c5_0 c5_1 c5_2 c5_3 c5_4
  clear k6_0 k6_1 k6_2 k6_3 k6_4 c6_0 c6_1 c6_2 c6_3 c6_4
  clear k7_0 k7_1 k7_2 k7_3 k7_4 c7_0 c7_1 c7_2 c7_3 c7_4
  clear k8_0 k8_1 k8_2 k8_3 k8_4 c8_0 c8_1 c8_2 c8_3 c8_4
  clear k9_0 k9_1 k9_2 k9_3 k9_4 c9_0 c9_1 c9_2 c9_3 c9_4
  clear k10_0 k10_1 k10_2 k10_3 k10_4 c10_0 c10_1 c10_2 c10_3 c10_4
  clear TT4 TC4 HI4 TT5 TC5 HI5 TT6 TC6 HI6 TT7 TC7 HI7 TT8 TC8 HI8 TT9 TC9 HI9 TT10 TC10 HI10 HO9 HO9' HO10 m1 m2 m3 m4 m5
  have HRC : Hid (Sl Enc.rule w11 (Old w11) rules (.slice B rules.length d)) := by
    obtain ⟨x1, x2, e, -, hh⟩ := TC11.out
    injection e with e
    injection e with e
    injection e with _ e
    injection e with _ e
    injection e with _ e
    injection e with _ e
    injection e with e _
    subst e
    exact hh
  go_wp2
  go_loopw [76] (fun i wr => ∃ k : Nat, k ≤ rules.length ∧ i = .int .i64 k ∧ Below w11.heap.size w11 wr) (fun i _ => rules.length - (intOf i).toNat)
  case atStart => exact ⟨0, Nat.zero_le _, rfl, Below.refl _ _⟩
  case round =>
    obtain ⟨k, hk, rfl, hb⟩ := hrel
    have hsz := hb.size
    by_cases hlt : k < rules.length
    · obtain ⟨b, o, cs, x, vc, rfl, _, hx, c1, c2, hr⟩ := (HRC.out.onOld hb).rule_at hlt
      obtain ⟨Ar, cr, rfl, hr1, hr2⟩ := hr.form
      have hr2' : cr ≤ 2 ^ 63 - 1 := hr2
      have hbz := below_alloc1 wr (.cells #[.slice Ar cs.length cr, .int .i64 x] 37)
      have HRR := Lib.hid (hr.onOld hbz)
      have q0 : (wr.alloc (.cells #[.slice Ar cs.length cr, .int .i64 x] 37)).cell? ⟨wr.heap.size, 0, none⟩ = some (.slice Ar cs.length cr) := cell_new _ _ _ _ _ rfl
      clear hr
      generalize hwz : wr.alloc (.cells #[.slice Ar cs.length cr, .int .i64 x] 37) = wz at *
      go_wp2
      clear hwz
      go_loopw [83] (fun i wi => ∃ j : Nat, j ≤ cs.length ∧ i = .int .i64 j ∧ Below wz.heap.size wz wi) (fun i _ => cs.length - (intOf i).toNat)
      case atStart => exact ⟨0, Nat.zero_le _, rfl, Below.refl _ _⟩
      case round =>
        rename World => wi
        obtain ⟨j, hj, rfl, hbi⟩ := hrel
        by_cases hjl : j < cs.length
        · obtain ⟨ba, oa, ng, rs, va, rfl, _, hy, p1, p2, ha2⟩ := (HRR.out.onOld hbi).cell_at hjl
          obtain ⟨Aq, cq, rfl, hq1, hq2⟩ := ha2.form
          have hbw := below_alloc1 wi (.cells #[.bool ng, .slice Aq rs.length cq] 40)
          have hgw : wi.heap.size < (wi.alloc (.cells #[.bool ng, .slice Aq rs.length cq] 40)).heap.size := by simp
          have e0 : (wi.alloc (.cells #[.bool ng, .slice Aq rs.length cq] 40)).cell? ⟨wi.heap.size, 0, none⟩ = some (.bool ng) := cell_new _ _ _ _ _ rfl
          have e1 : (wi.alloc (.cells #[.bool ng, .slice Aq rs.length cq] 40)).cell? ⟨wi.heap.size, 1, none⟩ = some (.slice Aq rs.length cq) := cell_new _ _ _ _ _ rfl
          have HA2 := Lib.hid (ha2.onOld hbw)
          obtain ⟨hc, hhc⟩ : ∃ hc, hc = holdsC (ng, rs) n := ⟨_, rfl⟩
          have HHC := Lib.hid hhc
          have m6 : (hc != hc) = false := by simp
          clear ha2 hhc c1 c2 q0
          go_wp2_with fail
          generalize wi.alloc (.cells #[.bool ng, .slice Aq rs.length cq] 40) = wj at *
          clear p1 p2
          go_region_held3 (fun w' => w'.cell? ⟨wi.heap.size, 0, none⟩ = some (.bool ng) ∧ w'.cell? ⟨wi.heap.size, 1, none⟩ = some (.slice Aq rs.length cq)) (first | exact ⟨e0, e1⟩ | exact ⟨f0, f1⟩ | exact ⟨g0, g1⟩)
            (first
             | (go_at_call 15; refine (table_Holds ng rs n _ _ ?_).mono ?_; exact HA2.out; rintro e w5 ⟨rfl, hb5⟩; rw [← HHC.out]; have f0 := (hb5.cell (p := ⟨wi.heap.size, 0, none⟩) hgw).trans e0; have f1 := (hb5.cell (p := ⟨wi.heap.size, 1, none⟩) hgw).trans e1; have hb5' : Below wj.heap.size wj w5 := undrew hb5; have hgw5 := Nat.lt_of_lt_of_le hgw hb5'.size)
             | (go_at_call 16; refine (ref_CellHolds ng rs n _ _ ?_).mono ?_; exact HA2.out.onOld hb5'; rintro e w6 ⟨rfl, hb6⟩; rw [← HHC.out]; have g0 := (hb6.cell (p := ⟨wi.heap.size, 0, none⟩) hgw5).trans f0; have g1 := (hb6.cell (p := ⟨wi.heap.size, 1, none⟩) hgw5).trans f1; have hb6' := bx hbi (bx hbw (bx hb5' hb6)); clear hb6 hb5))
          go_wp2
          exact ⟨⟨j + 1, by omega, by go_num, hb6'⟩, by simp [intOf]; omega⟩
        · go_wp2
          exact ⟨⟨k + 1, by omega, by go_num, bx hb (bx hbz hbi)⟩, by simp [intOf]; omega⟩
    · clear HRC
      have k12_0 := (hb.cell (p := ⟨w.heap.size, 0, none⟩) lT11).trans k11_0
      have k12_1 := (hb.cell (p := ⟨w.heap.size, 1, none⟩) lT11).trans k11_1
      have k12_2 := (hb.cell (p := ⟨w.heap.size, 2, none⟩) lT11).trans k11_2
      have k12_3 := (hb.cell (p := ⟨w.heap.size, 3, none⟩) lT11).trans k11_3
      have k12_4 := (hb.cell (p := ⟨w.heap.size, 4, none⟩) lT11).trans k11_4
      have c12_0 := (hb.cell (p := ⟨w1.heap.size, 0, none⟩) lC11).trans c11_0
      have c12_1 := (hb.cell (p := ⟨w1.heap.size, 1, none⟩) lC11).trans c11_1
      have c12_2 := (hb.cell (p := ⟨w1.heap.size, 2, none⟩) lC11).trans c11_2
      have c12_3 := (hb.cell (p := ⟨w1.heap.size, 3, none⟩) lC11).trans c11_3
      have c12_4 := (hb.cell (p := ⟨w1.heap.size, 4, none⟩) lC11).trans c11_4
      have lT12 := Nat.lt_of_lt_of_le lT11 hb.size
      have lC12 := Nat.lt_of_lt_of_le lC11 hb.size
      have TT12 := Lib.hid (TT11.out.onOld hb)
      have TC12 := Lib.hid (TC11.out.onOld hb)
      have HI12 := Lib.hid (HI11.out.onOld hb)
      have hb012 := bx hb011 hb
      clear k11_0 k11_1 k11_2 k11_3 k11_4 c11_0 c11_1 c11_2 c11_3 c11_4
      have hN : ins.length ≤ 140737488355328 := by omega
      obtain ⟨p, hp⟩ : ∃ p, p = spanV ⟨nm, pol, comp, ins, rules⟩ := ⟨_, rfl⟩
      have HP := Lib.hid hp
      clear hp
      obtain ⟨z1, z2⟩ := p
      have y1 : (z1 == z1) = true := by simp
      have y2 : (z2 == z2) = true := by simp
      cases g
      · go_wp2_with fail
        go_region_law (first
           | (go_simp; go_at_call 9; refine (ref_IsTable _ _ _ ?_ HS.out HSI.out).mono ?_; exact TT12.out; rintro e w13 ⟨rfl, hb13⟩; have hb13' : Below wr.heap.size wr w13 := undrew hb13; rw [← HG.out]; have k13_0 := (hb13'.cell (p := ⟨w.heap.size, 0, none⟩) lT12).trans k12_0; have k13_1 := (hb13'.cell (p := ⟨w.heap.size, 1, none⟩) lT12).trans k12_1; have k13_2 := (hb13'.cell (p := ⟨w.heap.size, 2, none⟩) lT12).trans k12_2; have k13_3 := (hb13'.cell (p := ⟨w.heap.size, 3, none⟩) lT12).trans k12_3; have k13_4 := (hb13'.cell (p := ⟨w.heap.size, 4, none⟩) lT12).trans k12_4; have c13_0 := (hb13'.cell (p := ⟨w1.heap.size, 0, none⟩) lC12).trans c12_0; have c13_1 := (hb13'.cell (p := ⟨w1.heap.size, 1, none⟩) lC12).trans c12_1; have c13_2 := (hb13'.cell (p := ⟨w1.heap.size, 2, none⟩) lC12).trans c12_2; have c13_3 := (hb13'.cell (p := ⟨w1.heap.size, 3, none⟩) lC12).trans c12_3; have c13_4 := (hb13'.cell (p := ⟨w1.heap.size, 4, none⟩) lC12).trans c12_4; have lT13 := Nat.lt_of_lt_of_le lT12 hb13'.size; have lC13 := Nat.lt_of_lt_of_le lC12 hb13'.size; have TT13 := Lib.hid (TT12.out.onOld hb13'); have TC13 := Lib.hid (TC12.out.onOld hb13'); have HI13 := Lib.hid (HI12.out.onOld hb13'); have hb013 := bx hb012 hb13')
           | (go_simp; go_at_call 19; refine (ref_SameTable ⟨nm, pol, comp, ins, rules⟩ _ _ _ ?_ ?_ hN HLEN.out).mono ?_; exact TC13.out; exact TT13.out; rintro e w16 ⟨rfl, hb16⟩; have k16_0 := (hb16.cell (p := ⟨w.heap.size, 0, none⟩) lT13).trans k13_0; have k16_1 := (hb16.cell (p := ⟨w.heap.size, 1, none⟩) lT13).trans k13_1; have k16_2 := (hb16.cell (p := ⟨w.heap.size, 2, none⟩) lT13).trans k13_2; have k16_3 := (hb16.cell (p := ⟨w.heap.size, 3, none⟩) lT13).trans k13_3; have k16_4 := (hb16.cell (p := ⟨w.heap.size, 4, none⟩) lT13).trans k13_4; have c16_0 := (hb16.cell (p := ⟨w1.heap.size, 0, none⟩) lC13).trans c13_0; have c16_1 := (hb16.cell (p := ⟨w1.heap.size, 1, none⟩) lC13).trans c13_1; have c16_2 := (hb16.cell (p := ⟨w1.heap.size, 2, none⟩) lC13).trans c13_2; have c16_3 := (hb16.cell (p := ⟨w1.heap.size, 3, none⟩) lC13).trans c13_3; have c16_4 := (hb16.cell (p := ⟨w1.heap.size, 4, none⟩) lC13).trans c13_4; have lT16 := Nat.lt_of_lt_of_le lT13 hb16.size; have lC16 := Nat.lt_of_lt_of_le lC13 hb16.size; have TT16 := Lib.hid (TT13.out.onOld hb16); have TC16 := Lib.hid (TC13.out.onOld hb16); have HI16 := Lib.hid (HI13.out.onOld hb16); have hb016 := bx hb013 hb16)
           | (go_simp; go_at_call 20; refine (law_tables _).mono ?_; rintro e w17 ⟨rfl, hb17⟩; have k17_0 := (hb17.cell (p := ⟨w.heap.size, 0, none⟩) lT16).trans k16_0; have k17_1 := (hb17.cell (p := ⟨w.heap.size, 1, none⟩) lT16).trans k16_1; have k17_2 := (hb17.cell (p := ⟨w.heap.size, 2, none⟩) lT16).trans k16_2; have k17_3 := (hb17.cell (p := ⟨w.heap.size, 3, none⟩) lT16).trans k16_3; have k17_4 := (hb17.cell (p := ⟨w.heap.size, 4, none⟩) lT16).trans k16_4; have c17_0 := (hb17.cell (p := ⟨w1.heap.size, 0, none⟩) lC16).trans c16_0; have c17_1 := (hb17.cell (p := ⟨w1.heap.size, 1, none⟩) lC16).trans c16_1; have c17_2 := (hb17.cell (p := ⟨w1.heap.size, 2, none⟩) lC16).trans c16_2; have c17_3 := (hb17.cell (p := ⟨w1.heap.size, 3, none⟩) lC16).trans c16_3; have c17_4 := (hb17.cell (p := ⟨w1.heap.size, 4, none⟩) lC16).trans c16_4; have lT17 := Nat.lt_of_lt_of_le lT16 hb17.size; have lC17 := Nat.lt_of_lt_of_le lC16 hb17.size; have TT17 := Lib.hid (TT16.out.onOld hb17); have TC17 := Lib.hid (TC16.out.onOld hb17); have HI17 := Lib.hid (HI16.out.onOld hb17); have hb017 := bx hb016 hb17))
        all_goals
          go_wp2
          go_ret
          exact ⟨rfl, hb017⟩
      · go_wp2_with fail
        go_region_held3 (fun w' => w'.cell? ⟨w.heap.size, 0, none⟩ = some (.string nm) ∧ w'.cell? ⟨w.heap.size, 1, none⟩ = some (.int .i64 pol) ∧ w'.cell? ⟨w.heap.size, 2, none⟩ = some (.bool comp) ∧ w'.cell? ⟨w.heap.size, 3, none⟩ = some (.slice Ai ins.length ci) ∧ w'.cell? ⟨w.heap.size, 4, none⟩ = some (.slice A rules.length c) ∧ w'.cell? ⟨w1.heap.size, 0, none⟩ = some (.string nm) ∧ w'.cell? ⟨w1.heap.size, 1, none⟩ = some (.int .i64 pol) ∧ w'.cell? ⟨w1.heap.size, 2, none⟩ = some (.bool comp) ∧ w'.cell? ⟨w1.heap.size, 3, none⟩ = some (.slice Bi ins.length di) ∧ w'.cell? ⟨w1.heap.size, 4, none⟩ = some (.slice B rules.length d)) (first | exact ⟨k12_0, k12_1, k12_2, k12_3, k12_4, c12_0, c12_1, c12_2, c12_3, c12_4⟩ | exact ⟨k13_0, k13_1, k13_2, k13_3, k13_4, c13_0, c13_1, c13_2, c13_3, c13_4⟩ | exact ⟨k14_0, k14_1, k14_2, k14_3, k14_4, c14_0, c14_1, c14_2, c14_3, c14_4⟩ | exact ⟨k15_0, k15_1, k15_2, k15_3, k15_4, c15_0, c15_1, c15_2, c15_3, c15_4⟩ | exact ⟨k16_0, k16_1, k16_2, k16_3, k16_4, c16_0, c16_1, c16_2, c16_3, c16_4⟩ | exact ⟨k17_0, k17_1, k17_2, k17_3, k17_4, c17_0, c17_1, c17_2, c17_3, c17_4⟩)
          (first
           | (go_at_call 9; refine (ref_IsTable _ _ _ ?_ HS.out HSI.out).mono ?_; exact TT12.out; rintro e w13 ⟨rfl, hb13⟩; have hb13' : Below wr.heap.size wr w13 := undrew hb13; rw [← HG.out]; have k13_0 := (hb13'.cell (p := ⟨w.heap.size, 0, none⟩) lT12).trans k12_0; have k13_1 := (hb13'.cell (p := ⟨w.heap.size, 1, none⟩) lT12).trans k12_1; have k13_2 := (hb13'.cell (p := ⟨w.heap.size, 2, none⟩) lT12).trans k12_2; have k13_3 := (hb13'.cell (p := ⟨w.heap.size, 3, none⟩) lT12).trans k12_3; have k13_4 := (hb13'.cell (p := ⟨w.heap.size, 4, none⟩) lT12).trans k12_4; have c13_0 := (hb13'.cell (p := ⟨w1.heap.size, 0, none⟩) lC12).trans c12_0; have c13_1 := (hb13'.cell (p := ⟨w1.heap.size, 1, none⟩) lC12).trans c12_1; have c13_2 := (hb13'.cell (p := ⟨w1.heap.size, 2, none⟩) lC12).trans c12_2; have c13_3 := (hb13'.cell (p := ⟨w1.heap.size, 3, none⟩) lC12).trans c12_3; have c13_4 := (hb13'.cell (p := ⟨w1.heap.size, 4, none⟩) lC12).trans c12_4; have lT13 := Nat.lt_of_lt_of_le lT12 hb13'.size; have lC13 := Nat.lt_of_lt_of_le lC12 hb13'.size; have TT13 := Lib.hid (TT12.out.onOld hb13'); have TC13 := Lib.hid (TC12.out.onOld hb13'); have HI13 := Lib.hid (HI12.out.onOld hb13'); have hb013 := bx hb012 hb13')
           | (go_at_call 17; refine (table_Span _ _ _ ?_ HS.out).mono ?_; exact TC13.out; rintro e w14 ⟨rfl, hb14⟩; rw [← HP.out]; have k14_0 := (hb14.cell (p := ⟨w.heap.size, 0, none⟩) lT13).trans k13_0; have k14_1 := (hb14.cell (p := ⟨w.heap.size, 1, none⟩) lT13).trans k13_1; have k14_2 := (hb14.cell (p := ⟨w.heap.size, 2, none⟩) lT13).trans k13_2; have k14_3 := (hb14.cell (p := ⟨w.heap.size, 3, none⟩) lT13).trans k13_3; have k14_4 := (hb14.cell (p := ⟨w.heap.size, 4, none⟩) lT13).trans k13_4; have c14_0 := (hb14.cell (p := ⟨w1.heap.size, 0, none⟩) lC13).trans c13_0; have c14_1 := (hb14.cell (p := ⟨w1.heap.size, 1, none⟩) lC13).trans c13_1; have c14_2 := (hb14.cell (p := ⟨w1.heap.size, 2, none⟩) lC13).trans c13_2; have c14_3 := (hb14.cell (p := ⟨w1.heap.size, 3, none⟩) lC13).trans c13_3; have c14_4 := (hb14.cell (p := ⟨w1.heap.size, 4, none⟩) lC13).trans c13_4; have lT14 := Nat.lt_of_lt_of_le lT13 hb14.size; have lC14 := Nat.lt_of_lt_of_le lC13 hb14.size; have TT14 := Lib.hid (TT13.out.onOld hb14); have TC14 := Lib.hid (TC13.out.onOld hb14); have HI14 := Lib.hid (HI13.out.onOld hb14); have hb014 := bx hb013 hb14)
           | (go_at_call 18; refine (ref_SpanOf _ _ _ ?_ HG.out.symm).mono ?_; exact TT14.out; rintro e w15 ⟨rfl, hb15⟩; rw [← HP.out]; have k15_0 := (hb15.cell (p := ⟨w.heap.size, 0, none⟩) lT14).trans k14_0; have k15_1 := (hb15.cell (p := ⟨w.heap.size, 1, none⟩) lT14).trans k14_1; have k15_2 := (hb15.cell (p := ⟨w.heap.size, 2, none⟩) lT14).trans k14_2; have k15_3 := (hb15.cell (p := ⟨w.heap.size, 3, none⟩) lT14).trans k14_3; have k15_4 := (hb15.cell (p := ⟨w.heap.size, 4, none⟩) lT14).trans k14_4; have c15_0 := (hb15.cell (p := ⟨w1.heap.size, 0, none⟩) lC14).trans c14_0; have c15_1 := (hb15.cell (p := ⟨w1.heap.size, 1, none⟩) lC14).trans c14_1; have c15_2 := (hb15.cell (p := ⟨w1.heap.size, 2, none⟩) lC14).trans c14_2; have c15_3 := (hb15.cell (p := ⟨w1.heap.size, 3, none⟩) lC14).trans c14_3; have c15_4 := (hb15.cell (p := ⟨w1.heap.size, 4, none⟩) lC14).trans c14_4; have lT15 := Nat.lt_of_lt_of_le lT14 hb15.size; have lC15 := Nat.lt_of_lt_of_le lC14 hb15.size; have TT15 := Lib.hid (TT14.out.onOld hb15); have TC15 := Lib.hid (TC14.out.onOld hb15); have HI15 := Lib.hid (HI14.out.onOld hb15); have hb015 := bx hb014 hb15)
           | (go_at_call 19; refine (ref_SameTable ⟨nm, pol, comp, ins, rules⟩ _ _ _ ?_ ?_ hN HLEN.out).mono ?_; exact TC15.out; exact TT15.out; rintro e w16 ⟨rfl, hb16⟩; have k16_0 := (hb16.cell (p := ⟨w.heap.size, 0, none⟩) lT15).trans k15_0; have k16_1 := (hb16.cell (p := ⟨w.heap.size, 1, none⟩) lT15).trans k15_1; have k16_2 := (hb16.cell (p := ⟨w.heap.size, 2, none⟩) lT15).trans k15_2; have k16_3 := (hb16.cell (p := ⟨w.heap.size, 3, none⟩) lT15).trans k15_3; have k16_4 := (hb16.cell (p := ⟨w.heap.size, 4, none⟩) lT15).trans k15_4; have c16_0 := (hb16.cell (p := ⟨w1.heap.size, 0, none⟩) lC15).trans c15_0; have c16_1 := (hb16.cell (p := ⟨w1.heap.size, 1, none⟩) lC15).trans c15_1; have c16_2 := (hb16.cell (p := ⟨w1.heap.size, 2, none⟩) lC15).trans c15_2; have c16_3 := (hb16.cell (p := ⟨w1.heap.size, 3, none⟩) lC15).trans c15_3; have c16_4 := (hb16.cell (p := ⟨w1.heap.size, 4, none⟩) lC15).trans c15_4; have lT16 := Nat.lt_of_lt_of_le lT15 hb16.size; have lC16 := Nat.lt_of_lt_of_le lC15 hb16.size; have TT16 := Lib.hid (TT15.out.onOld hb16); have TC16 := Lib.hid (TC15.out.onOld hb16); have HI16 := Lib.hid (HI15.out.onOld hb16); have hb016 := bx hb015 hb16)
           | (go_at_call 20; refine (law_tables _).mono ?_; rintro e w17 ⟨rfl, hb17⟩; have k17_0 := (hb17.cell (p := ⟨w.heap.size, 0, none⟩) lT16).trans k16_0; have k17_1 := (hb17.cell (p := ⟨w.heap.size, 1, none⟩) lT16).trans k16_1; have k17_2 := (hb17.cell (p := ⟨w.heap.size, 2, none⟩) lT16).trans k16_2; have k17_3 := (hb17.cell (p := ⟨w.heap.size, 3, none⟩) lT16).trans k16_3; have k17_4 := (hb17.cell (p := ⟨w.heap.size, 4, none⟩) lT16).trans k16_4; have c17_0 := (hb17.cell (p := ⟨w1.heap.size, 0, none⟩) lC16).trans c16_0; have c17_1 := (hb17.cell (p := ⟨w1.heap.size, 1, none⟩) lC16).trans c16_1; have c17_2 := (hb17.cell (p := ⟨w1.heap.size, 2, none⟩) lC16).trans c16_2; have c17_3 := (hb17.cell (p := ⟨w1.heap.size, 3, none⟩) lC16).trans c16_3; have c17_4 := (hb17.cell (p := ⟨w1.heap.size, 4, none⟩) lC16).trans c16_4; have lT17 := Nat.lt_of_lt_of_le lT16 hb17.size; have lC17 := Nat.lt_of_lt_of_le lC16 hb17.size; have TT17 := Lib.hid (TT16.out.onOld hb17); have TC17 := Lib.hid (TC16.out.onOld hb17); have HI17 := Lib.hid (HI16.out.onOld hb17); have hb017 := bx hb016 hb17))
        go_wp2
        go_ret
        exact ⟨rfl, hb017⟩

end Go.Proofs.YtmdljknlbmlacaaDoor
