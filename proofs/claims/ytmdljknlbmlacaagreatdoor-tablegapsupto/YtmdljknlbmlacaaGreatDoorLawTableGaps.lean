/- The walk of TableGaps: it returns true. Conditions: argument slices read as lists in old memory; sizes are within bounds, the joined names of the inputs among them. -/
import Derived.Test.YtmdljknlbmlacaaGreatDoorRefGaps
import Derived.Test.YtmdljknlbmlacaaGreatDoorRefSameT
import Derived.Test.YtmdljknlbmlacaaGreatDoorRefBox2
import Derived.Test.YtmdljknlbmlacaaGreatDoorLawTab
namespace Go.Proofs.YtmdljknlbmlacaaGreatDoor
open Go.RowKit

set_option maxRecDepth 100000 in
set_option maxHeartbeats 1000000 in
theorem law_TableGaps (t : TabD) (a : BoxD) (v va : Value) (w : World) (h : TabAt w (Old w) t v) (h' : Sl Enc.rng.slice w (Old w) a va) (hs : smallT t) (hsi : t.ins.length * 16 ≤ 140737488355328)
    (hsc : ∀ r, r ∈ t.rules → r.1.length * 32 ≤ 140737488355328 ∧ ∀ c, c ∈ r.1 → c.2.length * 16 ≤ 140737488355328) (hlen : (Lib.join (t.ins.map (·.data.toList)) [44]).length ≤ 140737488355328)
    (hal : a.length * 24 ≤ 140737488355328) (has : ∀ s, s ∈ a → s.length * 16 ≤ 140737488355328) :
    Calls Tryz.prog 3 #[v, va] w fun e w' => e = .returned (.bool true) ∧ Below w.heap.size w w' := by
  have H := Lib.hid h
  have HA := Lib.hid h'
  have HS := Lib.hid hs
  have HSI := Lib.hid hsi
  have HSC := Lib.hid hsc
  have HLEN := Lib.hid hlen
  have HAS := Lib.hid has
  have HSR := Lib.hid hs.2.2
  obtain ⟨nm, pol, comp, ins, rules⟩ := t
  obtain ⟨vi, vr, rfl, hi', hr'⟩ := h
  simp only at hi' hr' hsi
  obtain ⟨Ai, ci, rfl, -, -⟩ := hi'.form
  obtain ⟨Ar, cr, rfl, -, -⟩ := hr'.form
  obtain ⟨Aa, ca, rfl, -, -⟩ := h'.form
  have hw0 := below_alloc1 w (.cells #[.string nm, .int .i64 pol, .bool comp, .slice Ai ins.length ci, .slice Ar rules.length cr] 25)
  have F0 := Lib.hid (Five.new w (.string nm) (.int .i64 pol) (.bool comp) (.slice Ai ins.length ci) (.slice Ar rules.length cr) 25)
  have H0 := Lib.hid (H.out.onOld hw0)
  have A0 := Lib.hid (HA.out.onOld hw0)
  generalize hwe : w.alloc (.cells #[.string nm, .int .i64 pol, .bool comp, .slice Ai ins.length ci, .slice Ar rules.length cr] 25) = w0 at *
  obtain ⟨_, ⟨c0, c1, c2, c3, c4⟩, -⟩ := F0.out
  generalize hgv : gapV ⟨nm, pol, comp, ins, rules⟩ a = GV
  generalize hcv : clashV ⟨nm, pol, comp, ins, rules⟩ a = CV
  obtain ⟨gl, gb⟩ := GV
  obtain ⟨cl, cb⟩ := CV
  have HGV := Lib.hid hgv
  have HCV := Lib.hid hcv
  have b1 : (gb == gb) = true := by simp
  have b2 : (cb == cb) = true := by simp
  clear hi' hr' h' hs hsc hlen has hgv hcv
  go_enter Tryz.func3, Tryz.ntmps3
  go_wp2_with fail
  clear hwe
  refine (ref_CopyTable _ _ _ H0.out HSI.out HSR.out HSC.out).mono ?_
  rintro e w1 ⟨u1, rfl, hu1, hb1⟩
  have U1 := Lib.hid hu1
  obtain ⟨vi1, vr1, rfl, hi1, hr1⟩ := hu1
  simp only at hi1 hr1
  obtain ⟨Bi, di, rfl, -, -⟩ := hi1.form
  obtain ⟨Br, dr, rfl, -, -⟩ := hr1.form
  have F1 := Lib.hid (F0.out.next hb1)
  have H1 := Lib.hid (H0.out.onOld hb1)
  have A1 := Lib.hid (A0.out.onOld hb1)
  have B1 := Lib.hid (bx hw0 hb1)
  clear hi1 hr1 hb1 c0 c1 c2 c3 c4
  go_wp2_with fail
  refine (ref_CopyBox a _ _ A1.out hal HAS.out).mono ?_
  intro e w2 hp2
  obtain ⟨u2, rfl, ho2, hb2⟩ := hp2
  have D2 := Lib.hid (ho2.slOld (Nat.le_refl _))
  obtain ⟨Bb, db, rfl, -, -, -⟩ := ho2.form
  have hw3 := below_alloc1 w2 (.cells #[.string nm, .int .i64 pol, .bool comp, .slice Bi ins.length di, .slice Br rules.length dr] 25)
  have G3 := Lib.hid (Five.new w2 (.string nm) (.int .i64 pol) (.bool comp) (.slice Bi ins.length di) (.slice Br rules.length dr) 25)
  have F3 := Lib.hid ((F1.out.next hb2).next hw3)
  have H3 := Lib.hid ((H1.out.onOld hb2).onOld hw3)
  have U3 := Lib.hid ((U1.out.onOld hb2).onOld hw3)
  have A3 := Lib.hid ((A1.out.onOld hb2).onOld hw3)
  have D3 := Lib.hid (D2.out.onOld hw3)
  have B3 := Lib.hid (bx (bx B1.out hb2) hw3)
  obtain ⟨_, ⟨c0, c1, c2, c3, c4⟩, -⟩ := G3.out
  clear ho2 hb2 hw3
  go_wp2_with fail
  generalize w2.alloc (.cells #[.string nm, .int .i64 pol, .bool comp, .slice Bi ins.length di, .slice Br rules.length dr] 25) = w3 at *
  refine (table_Gap _ a _ _ _ U3.out D3.out HS.out).mono ?_
  intro e w4 hp4
  rw [HGV.out] at hp4
  obtain ⟨v4, rfl, hs4, hb4⟩ := hp4
  have S4 := Lib.hid (hs4.more (fun _ h => h.2) : Sl Enc.int w4 (Old w4) gl v4)
  obtain ⟨A4, c4', rfl, -, -⟩ := S4.out.form
  have F4 := Lib.hid (F3.out.next hb4)
  have G4 := Lib.hid (G3.out.next hb4)
  have H4 := Lib.hid (H3.out.onOld hb4)
  have U4 := Lib.hid (U3.out.onOld hb4)
  have A4' := Lib.hid (A3.out.onOld hb4)
  have D4 := Lib.hid (D3.out.onOld hb4)
  have B4 := Lib.hid (bx B3.out hb4)
  obtain ⟨_, ⟨d0, d1, d2, d3, d4⟩, -⟩ := F4.out
  clear c0 c1 c2 c3 c4 hs4 hb4
  go_wp2_with fail
  refine (ref_GapOf _ a _ _ _ H4.out A4'.out HS.out HSI.out).mono ?_
  intro e w5 hp5
  rw [HGV.out] at hp5
  obtain ⟨v5, rfl, hs5, hb5⟩ := hp5
  have S5 := Lib.hid (hs5.more (fun _ h => h.2) : Sl Enc.int w5 (Old w5) gl v5)
  have S5a := Lib.hid (S4.out.onOld hb5)
  obtain ⟨A5, c5, rfl, -, -⟩ := S5.out.form
  have F5 := Lib.hid (F4.out.next hb5)
  have G5 := Lib.hid (G4.out.next hb5)
  have H5 := Lib.hid (H4.out.onOld hb5)
  have U5 := Lib.hid (U4.out.onOld hb5)
  have A5' := Lib.hid (A4'.out.onOld hb5)
  have D5 := Lib.hid (D4.out.onOld hb5)
  have B5 := Lib.hid (bx B4.out hb5)
  obtain ⟨_, ⟨c0, c1, c2, c3, c4⟩, -⟩ := G5.out
  clear d0 d1 d2 d3 d4 hs5 hb5
  go_wp2_with fail
  refine (table_Clash _ a _ _ _ U5.out D5.out HS.out).mono ?_
  intro e w6 hp6
  rw [HCV.out] at hp6
  obtain ⟨v6, rfl, hs6, hb6⟩ := hp6
  have S6 := Lib.hid (hs6.more (fun _ h => h.2) : Sl Enc.int w6 (Old w6) cl v6)
  obtain ⟨A6, c6, rfl, -, -⟩ := S6.out.form
  have S6a := Lib.hid (S5a.out.onOld hb6)
  have S6b := Lib.hid (S5.out.onOld hb6)
  have F6 := Lib.hid (F5.out.next hb6)
  have G6 := Lib.hid (G5.out.next hb6)
  have H6 := Lib.hid (H5.out.onOld hb6)
  have U6 := Lib.hid (U5.out.onOld hb6)
  have A6' := Lib.hid (A5'.out.onOld hb6)
  have D6 := Lib.hid (D5.out.onOld hb6)
  have B6 := Lib.hid (bx B5.out hb6)
  obtain ⟨_, ⟨d0, d1, d2, d3, d4⟩, -⟩ := F6.out
  clear c0 c1 c2 c3 c4 hs6 hb6
  go_wp2_with fail
  refine (ref_ClashOf _ a _ _ _ H6.out A6'.out HS.out HSI.out).mono ?_
  intro e w7 hp7
  rw [HCV.out] at hp7
  obtain ⟨v7, rfl, hs7, hb7⟩ := hp7
  have S7 := Lib.hid (hs7.more (fun _ h => h.2) : Sl Enc.int w7 (Old w7) cl v7)
  obtain ⟨A7, c7, rfl, -, -⟩ := S7.out.form
  have S7a := Lib.hid (S6a.out.onOld hb7)
  have S7b := Lib.hid (S6b.out.onOld hb7)
  have S7c := Lib.hid (S6.out.onOld hb7)
  have F7 := Lib.hid (F6.out.next hb7)
  have G7 := Lib.hid (G6.out.next hb7)
  have H7 := Lib.hid (H6.out.onOld hb7)
  have U7 := Lib.hid (U6.out.onOld hb7)
  have A7' := Lib.hid (A6'.out.onOld hb7)
  have D7 := Lib.hid (D6.out.onOld hb7)
  have B7 := Lib.hid (bx B6.out hb7)
  clear d0 d1 d2 d3 d4 hs7 hb7
  go_wp2_with fail
  refine (ref_SameNumbers gl gl _ _ _ S7a.out S7b.out).mono ?_
  rintro e w8 ⟨rfl, hb8⟩
  rw [decide_eq_true (rfl : gl = gl)]
  go_wp2_with fail
  refine (ref_SameNumbers cl cl _ _ _ (S7c.out.onOld hb8) (S7.out.onOld hb8)).mono ?_
  rintro e w9 ⟨rfl, hb9⟩
  rw [decide_eq_true (rfl : cl = cl)]
  have hb79 := bx hb8 hb9
  obtain ⟨_, ⟨d0, d1, d2, d3, d4⟩, -⟩ := F7.out.next hb79
  obtain ⟨_, ⟨c0, c1, c2, c3, c4⟩, -⟩ := G7.out.next hb79
  have H9 := Lib.hid (H7.out.onOld hb79)
  have U9 := Lib.hid (U7.out.onOld hb79)
  have A9 := Lib.hid (A7'.out.onOld hb79)
  have D9 := Lib.hid (D7.out.onOld hb79)
  have B9 := Lib.hid (bx B7.out hb79)
  clear hb8 hb9 hb79
  go_wp2_with fail
  refine (ref_SameTable _ _ _ _ U9.out H9.out (by show ins.length ≤ _; omega) HLEN.out).mono ?_
  rintro e w10 ⟨rfl, hb10⟩
  clear c0 c1 c2 c3 c4 d0 d1 d2 d3 d4
  go_wp2_with fail
  refine (ref_SameBox a a _ _ _ (D9.out.onOld hb10) (A9.out.onOld hb10)).mono ?_
  rintro e w11 ⟨rfl, hb11⟩
  rw [decide_eq_true (rfl : a = a)]
  go_wp2_with fail
  refine (law_tables _).mono ?_
  rintro e w12 ⟨rfl, hb12⟩
  go_wp2
  go_ret
  exact ⟨rfl, bx B9.out (bx (bx hb10 hb11) hb12)⟩

end Go.Proofs.YtmdljknlbmlacaaGreatDoor
