/- ratebooklaw.TableAreas returns true. Conditions: the arguments read as lists in old memory; names and lists fit into 2^47 bytes. -/
import Derived.Test.YtmdljknlbmlacaaDoorRefArea
import Derived.Test.YtmdljknlbmlacaaDoorRefBox2
import Derived.Test.YtmdljknlbmlacaaDoorLawTab
namespace Go.Proofs.YtmdljknlbmlacaaDoor
open Go.RowKit

set_option maxHeartbeats 2000000 in
theorem law_TableAreas (t : TabD) (a : BoxD) (v va : Value) (w : World) (h : TabAt w (Old w) t v) (h' : Sl Enc.rng.slice w (Old w) a va) (hs : smallT t) (hsi : t.ins.length * 16 ≤ 140737488355328) (hl : a.length * 24 ≤ 140737488355328) (hls : ∀ s, s ∈ a → s.length * 16 ≤ 140737488355328) :
    Calls Tryd.prog 4 #[v, va] w fun e w' => e = .returned (.bool true) ∧ Below w.heap.size w w' := by
  have HS := Lib.hid hs
  have HT := Lib.hid h
  have HA := Lib.hid h'
  have HLS := Lib.hid hls
  have HSI := Lib.hid hsi
  have HCS := Lib.hid (fun (hg : goodT t = true) r (hr : r ∈ t.rules) => (goodR_iff.1 ((goodRs_iff.1 (goodT_iff.1 hg).2.2.2.2).2.2 r hr)).2.2.2)
  obtain ⟨nm, pol, comp, ins, rules⟩ := t
  obtain ⟨vi, vr, rfl, hi, hr⟩ := h
  simp only at hi hr HCS
  clear hs hls hsi
  have H := Lib.hid hr
  obtain ⟨Ai, ci, rfl, hi1, hi2, -⟩ := hi
  obtain ⟨A, c, rfl, hc1, hc2, -⟩ := hr
  obtain ⟨B, d, rfl, hd1, hd2, -⟩ := h'
  unfold maxLen at hi2 hc2 hd2
  have hb0 := below_alloc1 w (.cells #[.string nm, .int .i64 pol, .bool comp, .slice Ai ins.length ci, .slice A rules.length c] 25)
  generalize hw0 : w.alloc (.cells #[.string nm, .int .i64 pol, .bool comp, .slice Ai ins.length ci, .slice A rules.length c] 25) = w0 at *
  have hg0 : w.heap.size < w0.heap.size := by rw [← hw0]; simp
  have k0 : w0.cell? ⟨w.heap.size, 0, none⟩ = some (.string nm) := by rw [← hw0]; exact cell_new _ _ _ _ _ rfl
  have k1 : w0.cell? ⟨w.heap.size, 1, none⟩ = some (.int .i64 pol) := by rw [← hw0]; exact cell_new _ _ _ _ _ rfl
  have k2 : w0.cell? ⟨w.heap.size, 2, none⟩ = some (.bool comp) := by rw [← hw0]; exact cell_new _ _ _ _ _ rfl
  have k3 : w0.cell? ⟨w.heap.size, 3, none⟩ = some (.slice Ai ins.length ci) := by rw [← hw0]; exact cell_new _ _ _ _ _ rfl
  have k4 : w0.cell? ⟨w.heap.size, 4, none⟩ = some (.slice A rules.length c) := by rw [← hw0]; exact cell_new _ _ _ _ _ rfl
  have HT0 := Lib.hid (HT.out.onOld hb0)
  go_enter Tryd.func4, Tryd.ntmps4
  go_wp2_with fail
  refine (ref_IsTable _ _ _ HT0.out HS.out HSI.out).mono ?_
  rintro e w1 ⟨rfl, hb1⟩
  have j4 := (hb1.cell (p := ⟨w.heap.size, 4, none⟩) hg0).trans k4
  have hb01 := bx hb0 hb1
  clear k0 k1 k2 k3 k4 hw0 hb1
  cases hg : goodT ⟨nm, pol, comp, ins, rules⟩
  · clear hg
    go_wp2_with fail
    refine (law_tables _).mono ?_
    rintro e w9 ⟨rfl, hb9⟩
    go_wp2
    go_ret
    exact ⟨rfl, bx hb01 hb9⟩
  have HC := Lib.hid (HCS.out hg)
  clear hg HCS
  go_wp2
  go_loopw [18] (fun i wr => ∃ k : Nat, k ≤ rules.length ∧ i = .int .i64 k ∧ Below w.heap.size w wr) (fun i _ => rules.length - (intOf i).toNat)
  case atStart => exact ⟨0, Nat.zero_le _, rfl, hb01⟩
  case round =>
    clear j4 hb01
    obtain ⟨k, hk, rfl, hb⟩ := hrel
    have hsz := hb.size
    by_cases hlt : k < rules.length
    · obtain ⟨b, o, cs, x, vc, rfl, _, hx, c1, c2, hr⟩ := (H.out.onOld hb).rule_at hlt
      obtain ⟨Ar, cr, rfl, hr1, hr2⟩ := hr.form
      have hbz := below_alloc1 wr (.cells #[.slice Ar cs.length cr, .int .i64 x] 37)
      have q0 : (wr.alloc (.cells #[.slice Ar cs.length cr, .int .i64 x] 37)).cell? ⟨wr.heap.size, 0, none⟩ = some (.slice Ar cs.length cr) := cell_new _ _ _ _ _ rfl
      have q1 : (wr.alloc (.cells #[.slice Ar cs.length cr, .int .i64 x] 37)).cell? ⟨wr.heap.size, 1, none⟩ = some (.int .i64 x) := cell_new _ _ _ _ _ rfl
      have hgo : wr.heap.size < (wr.alloc (.cells #[.slice Ar cs.length cr, .int .i64 x] 37)).heap.size := by simp
      have HR := Lib.hid (hr.onOld hbz)
      have HA1 := Lib.hid ((HA.out.onOld hb).onOld hbz)
      have HCC := Lib.hid (HC.out _ (List.mem_of_getElem? hx.out))
      have HCL : Hid (∀ c, c ∈ cs → c.2.length * 16 ≤ 140737488355328) := fun c hc => by have := (goodC_iff.1 (HCC.out c hc)).2.1; omega
      have hb2 := bx hb hbz
      clear hr
      generalize hwz : wr.alloc (.cells #[.slice Ar cs.length cr, .int .i64 x] 37) = wz at *
      go_wp2_with fail
      clear hwz c1 c2
      go_region_held3 (fun w' => w'.cell? ⟨wr.heap.size, 0, none⟩ = some (.slice Ar cs.length cr) ∧ w'.cell? ⟨wr.heap.size, 1, none⟩ = some (.int .i64 x)) (first | exact ⟨q0, q1⟩ | exact ⟨p0, p1⟩ | exact ⟨r0, r1⟩)
        (first
         | (go_at_call 22; refine (ref_CopyBox a _ _ ?_ hl HLS.out).mono ?_; exact HA1.out; rintro e w3 ⟨v3, rfl, ho3, hb3⟩; have hb3' := undrew hb3; have p0 := (hb3.cell (p := ⟨wr.heap.size, 0, none⟩) hgo).trans q0; have p1 := (hb3.cell (p := ⟨wr.heap.size, 1, none⟩) hgo).trans q1; have HO3 := Lib.hid (ho3.slOld (Nat.le_refl _)); have HR3 := Lib.hid (HR.out.onOld hb3'); have HA3 := Lib.hid (HA1.out.onOld hb3'); have hgo3 := Nat.lt_of_lt_of_le hgo hb3'.size; have hb03 := bx hb2 hb3'; clear hb3 ho3 hb3')
         | (go_at_call 21; refine (table_Area cs x a _ _ _ ?_ ?_ HCL.out).mono ?_; exact HR3.out; exact HO3.out; rintro e w4 ⟨v4, rfl, hn4, hb4⟩; have r0 := (hb4.cell (p := ⟨wr.heap.size, 0, none⟩) hgo3).trans p0; have r1 := (hb4.cell (p := ⟨wr.heap.size, 1, none⟩) hgo3).trans p1; have HR4 := Lib.hid (HR3.out.onOld hb4); have HA4 := Lib.hid (HA3.out.onOld hb4); have HN4 := Lib.hid (hn4.more (S' := Old w4) fun _ h => h.2); have hb04 := bx hb03 hb4; clear hn4 hb4))
      all_goals
        go_wp2_with fail
        refine (ref_AreaOf cs x a _ _ _ HR4.out HA4.out HCC.out).mono ?_
        rintro e w5 ⟨v5, rfl, hn5, hb5⟩
        have HN5 := Lib.hid (hn5.more (S' := Old w5) fun _ h => h.2)
        have HN45 := Lib.hid (HN4.out.onOld hb5)
        clear hn5
        go_wp2_with fail
        refine (ref_SameBox _ _ _ _ _ HN45.out HN5.out).mono ?_
        rintro e w6 ⟨rfl, hb6⟩
        have e1 : decide (areaV cs a = areaV cs a) = true := decide_eq_true rfl
        rw [e1]
        generalize areaOk cs a = ok at *
        have e2 : (ok != ok) = false := by simp
        go_wp2
        exact ⟨⟨k + 1, by omega, by go_num, bx hb04 (bx hb5 hb6)⟩, by simp [intOf]; omega⟩
    · go_wp2_with fail
      refine (law_tables _).mono ?_
      rintro e w9 ⟨rfl, hb9⟩
      go_wp2
      go_ret
      exact ⟨rfl, bx hb hb9⟩

end Go.Proofs.YtmdljknlbmlacaaDoor
