/- table.Good, Holds, matches and Matches, each as a Lean function of the data that its arguments read as. Conditions: argument slices read as lists in old memory; the indices of all rules fit into 2^47 bytes. -/
import Derived.Test.YthnfkghgaagaiabDoorTableB
import Derived.Test.YthnfkghgaagaiabDoorBoxMake
import Derived.Deep.RegionHeld3
namespace Go.Proofs.YthnfkghgaagaiabDoor
open Go.RowKit

def smallT (t : TabD) : Prop := t.name.size ≤ 140737488355328 ∧ (∀ s, s ∈ t.ins → s.size ≤ 140737488355328) ∧ t.rules.length * 32 ≤ 140737488355328

set_option maxHeartbeats 400000 in
theorem table_Good (t : TabD) (v : Value) (w : World) (h : TabAt w (Old w) t v) (hs : smallT t) :
    Calls Tryd.prog 10 #[v] w fun e w' => e = .returned (.bool (goodT t)) ∧ Below w.heap.size w w' := by
  obtain ⟨nm, pol, comp, ins, rules⟩ := t
  obtain ⟨vi, vr, rfl, hi, hr⟩ := h
  obtain ⟨hs1, hs2, _⟩ := hs
  simp only at hi hr hs1 hs2
  have HS := Lib.hid hs2
  clear hs2
  obtain ⟨A, c, rfl, hc1, hc2⟩ := hi.form
  obtain ⟨B, d, rfl, hd1, hd2⟩ := hr.form
  unfold maxLen at hc2 hd2
  have hb0 := below_alloc1 w (.cells #[.string nm, .int .i64 pol, .bool comp, .slice A ins.length c, .slice B rules.length d] 25)
  have HI := Lib.hid (hi.onOld hb0)
  have HR := Lib.hid (hr.onOld hb0)
  clear hi hr
  have HE : Hid (goodT ⟨nm, pol, comp, ins, rules⟩ = (nameB nm && decide (1 ≤ pol) && decide (pol ≤ 7) && goodIns ins && goodRs ins.length rules)) := rfl
  generalize goodT ⟨nm, pol, comp, ins, rules⟩ = G at HE ⊢
  generalize hw0 : w.alloc (.cells #[.string nm, .int .i64 pol, .bool comp, .slice A ins.length c, .slice B rules.length d] 25) = w0 at *
  have hg0 : w.heap.size < w0.heap.size := by rw [← hw0]; simp
  have k0 : w0.cell? ⟨w.heap.size, 0, none⟩ = some (.string nm) := by rw [← hw0]; exact cell_new _ _ _ _ _ rfl
  have k1 : w0.cell? ⟨w.heap.size, 1, none⟩ = some (.int .i64 pol) := by rw [← hw0]; exact cell_new _ _ _ _ _ rfl
  have k3 : w0.cell? ⟨w.heap.size, 3, none⟩ = some (.slice A ins.length c) := by rw [← hw0]; exact cell_new _ _ _ _ _ rfl
  have k4 : w0.cell? ⟨w.heap.size, 4, none⟩ = some (.slice B rules.length d) := by rw [← hw0]; exact cell_new _ _ _ _ _ rfl
  go_enter Tryd.func10, Tryd.ntmps10
  go_wp2_with fail
  refine (table_Named nm _ hs1).mono ?_
  rintro e w1 ⟨rfl, hb1⟩
  have j1 := (hb1.cell (p := ⟨w.heap.size, 1, none⟩) hg0).trans k1
  have j3 := (hb1.cell (p := ⟨w.heap.size, 3, none⟩) hg0).trans k3
  have j4 := (hb1.cell (p := ⟨w.heap.size, 4, none⟩) hg0).trans k4
  have HI1 := Lib.hid (HI.out.onOld hb1)
  have HR1 := Lib.hid (HR.out.onOld hb1)
  have hg1 := Nat.lt_of_lt_of_le hg0 hb1.size
  clear k0 k1 k3 k4 HI HR
  cases hn : nameB nm
  · have HN := Lib.hid hn
    clear hn
    go_wp2
    go_ret
    exact ⟨ret_bool (by rw [HE.out, HN.out]; rfl), bx hb0 hb1⟩
  · have HN := Lib.hid hn
    clear hn
    by_cases hp1 : 1 ≤ pol
    · by_cases hp7 : pol ≤ 7
      · go_wp2_with fail
        refine (table_goodInputs ins _ _ HI1.out HS.out).mono ?_
        rintro e w2 ⟨rfl, hb2⟩
        have i3 := (hb2.cell (p := ⟨w.heap.size, 3, none⟩) hg1).trans j3
        have i4 := (hb2.cell (p := ⟨w.heap.size, 4, none⟩) hg1).trans j4
        have HR2 := Lib.hid (HR1.out.onOld hb2)
        clear j1 j3 j4 HI1 HR1
        cases hq : goodIns ins
        · have HQ := Lib.hid hq
          clear hq
          go_wp2
          go_ret
          exact ⟨ret_bool (by rw [HE.out, HQ.out]; simp), bx hb0 (bx hb1 hb2)⟩
        · have HQ := Lib.hid hq
          clear hq
          go_wp2_with fail
          refine (table_goodRules rules ins.length _ _ HR2.out).mono ?_
          rintro e w3 ⟨rfl, hb3⟩
          go_wp2
          go_ret
          exact ⟨ret_bool (by rw [HE.out, HQ.out, HN.out, decide_eq_true hp1, decide_eq_true hp7]; rfl), bx hb0 (bx hb1 (bx hb2 hb3))⟩
      · have hp7' : 7 < pol := by omega
        go_wp2
        go_ret
        exact ⟨ret_bool (by rw [HE.out, decide_eq_false (show ¬ pol ≤ 7 by omega)]; simp), bx hb0 hb1⟩
    · have hp1' : pol < 1 := by omega
      go_wp2
      go_ret
      exact ⟨ret_bool (by rw [HE.out, decide_eq_false (show ¬ 1 ≤ pol by omega)]; simp), bx hb0 hb1⟩

theorem infoIntT : (Tryd.prog.info? 3).map (fun i => (i.zero, i.size, i.bytes)) = some (some (.int .i64 0), 1, 8) := by kernel_rfl
end Go.Proofs.YthnfkghgaagaiabDoor
