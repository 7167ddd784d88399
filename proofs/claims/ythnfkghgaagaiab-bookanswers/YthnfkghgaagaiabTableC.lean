/- table.Good, Holds, matches and Matches, each as a Lean function of the data that its arguments read as. Conditions: argument slices read as lists in old memory; the indices of all rules fit into 2^47 bytes. -/
import Derived.Test.YthnfkghgaagaiabTableB
import Derived.Test.YthnfkghgaagaiabBoxMake
import Derived.Deep.RegionHeld3
namespace Go.Proofs.Ythnfkghgaagaiab
open Go.RowKit

def smallT (t : TabD) : Prop := t.name.size ≤ 140737488355328 ∧ (∀ s, s ∈ t.ins → s.size ≤ 140737488355328) ∧ t.rules.length * 32 ≤ 140737488355328

set_option maxHeartbeats 400000 in
theorem table_Good (t : TabD) (v : Value) (w : World) (h : TabAt w (Old w) t v) (hs : smallT t) :
    Calls Try.prog 7 #[v] w fun e w' => e = .returned (.bool (goodT t)) ∧ Below w.heap.size w w' := by
  obtain ⟨nm, pol, comp, ins, rules⟩ := t
  obtain ⟨vi, vr, rfl, hi, hr⟩ := h
  obtain ⟨hs1, hs2, _⟩ := hs
  simp only at hi hr hs1 hs2
  have HS := Lib.hid hs2
  clear hs2
  obtain ⟨A, c, rfl, hc1, hc2⟩ := hi.form
  obtain ⟨B, d, rfl, hd1, hd2⟩ := hr.form
  unfold maxLen at hc2 hd2
  have hb0 := below_alloc1 w (.cells #[.string nm, .int .i64 pol, .bool comp, .slice A ins.length c, .slice B rules.length d] 25)
  have HI := Lib.hid (hi.onOld hb0)
  have HR := Lib.hid (hr.onOld hb0)
  clear hi hr
  have HE : Hid (goodT ⟨nm, pol, comp, ins, rules⟩ = (nameB nm && decide (1 ≤ pol) && decide (pol ≤ 7) && goodIns ins && goodRs ins.length rules)) := rfl
  generalize goodT ⟨nm, pol, comp, ins, rules⟩ = G at HE ⊢
  generalize hw0 : w.alloc (.cells #[.string nm, .int .i64 pol, .bool comp, .slice A ins.length c, .slice B rules.length d] 25) = w0 at *
  have hg0 : w.heap.size < w0.heap.size := by rw [← hw0]; simp
  have k0 : w0.cell? ⟨w.heap.size, 0, none⟩ = some (.string nm) := by rw [← hw0]; exact cell_new _ _ _ _ _ rfl
  have k1 : w0.cell? ⟨w.heap.size, 1, none⟩ = some (.int .i64 pol) := by rw [← hw0]; exact cell_new _ _ _ _ _ rfl
  have k3 : w0.cell? ⟨w.heap.size, 3, none⟩ = some (.slice A ins.length c) := by rw [← hw0]; exact cell_new _ _ _ _ _ rfl
  have k4 : w0.cell? ⟨w.heap.size, 4, none⟩ = some (.slice B rules.length d) := by rw [← hw0]; exact cell_new _ _ _ _ _ rfl
  go_enter Try.func7, Try.ntmps7
  go_wp2_with fail
  refine (table_Named nm _ hs1).mono ?_
  rintro e w1 ⟨rfl, hb1⟩
  have j1 := (hb1.cell (p := ⟨w.heap.size, 1, none⟩) hg0).trans k1
  have j3 := (hb1.cell (p := ⟨w.heap.size, 3, none⟩) hg0).trans k3
  have j4 := (hb1.cell (p := ⟨w.heap.size, 4, none⟩) hg0).trans k4
  have HI1 := Lib.hid (HI.out.onOld hb1)
  have HR1 := Lib.hid (HR.out.onOld hb1)
  have hg1 := Nat.lt_of_lt_of_le hg0 hb1.size
  clear k0 k1 k3 k4 HI HR
  cases hn : nameB nm
  · have HN := Lib.hid hn
    clear hn
    go_wp2
    go_ret
    exact ⟨ret_bool (by rw [HE.out, HN.out]; rfl), bx hb0 hb1⟩
  · have HN := Lib.hid hn
    clear hn
    by_cases hp1 : 1 ≤ pol
    · by_cases hp7 : pol ≤ 7
      · go_wp2_with fail
        refine (table_goodInputs ins _ _ HI1.out HS.out).mono ?_
        rintro e w2 ⟨rfl, hb2⟩
        have i3 := (hb2.cell (p := ⟨w.heap.size, 3, none⟩) hg1).trans j3
        have i4 := (hb2.cell (p := ⟨w.heap.size, 4, none⟩) hg1).trans j4
        have HR2 := Lib.hid (HR1.out.onOld hb2)
        clear j1 j3 j4 HI1 HR1
        cases hq : goodIns ins
        · have HQ := Lib.hid hq
          clear hq
          go_wp2
          go_ret
          exact ⟨ret_bool (by rw [HE.out, HQ.out]; simp), bx hb0 (bx hb1 hb2)⟩
        · have HQ := Lib.hid hq
          clear hq
          go_wp2_with fail
          refine (table_goodRules rules ins.length _ _ HR2.out).mono ?_
          rintro e w3 ⟨rfl, hb3⟩
          go_wp2
          go_ret
          exact ⟨ret_bool (by rw [HE.out, HQ.out, HN.out, decide_eq_true hp1, decide_eq_true hp7]; rfl), bx hb0 (bx hb1 (bx hb2 hb3))⟩
      · have hp7' : 7 < pol := by omega
        go_wp2
        go_ret
        exact ⟨ret_bool (by rw [HE.out, decide_eq_false (show ¬ pol ≤ 7 by omega)]; simp), bx hb0 hb1⟩
    · have hp1' : pol < 1 := by omega
      go_wp2
      go_ret
      exact ⟨ret_bool (by rw [HE.out, decide_eq_false (show ¬ 1 ≤ pol by omega)]; simp), bx hb0 hb1⟩

set_option maxHeartbeats 400000 in
theorem table_Holds (ng : Bool) (rs : List (Int × Int)) (n : Int) (v : Value) (w : World) (h : Sl Enc.rng w (Old w) rs v) :
    Calls Try.prog 70 #[.agg #[.bool ng, v], .int .i64 n] w fun e w' => e = .returned (.bool (holdsC (ng, rs) n)) ∧ Below w.heap.size w w' := by
  have H := Lib.hid h
  obtain ⟨A, c, rfl, hc1, hc2, -⟩ := h
  unfold maxLen at hc2
  have hb0 := below_alloc1 w (.cells #[.bool ng, .slice A rs.length c] 77)
  have H1 := Lib.hid (H.out.onOld hb0)
  by_cases h0 : rs.length = 0
  · have h0' : (rs.length : Int) = 0 := by omega
    have HE : Hid (holdsC (ng, rs) n = true) := by simp [holdsC, h0, Hid]
    go_enter Try.func70, Try.ntmps70
    go_wp2
    go_ret
    exact ⟨ret_bool HE.out.symm, below_alloc1 _ _⟩
  · have h0' : ((rs.length : Int) == 0) = false := beq_eq_false_iff_ne.2 (by omega)
    have HE : Hid (holdsC (ng, rs) n = (hasB rs n != ng)) := by show _ = _; unfold holdsC; rw [decide_eq_false h0]; rfl
    generalize holdsC (ng, rs) n = G at HE ⊢
    have k0 : (w.alloc (.cells #[.bool ng, .slice A rs.length c] 77)).cell? ⟨w.heap.size, 0, none⟩ = some (.bool ng) := cell_new _ _ _ _ _ rfl
    have k1 : (w.alloc (.cells #[.bool ng, .slice A rs.length c] 77)).cell? ⟨w.heap.size, 1, none⟩ = some (.slice A rs.length c) := cell_new _ _ _ _ _ rfl
    have hg0 : w.heap.size < (w.alloc (.cells #[.bool ng, .slice A rs.length c] 77)).heap.size := by simp
    go_enter Try.func70, Try.ntmps70
    go_wp2_with fail
    generalize w.alloc (.cells #[.bool ng, .slice A rs.length c] 77) = w0 at *
    go_region_held3 (fun w' => w'.cell? ⟨w.heap.size, 0, none⟩ = some (.bool ng) ∧ w'.cell? ⟨w.heap.size, 1, none⟩ = some (.slice A rs.length c)) (first | exact ⟨k0, k1⟩ | exact ⟨j0, j1⟩)
      (first
       | (go_at_call 26; refine (span_Has rs _ n _ ?_).mono ?_; exact H1.out; rintro e w1 ⟨rfl, hb1⟩; have j0 := (hb1.cell (p := ⟨w.heap.size, 0, none⟩) hg0).trans k0; have j1 := (hb1.cell (p := ⟨w.heap.size, 1, none⟩) hg0).trans k1; have hb01 := bx hb0 (undrew hb1); clear hb1))
    all_goals go_wp2
    all_goals go_ret
    all_goals exact ⟨ret_bool (by rw [HE.out]; cases hasB rs n <;> cases ng <;> rfl), hb01⟩

set_option maxHeartbeats 1000000 in
theorem table_matches (cs : List CellD) (y : Int) (l : List Int) (v u : Value) (w : World) (h : Sl Enc.cell w (Old w) cs v) (h' : Sl Enc.int w (Old w) l u) :
    Calls Try.prog 52 #[.agg #[v, .int .i64 y], u] w fun e w' => e = .returned (.bool (matchC cs l)) ∧ Below w.heap.size w w' := by
  have H := Lib.hid h
  have HI := Lib.hid h'
  obtain ⟨A, c, rfl, hc1, hc2, -⟩ := h
  obtain ⟨B, d, rfl, hd1, hd2, -⟩ := h'
  unfold maxLen at hc2 hd2
  have hb0 := below_alloc1 w (.cells #[.slice A cs.length c, .int .i64 y] 43)
  by_cases hn : cs.length = l.length
  · have hne : ((cs.length : Int) != (l.length : Int)) = false := by simp [hn]
    have HN := Lib.hid hn
    clear hn
    go_enter Try.func52, Try.ntmps52
    go_wp2
    go_loopw [16] (fun i wr => ∃ k : Nat, k ≤ cs.length ∧ i = .int .i64 k ∧ Hid (matchC cs l = matchC (cs.drop k) (l.drop k)) ∧ Below w.heap.size w wr) (fun i _ => cs.length - (intOf i).toNat)
    case atStart => exact ⟨0, Nat.zero_le _, rfl, rfl, hb0⟩
    case round =>
      obtain ⟨k, hk, rfl, hf, hb⟩ := hrel
      have hsz := hb.size
      by_cases hlt : k < cs.length
      · have hkl : k < l.length := by have := HN.out; omega
        obtain ⟨b, o, ng, rs, vr, rfl, _, hx, c1, c2, hr⟩ := (H.out.onOld hb).cell_at hlt
        obtain ⟨bi, oi, x, rfl, _, hxi, i1⟩ := (HI.out.onOld hb).num_at hkl
        obtain ⟨Ar, cr, rfl, hr1, hr2⟩ := hr.form
        have hbz := below_alloc1 wr (.cells #[.bool ng, .slice Ar rs.length cr] 77)
        have HR := Lib.hid (hr.onOld hbz)
        have HX := Lib.hid (matchC_at hx.out hxi.out)
        have k0 : (wr.alloc (.cells #[.bool ng, .slice Ar rs.length cr] 77)).cell? ⟨wr.heap.size, 0, none⟩ = some (.bool ng) := cell_new _ _ _ _ _ rfl
        have k1 : (wr.alloc (.cells #[.bool ng, .slice Ar rs.length cr] 77)).cell? ⟨wr.heap.size, 1, none⟩ = some (.slice Ar rs.length cr) := cell_new _ _ _ _ _ rfl
        have hg0 : wr.heap.size < (wr.alloc (.cells #[.bool ng, .slice Ar rs.length cr] 77)).heap.size := by simp
        have hbi : bi < wr.heap.size := World.block_lt_of_cell? wr _ i1
        have k2 := (hbz.cell (p := ⟨bi, oi + k, none⟩) hbi).trans i1
        have hbi' : bi < (wr.alloc (.cells #[.bool ng, .slice Ar rs.length cr] 77)).heap.size := by omega
        have hkl' : (k : Int) < l.length := by omega
        have hk0' : (0 : Int) ≤ k := by omega
        clear hr
        go_wp2_with fail
        generalize wr.alloc (.cells #[.bool ng, .slice Ar rs.length cr] 77) = w0 at *
        clear i1 c1 c2
        go_region_held3 (fun w' => w'.cell? ⟨wr.heap.size, 0, none⟩ = some (.bool ng) ∧ w'.cell? ⟨wr.heap.size, 1, none⟩ = some (.slice Ar rs.length cr) ∧ w'.cell? ⟨bi, oi + k, none⟩ = some (.int .i64 x)) (first | exact ⟨k0, k1, k2⟩ | exact ⟨j0, j1, j2⟩)
          (first
           | (go_at_call 70; refine (table_Holds ng rs x _ _ ?_).mono ?_; exact HR.out; rintro e w1 ⟨rfl, hb1⟩; have j0 := (hb1.cell (p := ⟨wr.heap.size, 0, none⟩) hg0).trans k0; have j1 := (hb1.cell (p := ⟨wr.heap.size, 1, none⟩) hg0).trans k1; have j2 := (hb1.cell (p := ⟨bi, oi + k, none⟩) hbi').trans k2; have hb01 := bx hb (bx hbz (undrew hb1)); clear hb1))
        cases hg : holdsC (ng, rs) x
        · have HG := Lib.hid hg
          clear hg
          go_wp2
          go_ret
          exact ⟨ret_bool (by rw [hf.out, HX.out, HG.out]; rfl), hb01⟩
        · have HG := Lib.hid hg
          clear hg
          go_wp2
          refine ⟨⟨k + 1, by omega, by go_num, ?_, hb01⟩, by simp [intOf]; omega⟩
          show matchC cs l = _
          rw [hf.out, HX.out, HG.out]; rfl
      · go_wp2
        go_ret
        have hf' := hf.out
        rw [List.drop_of_length_le (by omega), List.drop_of_length_le (by have := HN.out; omega)] at hf'
        exact ⟨ret_bool hf'.symm, hb⟩
  · have hne : ((cs.length : Int) != (l.length : Int)) = true := by simp; omega
    have HE := Lib.hid (matchC_ne hn)
    clear hn
    go_enter Try.func52, Try.ntmps52
    go_wp2
    go_ret
    exact ⟨ret_bool HE.out.symm, hb0⟩

theorem infoIntT : (Try.prog.info? 3).map (fun i => (i.zero, i.size, i.bytes)) = some (some (.int .i64 0), 1, 8) := by kernel_rfl
theorem under_intsT : Try.prog.underlying 28 = some (.slice 3) := by kernel_rfl

set_option maxHeartbeats 1000000 in
theorem table_Matches (t : TabD) (l : List Int) (v u : Value) (w : World) (h : TabAt w (Old w) t v) (h' : Sl Enc.int w (Old w) l u) (hs : smallT t) :
    Calls Try.prog 33 #[v, u] w (RowPost Enc.int 3 w.heap.size (idxL 0 t.rules l) w) := by
  obtain ⟨nm, pol, comp, ins, rules⟩ := t
  obtain ⟨vi, vr, rfl, hi, hr⟩ := h
  obtain ⟨_, _, hs3⟩ := hs
  simp only at hi hr hs3 ⊢
  have HI := Lib.hid h'
  have H := Lib.hid hr
  obtain ⟨Ai, ci, rfl, -, -⟩ := hi.form
  obtain ⟨A, c, rfl, hc1, hc2, -⟩ := hr
  obtain ⟨B, d, rfl, hd1, hd2, -⟩ := h'
  unfold maxLen at hc2 hd2
  clear hi
  have hb0 := below_alloc1 w (.cells #[.string nm, .int .i64 pol, .bool comp, .slice Ai ins.length ci, .slice A rules.length c] 25)
  go_enter Try.func33, Try.ntmps33
  go_wp2
  go_loopw [5, 11] (fun r i wr => ∃ k : Nat, k ≤ rules.length ∧ i = .int .i64 k ∧ OwnG Enc.int wr w.heap.size w.heap.size 3 r (idxL 0 (rules.take k) l) ∧ Below w.heap.size w wr) (fun _ i _ => rules.length - (intOf i).toNat)
  case atStart => exact ⟨0, Nat.zero_le _, rfl, OwnG.nil, hb0⟩
  case round =>
    obtain ⟨k, hk, rfl, hown, hb⟩ := hrel
    have hsz := hb.size
    by_cases hlt : k < rules.length
    · obtain ⟨b, o, cs, x, vc, rfl, _, hx, c1, c2, hr⟩ := (H.out.onOld hb).rule_at hlt
      obtain ⟨Ar, cr, rfl, hr1, hr2⟩ := hr.form
      have hbz := below_alloc1 wr (.cells #[.slice Ar cs.length cr, .int .i64 x] 43)
      have HR := Lib.hid (hr.onOld hbz)
      have HJ := Lib.hid ((HI.out.onOld hb).onOld hbz)
      have HT := Lib.hid (idxL_take hx.out l)
      have HO := Lib.hid hown
      have HN : Hid ((idxL 0 (rules.take k) l).length ≤ k) := by have := idxL_length (rules.take k) l 0; rw [List.length_take] at this; show _ ≤ _; omega
      clear hr hown
      go_wp2_with fail
      refine (table_matches cs x l _ _ _ HR.out HJ.out).mono ?_
      rintro e w1 ⟨rfl, hb1⟩
      have hbz1 := bx hbz hb1
      have hb01 := bx hb hbz1
      have hsz1 := hb01.size
      cases hg : matchC cs l
      · have HG := Lib.hid hg
        clear hg
        go_wp2
        refine ⟨⟨k + 1, by omega, by go_num, ?_, hb01⟩, by simp [intOf]; omega⟩
        rw [HT.out, HG.out]
        simpa using HO.out.next hbz1
      · have HG := Lib.hid hg
        clear hg
        have HO1 := Lib.hid ((HO.out.next hbz1).alloc (.cells #[.int .i64 (k : Int)] 3))
        have HY : Hid (Enc.int.rd (w1.alloc (.cells #[.int .i64 (k : Int)] 3)) (Off w.heap.size (w1.alloc (.cells #[.int .i64 (k : Int)] 3)) u5) (k : Int) [.int .i64 (k : Int)]) := rfl
        have hb2 : Below w.heap.size w (w1.alloc (.cells #[.int .i64 (k : Int)] 3)) := hb01.alloc hsz1 _
        go_wp2_with (at_builtin; refine wpList_append_one (E := Enc.int) _ rfl _ _ 28 rfl w.heap.size w.heap.size 3 8 (.int .i64 0) under_intsT infoIntT rfl (by decide) _ _ rfl HO1.out ⟨w1.heap.size, 0, none⟩ (k : Int) [.int .i64 (k : Int)] rfl HY.out (cell_one_new _ _ _) (by have := HN.out; omega) (by have := HN.out; unfold maxLen; omega) (by simp; omega) ?_; intro v' w3 hown' hgrow3 _)
        refine ⟨⟨k + 1, by omega, by go_num, ?_, hb2.grown hgrow3 (by simp; omega) (fun _ hr => (HO.out.lt _ hr).1)⟩, by simp [intOf]; omega⟩
        rw [HT.out, HG.out]
        exact hown'
    · go_wp2
      go_ret
      have e : rules.take k = rules := List.take_of_length_le (by omega)
      rw [e] at hown
      exact ⟨_, rfl, hown, hb⟩

end Go.Proofs.Ythnfkghgaagaiab
