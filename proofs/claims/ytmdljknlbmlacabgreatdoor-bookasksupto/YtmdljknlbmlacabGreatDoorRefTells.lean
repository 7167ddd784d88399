/- ratebookref.MatchesOf, SameNumbers and SpanOf, each as a Lean function of the data that its arguments read as. Conditions: argument slices read as lists in old memory; the indices of all rules fit into 2^47 bytes; for SpanOf the table is good. -/
import Derived.Test.YtmdljknlbmlacabGreatDoorRefArea
import Derived.BigRegion
import Derived.WalkMore
namespace Go.Proofs.YtmdljknlbmlacabGreatDoor
open Go.RowKit

set_option maxHeartbeats 2000000 in
theorem ref_MatchesOf (t : TabD) (l : List Int) (v u : Value) (w : World) (h : TabAt w (Old w) t v) (h' : Sl Enc.int w (Old w) l u) (hs : smallT t) :
    Calls Tryz.prog 66 #[v, u] w (RowPost Enc.int 3 w.heap.size (idxL 0 t.rules l) w) := by
  obtain ⟨nm, pol, comp, ins, rules⟩ := t
  obtain ⟨vi, vr, rfl, hi, hr⟩ := h
  obtain ⟨_, _, hs3⟩ := hs
  simp only at hi hr hs3 ⊢
  have HI := Lib.hid h'
  have H := Lib.hid hr
  obtain ⟨Ai, ci, rfl, -, -⟩ := hi.form
  obtain ⟨A, c, rfl, hc1, hc2, -⟩ := hr
  obtain ⟨B, d, rfl, hd1, hd2, -⟩ := h'
  unfold maxLen at hc2 hd2
  clear hi
  have hb0 := below_alloc1 w (.cells #[.string nm, .int .i64 pol, .bool comp, .slice Ai ins.length ci, .slice A rules.length c] 59)
  go_enter Tryz.func66, Tryz.ntmps66
  go_wp2
  go_step3
  go_wp2
  go_step3
  go_wp2
  go_loopw [5, 13] (fun r i wr => ∃ k : Nat, k ≤ rules.length ∧ i = .int .i64 k ∧ OwnG Enc.int wr w.heap.size w.heap.size 3 r (idxL 0 (rules.take k) l) ∧ Below w.heap.size w wr) (fun _ i _ => rules.length - (intOf i).toNat)
  case atStart => exact ⟨0, Nat.zero_le _, rfl, OwnG.nil, hb0⟩
  case round =>
    rename World => wo
    obtain ⟨k, hk, rfl, hown, hb⟩ := hrel
    have hsz := hb.size
    by_cases hlt : k < rules.length
    · obtain ⟨b, o, cs, x, vc, rfl, _, hx, c1, c2, hr⟩ := (H.out.onOld hb).rule_at hlt
      obtain ⟨Ar, cr, rfl, hr1, hr2⟩ := hr.form
      have hr2' : cr ≤ 2 ^ 63 - 1 := hr2
      have hbz := below_alloc1 wo (.cells #[.slice Ar cs.length cr, .int .i64 x] 82)
      have HR := Lib.hid (hr.onOld hbz)
      have HJ := Lib.hid ((HI.out.onOld hb).onOld hbz)
      have HT := Lib.hid (idxL_take hx.out l)
      have HO := Lib.hid hown
      have HN : Hid ((idxL 0 (rules.take k) l).length ≤ k) := by have := idxL_length (rules.take k) l 0; rw [List.length_take] at this; show _ ≤ _; omega
      have q0 : (wo.alloc (.cells #[.slice Ar cs.length cr, .int .i64 x] 82)).cell? ⟨wo.heap.size, 0, none⟩ = some (.slice Ar cs.length cr) := cell_new _ _ _ _ _ rfl
      have hb01 := bx hb hbz
      clear hr hown
      generalize hwz : wo.alloc (.cells #[.slice Ar cs.length cr, .int .i64 x] 82) = wz at *
      by_cases hln : cs.length = l.length
      · have hne : ((cs.length : Int) != (l.length : Int)) = false := by simp [hln]
        have HLN := Lib.hid hln
        clear hln
        go_wp2
        clear hwz
        go_loopw [27] (fun i wi => ∃ j : Nat, j ≤ cs.length ∧ i = .int .i64 j ∧ Hid (matchC cs l = matchC (cs.drop j) (l.drop j)) ∧ Below wz.heap.size wz wi) (fun i _ => cs.length - (intOf i).toNat)
        case atStart => exact ⟨0, Nat.zero_le _, rfl, rfl, Below.refl _ _⟩
        case round =>
          rename World => wi
          obtain ⟨j, hj, rfl, hf, hbi⟩ := hrel
          by_cases hjl : j < cs.length
          · have hjl2 : j < l.length := by have := HLN.out; omega
            obtain ⟨b2, o2, ng, rs, vr2, rfl, _, hx2, d1, d2, hr2⟩ := (HR.out.onOld hbi).cell_at hjl
            obtain ⟨bi, oi, y, rfl, _, hy, i1⟩ := (HJ.out.onOld hbi).num_at hjl2
            obtain ⟨Ar2, cr2, rfl, hr21, hr22⟩ := hr2.form
            have hbz2 := below_alloc1 wi (.cells #[.bool ng, .slice Ar2 rs.length cr2] 79)
            have e0 : (wi.alloc (.cells #[.bool ng, .slice Ar2 rs.length cr2] 79)).cell? ⟨wi.heap.size, 0, none⟩ = some (.bool ng) := cell_new _ _ _ _ _ rfl
            have e1 : (wi.alloc (.cells #[.bool ng, .slice Ar2 rs.length cr2] 79)).cell? ⟨wi.heap.size, 1, none⟩ = some (.slice Ar2 rs.length cr2) := cell_new _ _ _ _ _ rfl
            have hgi : wi.heap.size < (wi.alloc (.cells #[.bool ng, .slice Ar2 rs.length cr2] 79)).heap.size := by simp
            have hbi2 : bi < wi.heap.size := World.block_lt_of_cell? wi _ i1
            have e2 := (hbz2.cell (p := ⟨bi, oi + j, none⟩) hbi2).trans i1
            have hbi3 : bi < (wi.alloc (.cells #[.bool ng, .slice Ar2 rs.length cr2] 79)).heap.size := by omega
            have HR2 := Lib.hid (hr2.onOld hbz2)
            have HX2 := Lib.hid (matchC_at hx2.out hy.out)
            have hjI : (j : Int) < l.length := by omega
            have hj0 : (0 : Int) ≤ j := by omega
            clear hr2
            go_wp2_with fail
            generalize wi.alloc (.cells #[.bool ng, .slice Ar2 rs.length cr2] 79) = wj at *
            clear i1 d1 d2
            go_region_held3 (fun w' => w'.cell? ⟨wi.heap.size, 0, none⟩ = some (.bool ng) ∧ w'.cell? ⟨wi.heap.size, 1, none⟩ = some (.slice Ar2 rs.length cr2) ∧ w'.cell? ⟨bi, oi + j, none⟩ = some (.int .i64 y)) (first | exact ⟨e0, e1, e2⟩ | exact ⟨f0, f1, f2⟩)
              (first
               | (go_at_call 98; refine (ref_CellHolds ng rs y _ _ ?_).mono ?_; exact HR2.out; rintro e w5 ⟨rfl, hb5⟩; have f0 := (hb5.cell (p := ⟨wi.heap.size, 0, none⟩) hgi).trans e0; have f1 := (hb5.cell (p := ⟨wi.heap.size, 1, none⟩) hgi).trans e1; have f2 := (hb5.cell (p := ⟨bi, oi + j, none⟩) hbi3).trans e2; have hb5' := bx hbi (bx hbz2 (undrew hb5)); clear hb5))
            cases hg : holdsC (ng, rs) y
            · have HG := Lib.hid hg
              have HMM : Hid (matchC cs l = false) := by show _ = _; rw [hf.out, HX2.out, HG.out]; rfl
              clear hg
              go_wp2
              refine ⟨⟨k + 1, by omega, by go_num, ?_, bx hb01 hb5'⟩, by simp [intOf]; omega⟩
              rw [HT.out, HMM.out]
              simpa using HO.out.next (bx hbz hb5')
            · have HG := Lib.hid hg
              clear hg
              go_wp2
              refine ⟨⟨j + 1, by omega, by go_num, ?_, hb5'⟩, by simp [intOf]; omega⟩
              show matchC cs l = _
              rw [hf.out, HX2.out, HG.out]; rfl
          · have HMM : Hid (matchC cs l = true) := by
              show _ = _
              rw [hf.out, List.drop_of_length_le (by omega), List.drop_of_length_le (by have := HLN.out; omega)]; rfl
            have hbz1 := bx hbz hbi
            have hb1i := bx hb hbz1
            have hsz1 := hb1i.size
            have HO1 := Lib.hid ((HO.out.next hbz1).alloc (.cells #[.int .i64 (k : Int)] 3))
            have HY : Hid (Enc.int.rd (wi.alloc (.cells #[.int .i64 (k : Int)] 3)) (Off w.heap.size (wi.alloc (.cells #[.int .i64 (k : Int)] 3)) u5) (k : Int) [.int .i64 (k : Int)]) := rfl
            have hb2 : Below w.heap.size w (wi.alloc (.cells #[.int .i64 (k : Int)] 3)) := hb1i.alloc hsz1 _
            go_wp2_with (at_builtin; refine wpList_append_one (E := Enc.int) _ rfl _ _ 27 rfl w.heap.size w.heap.size 3 8 (.int .i64 0) under_intsT infoIntT rfl (by decide) _ _ rfl HO1.out ⟨wi.heap.size, 0, none⟩ (k : Int) [.int .i64 (k : Int)] rfl HY.out (cell_one_new _ _ _) (by have := HN.out; omega) (by have := HN.out; unfold maxLen; omega) (by simp; omega) ?_; intro v' w3 hown' hgrow3 _)
            refine ⟨⟨k + 1, by omega, by go_num, ?_, hb2.grown hgrow3 (by simp; omega) (fun _ hr => (HO.out.lt _ hr).1)⟩, by simp [intOf]; omega⟩
            rw [HT.out, HMM.out]
            exact hown'
      · have hne : ((cs.length : Int) != (l.length : Int)) = true := by simp; omega
        have HMM := Lib.hid (matchC_ne hln)
        clear hln
        go_wp2
        refine ⟨⟨k + 1, by omega, by go_num, ?_, hb01⟩, by simp [intOf]; omega⟩
        rw [HT.out, HMM.out]
        simpa using HO.out.next hbz
    · go_wp2
      go_ret
      have e : rules.take k = rules := List.take_of_length_le (by omega)
      rw [e] at hown
      exact ⟨_, rfl, hown, hb⟩

set_option maxHeartbeats 400000 in
theorem ref_SameNumbers (a b : List Int) (va vb : Value) (w : World) (ha : Sl Enc.int w (Old w) a va) (hb : Sl Enc.int w (Old w) b vb) :
    Calls Tryz.prog 9 #[va, vb] w fun e w' => e = .returned (.bool (decide (a = b))) ∧ Below w.heap.size w w' := by
  have HA := Lib.hid ha
  have HB := Lib.hid hb
  obtain ⟨A, c, rfl, hc1, hc2, -⟩ := ha
  obtain ⟨B, d, rfl, hd1, hd2, -⟩ := hb
  unfold maxLen at hc2 hd2
  by_cases hlen : a.length = b.length
  · have hne : ((a.length : Int) != (b.length : Int)) = false := by simp [hlen]
    have HL := Lib.hid hlen
    clear hlen
    go_enter Tryz.func9, Tryz.ntmps9
    go_wp2
    go_loopw [13] (fun i wr => ∃ k : Nat, k ≤ a.length ∧ i = .int .i64 k ∧ Hid (a.take k = b.take k) ∧ Below w.heap.size w wr) (fun i _ => a.length - (intOf i).toNat)
    case atStart => exact ⟨0, Nat.zero_le _, rfl, rfl, Below.refl _ _⟩
    case round =>
      obtain ⟨k, hk, rfl, hT, hbl⟩ := hrel
      by_cases hka : k < a.length
      · have hkb : k < b.length := by have := HL.out; omega
        obtain ⟨ba, oa, x, rfl, _, hx, a1⟩ := (HA.out.onOld hbl).num_at hka
        obtain ⟨bb, ob, y, rfl, _, hy, b1⟩ := (HB.out.onOld hbl).num_at hkb
        have h1 : (k : Int) < a.length := by omega
        have h2 : (k : Int) < b.length := by omega
        have h3 : (0 : Int) ≤ k := by omega
        by_cases hxy : x = y
        · have hq : (x != y) = false := by simp [hxy]
          have HV : Hid (a.take (k + 1) = b.take (k + 1)) := by show _ = _; rw [take_at hx.out, take_at hy.out, hT.out, hxy]
          clear hxy
          go_wp2_with fail
          go_quiet (fail)
          go_wp2
          exact ⟨⟨k + 1, by omega, by go_num, HV, below_drewN hbl _⟩, by simp [intOf]; omega⟩
        · have hq : (x != y) = true := by simpa using hxy
          have HV : Hid (decide (a = b) = false) := decide_eq_false fun e => hxy (by
            have := hx.out; rw [e] at this; exact Option.some.inj (this.symm.trans hy.out))
          go_wp2_with fail
          go_quiet (fail)
          go_wp2
          go_ret
          exact ⟨ret_bool HV.out.symm, below_drewN hbl _⟩
      · have e : a = b := by
          have h0 := hT.out
          rw [List.take_of_length_le (by omega), List.take_of_length_le (by have := HL.out; omega)] at h0
          exact h0
        have HV := Lib.hid (decide_eq_true e)
        clear e
        go_wp2
        go_ret
        exact ⟨ret_bool HV.out.symm, hbl⟩
  · have hne : ((a.length : Int) != (b.length : Int)) = true := by simp; omega
    have HV : Hid (decide (a = b) = false) := decide_eq_false fun e => hlen (by rw [e])
    clear hlen
    go_enter Tryz.func9, Tryz.ntmps9
    go_wp2
    go_ret
    exact ⟨ret_bool HV.out.symm, Below.refl _ _⟩

end Go.Proofs.YtmdljknlbmlacabGreatDoor
