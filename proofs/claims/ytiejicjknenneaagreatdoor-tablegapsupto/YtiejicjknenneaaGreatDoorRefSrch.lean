/- ratebookref.search, as a Lean function of what its arguments read as. Conditions: argument slices read as lists in old memory; the box is one of at most three good sets, the rules are those of a good table; what is asked is a Lean function of the input. -/
import Derived.Test.YtiejicjknenneaaGreatDoorRefWalk
import Derived.Test.YtiejicjknenneaaGreatDoorRefSets2
import Derived.Test.YtiejicjknenneaaGreatDoorTableG
import Derived.Laws.EntriesVeiled
namespace Go.Proofs.YtiejicjknenneaaGreatDoor
open Go.RowKit

def cellR (k : Nat) (r : RuleD) : List (Int × Int) := (r.1.getD k (false, [])).2
theorem colSets_eq (s : List (Int × Int)) (rules : List RuleD) (k : Nat) : colSets s rules k = s :: rules.map (cellR k) := rfl
/-- the variable at the block I that holds the lists of numbers -/
structure AtV (w : World) (I base : Nat) (v : Value) (l : List (List Int)) : Prop where
  lt : I < w.heap.size
  cell : w.cell? ⟨I, 0, none⟩ = some v
  fz : w.frozen? ⟨I, 0, none⟩ = false
  own : OwnG Enc.int.slice w base base 30 v l
theorem AtV.keep {w w' : World} {I base : Nat} {v : Value} {l : List (List Int)} (h : AtV w I base v l) (hb : Below w.heap.size w w') : AtV w' I base v l :=
  ⟨Nat.lt_of_lt_of_le h.lt hb.size, (hb.cell (p := ⟨I, 0, none⟩) h.lt).trans h.cell, (hb.frozen (p := ⟨I, 0, none⟩) h.lt).trans h.fz, h.own.next hb⟩
theorem FrI.cell {I base : Nat} {w w' : World} (h : FrI I base w w') {p : Addr} (h1 : p.block < base) (h2 : p.block ≠ I) {v : Value} (hc : w.cell? p = some v) : w'.cell? p = some v := (World.cell?_of_block (h.block _ h1 h2)).trans hc
theorem cols_of {rules : List RuleD} : ∀ {a : BoxD} {at' : List (List Int)} (c : Nat), at'.length = a.length → (∀ j s l, a[j]? = some s → at'[j]? = some l → ∃ E, EdgesOf (colSets s rules (c + j)) E ∧ l = E.filter (hasB s)) → Cols rules c a at'
  | [], [], _, _, _ => trivial
  | [], _ :: _, _, h, _ => by simp at h
  | _ :: _, [], _, h, _ => by simp at h
  | s :: a, l :: at', c, hl, h => by
    refine ⟨h 0 s l rfl rfl, cols_of (c + 1) (by simpa using hl) fun j s' l' hs hl' => ?_⟩
    have := h (j + 1) s' l' (by simpa using hs) (by simpa using hl')
    rw [show c + 1 + j = c + (j + 1) by omega]
    exact this
theorem x_under_ii : Tryz.prog.underlying 71 = some (.slice 30) := by kernel_rfl
theorem x_info_ii : (Tryz.prog.info? 30).map (fun i => (i.zero, i.size, i.bytes)) = some (some (.slice none 0 0), 1, 24) := by kernel_rfl
theorem x_under_rr : Tryz.prog.underlying 26 = some (.slice 41) := by kernel_rfl
theorem x_info_rr : (Tryz.prog.info? 41).map (fun i => (i.zero, i.size, i.bytes)) = some (some (.slice none 0 0), 1, 24) := by kernel_rfl
theorem filter_at {α : Type} {p : α → Bool} {l : List α} {k : Nat} {x : α} (h : l[k]? = some x) : (l.take (k + 1)).filter p = (l.take k).filter p ++ (if p x then [x] else []) := by
  rw [take_at h, List.filter_append]
  congr 1
  cases hp : p x <;> simp [hp]
def SrchPost (f : List Int → Bool) (rules : List RuleD) (a : BoxD) (w : World) (e : Ending) (w' : World) : Prop :=
  ∃ at' vr, Cols rules 0 a at' ∧ e = .returned (.tuple #[vr, .bool (srchV f at').2]) ∧ Sl Enc.int w' (From w.heap.size w') (srchV f at').1 vr ∧ Below w.heap.size w w'

set_option maxRecDepth 100000 in
set_option maxHeartbeats 2000000 in
theorem ref_search (t : TabD) (a : BoxD) (v va : Value) (fid : Nat) (cb : Array Value) (f : List Int → Bool) (w : World) (h : TabAt w (Old w) t v) (h' : Sl Enc.rng.slice w (Old w) a va)
    (ha : a.length ≤ 3) (hga : ∀ s ∈ a, goodB s = true) (hrl : t.rules.length ≤ 6) (hrc : ∀ r ∈ t.rules, r.1.length = a.length ∧ ∀ c ∈ r.1, goodB c.2 = true)
    (eg : ∀ args w, (callFunc fid args).run Tryz.prog w = .ok (.enter fid args) w)
    (hf : ∀ (l : List Int) (v : Value) (W : World), Below w.heap.size w W → l.length ≤ 3 → Sl Enc.int W (Old W) l v → Calls Tryz.prog fid (#[v] ++ cb) W fun e w' => e = .returned (.bool (f l)) ∧ Below W.heap.size W w') :
    Calls Tryz.prog 20 #[v, va, .func (.func fid) #[] cb] w (SrchPost f t.rules a w) := by
  obtain ⟨nm, pol, comp, ins, rules⟩ := t
  obtain ⟨vi, vr, rfl, hi', hr'⟩ := h
  simp only at hi' hr' hrl hrc
  obtain ⟨Ai, ci, rfl, -, -⟩ := hi'.form
  obtain ⟨Ar, cr, rfl, hr1, hr2⟩ := hr'.form
  obtain ⟨Aa, ca, rfl, ha1, ha2⟩ := h'.form
  unfold maxLen at hr2 ha2
  have HF := Lib.hid hf
  have HG := Lib.hid hga
  have HRC := Lib.hid hrc
  clear hf hga hrc hi'
  have hwa := below_alloc1 w (.cells #[.string nm, .int .i64 pol, .bool comp, .slice Ai ins.length ci, .slice Ar rules.length cr] 25)
  have ka : (w.alloc (.cells #[.string nm, .int .i64 pol, .bool comp, .slice Ai ins.length ci, .slice Ar rules.length cr] 25)).cell? ⟨w.heap.size, 4, none⟩ = some (.slice Ar rules.length cr) := cell_new _ _ _ _ _ rfl
  have za : (w.alloc (.cells #[.string nm, .int .i64 pol, .bool comp, .slice Ai ins.length ci, .slice Ar rules.length cr] 25)).heap.size = w.heap.size + 1 := by simp
  generalize hwae : w.alloc (.cells #[.string nm, .int .i64 pol, .bool comp, .slice Ai ins.length ci, .slice Ar rules.length cr] 25) = wa at *
  have hwb := below_alloc1 wa (.cells #[.func (.func fid) #[] cb] 53)
  have kb : (wa.alloc (.cells #[.func (.func fid) #[] cb] 53)).cell? ⟨w.heap.size + 1, 0, none⟩ = some (.func (.func fid) #[] cb) := by rw [← za]; exact cell_new _ _ _ _ _ rfl
  have zb : (wa.alloc (.cells #[.func (.func fid) #[] cb] 53)).heap.size = w.heap.size + 2 := by simp; omega
  have ka2 := (hwb.cell (p := ⟨w.heap.size, 4, none⟩) (by show w.heap.size < _; omega)).trans ka
  generalize hwbe : wa.alloc (.cells #[.func (.func fid) #[] cb] 53) = wb at *
  have hwc := below_alloc1 wb (.cells #[.slice none 0 0] 71)
  have V0 : AtV (wb.alloc (.cells #[.slice none 0 0] 71)) (w.heap.size + 2) (w.heap.size + 3) (.slice none 0 0) [] := by
    rw [← zb]
    exact ⟨by simp, cell_new _ _ _ _ _ rfl, by simp, OwnG.nil⟩
  have zc : (wb.alloc (.cells #[.slice none 0 0] 71)).heap.size = w.heap.size + 3 := by simp; omega
  have ka3 := (hwc.cell (p := ⟨w.heap.size, 4, none⟩) (by show w.heap.size < _; omega)).trans ka2
  have kb3 := (hwc.cell (p := ⟨w.heap.size + 1, 0, none⟩) (by show w.heap.size + 1 < _; omega)).trans kb
  generalize hwce : wb.alloc (.cells #[.slice none 0 0] 71) = wc at *
  have BC := Lib.hid (bx (bx hwa hwb) hwc)
  have HA := Lib.hid h'
  have HR := Lib.hid hr'
  have KA := Lib.hid ka3
  have KB := Lib.hid kb3
  have VV0 := Lib.hid V0
  clear h' hr' hwa hwb hwc ka ka2 ka3 kb kb3 V0
  go_enter Tryz.func20, Tryz.ntmps20
  go_wp2
  clear hwae hwbe hwce
  go_loopw [20] (fun i wr => ∃ (k : Nat) (vat : Value) (at' : List (List Int)), k ≤ a.length ∧ i = .int .i64 k ∧ at'.length = k ∧ Hid (∀ j s l, a[j]? = some s → at'[j]? = some l → ∃ E, EdgesOf (colSets s rules j) E ∧ l = E.filter (hasB s)) ∧ Hid (AtV wr (w.heap.size + 2) (w.heap.size + 3) vat at') ∧ Hid (FrI (w.heap.size + 2) (w.heap.size + 3) wc wr)) (fun i _ => a.length - (intOf i).toNat)
  case atStart => exact ⟨0, _, [], Nat.zero_le _, rfl, rfl, fun j s l _ hl => by simp at hl, VV0, FrI.refl _ _ _⟩
  case round =>
    obtain ⟨k, vat, at', hk, rfl, hal, hC, HV, HFr⟩ := hrel
    have HAL := Lib.hid hal
    have hal3 : at'.length ≤ 3 := by omega
    clear hal
    have hzr : w.heap.size + 3 ≤ wr.heap.size := by have := HFr.out.size; omega
    have BW : Hid (Below w.heap.size w wr) := ⟨HFr.out.os.trans BC.out.os, HFr.out.tape.trans BC.out.tape, HFr.out.output.trans BC.out.output, by omega, fun j hj => (HFr.out.block j (by omega) (by omega)).trans (BC.out.block j hj)⟩
    by_cases hlt : k < a.length
    · obtain ⟨ba, oa, s, us, rfl, _, hx, cu, hss⟩ := (HA.out.onOld BW.out).sl_at hlt
      obtain ⟨As, cs, rfl, hs1, hs2⟩ := hss.form
      have hgs := HG.out s (List.mem_of_getElem? hx.out)
      have HGS := Lib.hid hgs
      have c4 := HFr.out.cell (p := ⟨w.heap.size, 4, none⟩) (by show w.heap.size < _; omega) (by show w.heap.size ≠ _; omega) KA.out
      have HS := Lib.hid hss
      have hk0 : (0 : Int) ≤ k := by omega
      have hk1 : (k : Int) < a.length := by omega
      have hw1 := below_alloc1 wr (.cells #[.slice As s.length cs] 41)
      have O1 : Hid (OwnG Enc.rng.slice (wr.alloc (.cells #[.slice As s.length cs] 41)) wr.heap.size 0 41 (.slice (some ⟨wr.heap.size, 0, none⟩) 1 1) [s]) := by
        refine OwnG.lit (E := Enc.rng.slice) wr [s] #[.slice As s.length cs] (Nat.le_refl _) (by unfold maxLen; simp) rfl (Elems.one ⟨_, rfl, ?_⟩)
        exact (hss.below (B := wr.heap.size) (fun _ h => h) hw1).more fun k hk => ⟨Nat.zero_le _, hk⟩
      have d4 := (hw1.cell (p := ⟨w.heap.size, 4, none⟩) (by show w.heap.size < _; omega)).trans c4
      have HRr := Lib.hid (HR.out.onOld BW.out)
      clear hss hgs
      go_wp2
      clear d4
      generalize wr.alloc (.cells #[.slice As s.length cs] 41) = w1 at *
      go_loopw [10, 31] (fun u i wi => ∃ j : Nat, j ≤ rules.length ∧ i = .int .i64 j ∧ Hid (OwnG Enc.rng.slice wi wr.heap.size 0 41 u (s :: (rules.take j).map (cellR k))) ∧ Hid (Below wr.heap.size wr wi)) (fun _ i _ => rules.length - (intOf i).toNat)
      case atStart => exact ⟨0, Nat.zero_le _, rfl, O1, hw1⟩
      case round =>
        rename World => wi
        obtain ⟨j, hj, rfl, HO, HB⟩ := hrel
        have hszi := HB.out.size
        by_cases hjl : j < rules.length
        · obtain ⟨br, or_, cl, x, vc, rfl, _, hxr, e1, e2, hcl⟩ := (HRr.out.onOld HB.out).rule_at hjl
          obtain ⟨hcl1, hcl2⟩ := HRC.out _ (List.mem_of_getElem? hxr.out)
          simp only at hcl1
          obtain ⟨Ac, cc, rfl, hc1, hc2⟩ := hcl.form
          have hkc : k < cl.length := by omega
          clear hcl1 hcl2
          obtain ⟨bc, oc, ng, rs, vrs, rfl, _, hxc, g1, g2, hrs⟩ := hcl.cell_at hkc
          obtain ⟨Aq, cq, rfl, hq1, hq2⟩ := hrs.form
          have hkc1 : (k : Int) < cl.length := by omega
          have HT : Hid ((rules.take (j + 1)).map (cellR k) = (rules.take j).map (cellR k) ++ [rs]) := by
            show _ = _
            rw [take_at hxr.out, List.map_append]
            congr 1
            simp only [List.map_cons, List.map_nil]
            unfold cellR
            simp only [List.getD, hxc.out, Option.getD_some]
          have hN : (s :: (rules.take j).map (cellR k)).length = j + 1 := by simp only [List.length_cons, List.length_map, List.length_take]; omega
          have HN := Lib.hid hN
          have hbz := below_alloc1 wi (.cells #[.slice (some ⟨bc, oc, none⟩) cl.length cc, .int .i64 x] 40)
          have i0 : (wi.alloc (.cells #[.slice (some ⟨bc, oc, none⟩) cl.length cc, .int .i64 x] 40)).cell? ⟨wi.heap.size, 0, none⟩ = some (.slice (some ⟨bc, oc, none⟩) cl.length cc) := cell_new _ _ _ _ _ rfl
          have i1 := (hbz.cell (p := ⟨bc, oc + k * 2 + 1, none⟩) (World.block_lt_of_cell? wi _ g2)).trans g2
          have OZ := Lib.hid (HO.out.next hbz)
          have hww := below_alloc1 (wi.alloc (.cells #[.slice (some ⟨bc, oc, none⟩) cl.length cc, .int .i64 x] 40)) (.cells #[.slice Aq rs.length cq] 41)
          have OW := Lib.hid (OZ.out.next hww)
          have hz2 : wr.heap.size ≤ ((wi.alloc (.cells #[.slice (some ⟨bc, oc, none⟩) cl.length cc, .int .i64 x] 40)).alloc (.cells #[.slice Aq rs.length cq] 41)).heap.size := Nat.le_trans hszi (Nat.le_trans hbz.size hww.size)
          have BZ := Lib.hid (bx (bx HB.out hbz) hww)
          -- the cell's ranges lie in memory ahead of the row
          obtain ⟨br', or', cl', x', vc', er, _, hxr', f1, f2, hcl'⟩ := HRr.out.rule_at hjl
          obtain ⟨rfl, rfl⟩ : cl' = cl ∧ x' = x := by
            have e := hxr.out.symm.trans hxr'.out
            injection e with e
            injection e with e1 e2
            exact ⟨e1.symm, e2.symm⟩
          obtain ⟨rfl, rfl⟩ := some_addr er
          have ev : vc' = .slice (some ⟨bc, oc, none⟩) cl'.length cc := by
            have := (HB.out.cell (p := ⟨br, or_ + j * 2, none⟩) (World.block_lt_of_cell? wr _ f1)).trans f1
            rw [e1] at this
            exact (Option.some.inj this).symm
          subst ev
          obtain ⟨bc', oc', ng', rs', vrs', ec, _, hxc', f3, f4, hrs'⟩ := hcl'.cell_at hkc
          obtain ⟨rfl, rfl⟩ := some_addr ec
          obtain ⟨rfl, rfl⟩ : ng' = ng ∧ rs' = rs := by
            have e := hxc.out.symm.trans hxc'.out
            injection e with e
            injection e with e1 e2
            exact ⟨e1.symm, e2.symm⟩
          have ew : vrs' = .slice Aq rs'.length cq := by
            have := (HB.out.cell (p := ⟨bc, oc + k * 2 + 1, none⟩) (World.block_lt_of_cell? wr _ f4)).trans f4
            rw [g2] at this
            exact (Option.some.inj this).symm
          subst ew
          have HY : Hid (Enc.rng.slice.rd ((wi.alloc (.cells #[.slice (some ⟨bc, oc, none⟩) cl'.length cc, .int .i64 x'] 40)).alloc (.cells #[.slice Aq rs'.length cq] 41)) (Off 0 ((wi.alloc (.cells #[.slice (some ⟨bc, oc, none⟩) cl'.length cc, .int .i64 x'] 40)).alloc (.cells #[.slice Aq rs'.length cq] 41)) u10) rs' [.slice Aq rs'.length cq]) :=
            ⟨_, rfl, (hrs'.below (B := wr.heap.size) (fun _ h => h) BZ.out).more (off_old HO.out (Nat.le_refl _) hz2)⟩
          have hzz : (wi.alloc (.cells #[.slice (some ⟨bc, oc, none⟩) cl'.length cc, .int .i64 x'] 40)).heap.size = wi.heap.size + 1 := by simp
          have hnew : Hid (∀ j u, [Value.slice Aq rs'.length cq][j]? = some u → ((wi.alloc (.cells #[.slice (some ⟨bc, oc, none⟩) cl'.length cc, .int .i64 x'] 40)).alloc (.cells #[.slice Aq rs'.length cq] 41)).cell? ((⟨wi.heap.size + 1, 0, none⟩ : Addr).add j) = some u) := by rw [← hzz]; exact cell_one_newI _ _ _
          clear hN hcl hcl' hrs hrs' hww f1 f2 f3 f4 er ec hbz hzz
          go_wp2_with (at_builtin; refine wpList_append_one (E := Enc.rng.slice) _ rfl _ _ 26 rfl wr.heap.size 0 41 24 (.slice none 0 0) x_under_rr x_info_rr rfl (by decide) _ _ rfl OW.out ⟨wi.heap.size + 1, 0, none⟩ rs' [.slice Aq rs'.length cq] rfl HY.out hnew.out (by rw [HN.out]; omega) (by rw [HN.out]; unfold maxLen; omega) hz2 ?_; intro v' w6 hown' hgrow6 _)
          have hbel := below_of_grown hgrow6 hz2 (fun k hk => (OW.out.lt k hk).1)
          refine ⟨⟨j + 1, by omega, by go_num, ?_, BZ.out.trans hbel⟩, by simp [intOf]; omega⟩
          show OwnG _ _ _ _ _ _ _
          rw [HT.out, ← List.cons_append]
          exact hown'
        · have ej : rules.take j = rules := List.take_of_length_le (by omega)
          have HO' := HO.out
          rw [ej, ← colSets_eq] at HO'
          obtain ⟨Au, cu', eu, -, -, -⟩ := HO'.form
          have hNl : (colSets s rules k).length = rules.length + 1 := by rw [colSets_eq]; simp
          rw [hNl] at eu
          subst eu
          have HSe := Lib.hid ((HO'.sl (Nat.zero_le _)).more (fun _ h => h.2) : Sl Enc.rng.slice wi (Old wi) (colSets s rules k) _)
          have hlo : Hid (∀ q, q ∈ colSets s rules k → loIn q) := by
            intro q hq
            rw [colSets_eq] at hq
            rcases List.mem_cons.1 hq with rfl | hq
            · exact loIn_of_good HGS.out
            · obtain ⟨r, hr, rfl⟩ := List.mem_map.1 hq
              obtain ⟨hl1, hl2⟩ := HRC.out r hr
              have hkr : k < r.1.length := by omega
              have : cellR k r = r.1[k].2 := by unfold cellR; simp [List.getD, List.getElem?_eq_getElem hkr]
              rw [this]
              exact loIn_of_good (hl2 _ (List.getElem_mem hkr))
          clear HO HO' hNl
          go_wp2_with fail
          refine (ref_edges (colSets s rules k) _ _ HSe.out hlo.out).mono ?_
          intro e we hpe
          obtain ⟨ve, E, rfl, hoe, hie, hme, hbe⟩ := hpe
          have HEd : Hid (EdgesOf (colSets s rules k) E) := ⟨hie, hme⟩
          have hEl := hie.length_le
          have HSE := Lib.hid hoe.slOld
          have BE := Lib.hid (bx HB.out hbe)
          obtain ⟨AE, cE, eE, hE1, hE2⟩ := hoe.slOld.form
          subst eE
          unfold maxLen at hE2
          have hzE := BE.out.size
          clear hoe hie hme hbe HSe
          go_wp2
          go_loopw [13, 48] (fun u i wi => ∃ j : Nat, j ≤ E.length ∧ i = .int .i64 j ∧ Hid (OwnG Enc.int wi we.heap.size we.heap.size 3 u ((E.take j).filter (hasB s))) ∧ Hid (Below we.heap.size we wi)) (fun _ i _ => E.length - (intOf i).toNat)
          case atStart => exact ⟨0, Nat.zero_le _, rfl, OwnG.nil, Below.refl _ _⟩
          case round =>
            rename World => wx
            obtain ⟨j2, hj2, rfl, HO2, HB2⟩ := hrel
            have hzx := HB2.out.size
            have BX := Lib.hid (bx BE.out HB2.out)
            have hcnt : ((E.take j2).filter (hasB s)).length ≤ j2 := Nat.le_trans (List.length_filter_le _ _) (by rw [List.length_take]; omega)
            by_cases hj2l : j2 < E.length
            · obtain ⟨be, oe, n, rfl, _, hxn, g1⟩ := (HSE.out.onOld HB2.out).int_at hj2l
              have g2 := (BX.out.cell (p := ⟨ba, oa + k, none⟩) (World.block_lt_of_cell? wr _ cu)).trans cu
              have HFi := Lib.hid (filter_at (p := hasB s) hxn.out)
              go_wp2_with fail
              refine (ref_InSet s _ n _ (HS.out.onOld BX.out)).mono ?_
              rintro e w7 ⟨rfl, hb7⟩
              have O7 := Lib.hid (HO2.out.next hb7)
              have B7 := Lib.hid (bx HB2.out hb7)
              clear hb7 g1 g2
              cases hin : hasB s n
              · rw [hin] at HFi
                go_wp2
                refine ⟨⟨j2 + 1, by omega, by go_num, ?_, B7.out⟩, by simp [intOf]; omega⟩
                show OwnG _ _ _ _ _ _ _
                rw [HFi.out]
                simpa using O7.out
              · rw [hin] at HFi
                have O8 := Lib.hid (O7.out.alloc (.cells #[.int .i64 n] 3))
                have B8 := Lib.hid (bx B7.out (below_alloc1 w7 (.cells #[.int .i64 n] 3)))
                have hz8 : we.heap.size ≤ (w7.alloc (.cells #[.int .i64 n] 3)).heap.size := B8.out.size
                go_wp2_with (at_builtin; refine wpList_append_one (E := Enc.int) _ rfl _ _ 30 rfl we.heap.size we.heap.size 3 8 (.int .i64 0) x_under_i x_info_i rfl (by decide) _ _ rfl O8.out ⟨w7.heap.size, 0, none⟩ n [.int .i64 n] rfl rfl (cell_one_newI _ _ _) (by omega) (by unfold maxLen; omega) hz8 ?_; intro v' w9 hown' hgrow9 _)
                have hbel := below_of_grown hgrow9 hz8 (fun k hk => (O8.out.lt k hk).1)
                refine ⟨⟨j2 + 1, by omega, by go_num, ?_, B8.out.trans hbel⟩, by simp [intOf]; omega⟩
                show OwnG _ _ _ _ _ _ _
                rw [HFi.out]
                simpa using hown'
            · have e2 : E.take j2 = E := List.take_of_length_le (by omega)
              have HO3 := HO2.out
              rw [e2] at HO3
              obtain ⟨Al, cl, rfl, -, -, -⟩ := HO3.form
              have SL := Lib.hid (HO3.sl (Nat.le_refl _))
              have V9 := Lib.hid (HV.out.keep BX.out)
              obtain ⟨At, ct, et, ht1, ht2, -⟩ := V9.out.own.form
              subst et
              have q0 := V9.out.cell
              have q1 := V9.out.fz
              have hwy := below_alloc1 wx (.cells #[.slice Al (E.filter (hasB s)).length cl] 30)
              have V10 := Lib.hid (V9.out.keep hwy)
              have BY := Lib.hid (bx BX.out hwy)
              have hzy : w.heap.size + 3 ≤ (wx.alloc (.cells #[.slice Al (E.filter (hasB s)).length cl] 30)).heap.size := Nat.le_trans hzr BY.out.size
              have HY : Hid (Enc.int.slice.rd (wx.alloc (.cells #[.slice Al (E.filter (hasB s)).length cl] 30)) (Off (w.heap.size + 3) (wx.alloc (.cells #[.slice Al (E.filter (hasB s)).length cl] 30)) (.slice At at'.length ct)) (E.filter (hasB s)) [.slice Al (E.filter (hasB s)).length cl]) :=
                ⟨_, rfl, (SL.out.on hwy).more fun k hk => off_new HV.out.own hzr (Nat.le_refl _) k ⟨by have := hk.1; omega, hk.2⟩⟩
              have hq : w.heap.size + 2 < w.heap.size + 3 := by omega
              clear HO2 HO3
              generalize hFE : E.filter (hasB s) = FE at *
              go_wp2_with (at_builtin; refine wpList_append_one (E := Enc.int.slice) _ rfl _ _ 71 rfl (w.heap.size + 3) (w.heap.size + 3) 30 24 (.slice none 0 0) x_under_ii x_info_ii rfl (by decide) _ _ rfl V10.out.own ⟨wx.heap.size, 0, none⟩ FE [.slice Al FE.length cl] rfl HY.out (cell_one_newI _ _ _) (by omega) (by unfold maxLen; omega) hzy ?_; intro v11 w11 hown11 hgrow11 _; have hbI := hgrow11.block (w.heap.size + 2) V10.out.lt (fun e => by have := (V10.out.own.lt (w.heap.size + 2) e.symm).1; omega); have r0 := (World.cell?_of_block (a := ⟨w.heap.size + 2, 0, none⟩) hbI).trans V10.out.cell; have r1 := (World.frozen?_of_block (a := ⟨w.heap.size + 2, 0, none⟩) hbI).trans V10.out.fz; obtain ⟨A11, c11, e11, -, -, -⟩ := hown11.form; rw [List.length_append] at e11; replace e11 : v11 = .slice A11 (at'.length + 1) c11 := e11; subst e11)
              have hV12 : AtV (w11.setCell ⟨w.heap.size + 2, 0, none⟩ (.slice A11 (at'.length + 1) c11)) (w.heap.size + 2) (w.heap.size + 3) (.slice A11 (at'.length + 1) c11) (at' ++ [FE]) :=
                ⟨by have := hgrow11.size; have := V10.out.lt; simp [World.setCell]; omega, World.cell?_setCell_same w11 _ _ r0, by simpa using r1, hown11.setCell hq (fun e => by have := (hown11.lt _ e).1; omega)⟩
              have hfr : FrI (w.heap.size + 2) (w.heap.size + 3) wc (w11.setCell ⟨w.heap.size + 2, 0, none⟩ (.slice A11 (at'.length + 1) c11)) :=
                HFr.out.trans ((FrI.of_below BY.out hzr).trans ((FrI.of_grown hgrow11 hzy (fun k hk => (V10.out.own.lt k hk).1)).trans (FrI.set ..)))
              refine ⟨⟨k + 1, _, at' ++ [FE], by omega, by go_num, by rw [List.length_append, HAL.out]; rfl, ?_, hV12, hfr⟩, by simp [intOf]; omega⟩
              intro q s' l' hs' hl'
              by_cases hqk : q < at'.length
              · rw [List.getElem?_append_left hqk] at hl'
                exact hC.out q s' l' hs' hl'
              · have hq2 : q < at'.length + 1 := by
                  have := (List.getElem?_eq_some_iff.1 hl').1
                  rw [List.length_append] at this
                  simpa using this
                obtain rfl : q = k := by have := HAL.out; omega
                rw [List.getElem?_append_right (by omega)] at hl'
                rw [show q - at'.length = 0 by omega] at hl'
                have hl2 : l' = FE := by simpa using hl'.symm
                have hs2 : s' = s := Option.some.inj (hs'.symm.trans hx.out)
                subst hl2 hs2
                exact ⟨E, HEd.out, hFE.symm⟩
    · have hall : at'.length = a.length := by have := HAL.out; omega
      have HCols : Hid (Cols rules 0 a at') := cols_of 0 hall (fun j s l hs hl => by rw [Nat.zero_add]; exact hC.out j s l hs hl)
      clear hall hC HAL
      obtain ⟨FV, hFV⟩ : ∃ FV : Value, FV = .func (.func 42) #[] #[.pointer (some ⟨wr.heap.size, 0, none⟩), .pointer (some ⟨w.heap.size + 2, 0, none⟩), .pointer (some ⟨w.heap.size + 1, 0, none⟩), .pointer (some ⟨wr.heap.size + 1, 0, none⟩)] := ⟨_, rfl⟩
      have h1 := below_alloc1 wr (.cells #[.slice none 0 0] 30)
      have z1 : (wr.alloc (.cells #[.slice none 0 0] 30)).heap.size = wr.heap.size + 1 := by simp
      have i1 : (wr.alloc (.cells #[.slice none 0 0] 30)).cell? ⟨wr.heap.size, 0, none⟩ = some (.slice none 0 0) := cell_new _ _ _ _ _ rfl
      have i2 : (wr.alloc (.cells #[.slice none 0 0] 30)).frozen? ⟨wr.heap.size, 0, none⟩ = false := by simp
      have key : ∀ W1 : World, Below wr.heap.size wr W1 → W1.heap.size = wr.heap.size + 1 → W1.cell? ⟨wr.heap.size, 0, none⟩ = some (.slice none 0 0) → W1.frozen? ⟨wr.heap.size, 0, none⟩ = false →
          WOK w at' vat fid cb wr.heap.size (w.heap.size + 2) (w.heap.size + 1) (wr.heap.size + 1) (wr.heap.size + 2) (W1.alloc (.cells #[FV] 36)) ∧ InV (W1.alloc (.cells #[FV] 36)) wr.heap.size (wr.heap.size + 2) (.slice none 0 0) [] ∧ Below wr.heap.size wr (W1.alloc (.cells #[FV] 36)) := by
        intro W1 hb hz c0 c1
        have h2 := below_alloc1 W1 (.cells #[FV] 36)
        have hb2 := bx hb h2
        have z2 : (W1.alloc (.cells #[FV] 36)).heap.size = wr.heap.size + 2 := by simp; omega
        have kb := HFr.out.cell (p := ⟨w.heap.size + 1, 0, none⟩) (by show w.heap.size + 1 < _; omega) (by show w.heap.size + 1 ≠ _; omega) KB.out
        have kn : (W1.alloc (.cells #[FV] 36)).cell? ⟨wr.heap.size + 1, 0, none⟩ = some FV := by rw [← hz]; exact cell_new _ _ _ _ _ rfl
        refine ⟨⟨(hb2.cell (p := ⟨w.heap.size + 2, 0, none⟩) HV.out.lt).trans HV.out.cell, ?_, (hb2.cell (p := ⟨w.heap.size + 1, 0, none⟩) (by show w.heap.size + 1 < _; omega)).trans kb, ?_, bx BW.out hb2, ⟨by omega, by omega⟩, ⟨by omega, by omega⟩, ⟨by omega, by omega⟩, ⟨by omega, by omega⟩, by omega⟩, ⟨by omega, ?_, ?_, OwnG.nil⟩, hb2⟩
        · exact ((HV.out.own.sl (Nat.le_refl _)).below (B := wr.heap.size) (fun _ hk => hk.2) hb2).more fun k hk => ⟨by have := hk.2; omega, by have := hk.2; omega⟩
        · rw [← hFV]
          exact kn
        · exact (h2.cell (p := ⟨wr.heap.size, 0, none⟩) (by show wr.heap.size < _; omega)).trans c0
        · exact (h2.frozen (p := ⟨wr.heap.size, 0, none⟩) (by show wr.heap.size < _; omega)).trans c1
      obtain ⟨hwok, hinv, hbb⟩ := key _ h1 z1 i1 i2
      have hp := ref_walk w at' vat fid cb f wr.heap.size (w.heap.size + 2) (w.heap.size + 1) (wr.heap.size + 1) (wr.heap.size + 2) hal3 eg HF.out at'.length [] _ _ (by simp) hwok hinv
      rw [show at'.drop ([] : List Int).length = at' from rfl] at hp
      have BB := Lib.hid (bx BW.out hbb)
      clear hbb
      have ZZ : Hid (w.heap.size ≤ wr.heap.size) := by show _ ≤ _; omega
      subst hFV
      clear key hwok hinv h1 z1 i1 i2
      go_wp2_with fail
      refine hp.mono ?_
      intro e w5 hp5
      obtain ⟨rfl, ⟨v5, hV5⟩, hR5⟩ := hp5
      have B5 : Hid (Below w.heap.size w w5) := ⟨hR5.os.trans BB.out.os, hR5.tape.trans BB.out.tape, hR5.output.trans BB.out.output, Nat.le_trans BB.out.size hR5.size, fun j hj => (hR5.block j (by omega) (by omega)).trans (BB.out.block j hj)⟩
      clear hp hR5 BB
      cases hw : walkF f at' [] with
      | none =>
        have HS : Hid (srchV f at' = ([], false)) := by show _ = _; unfold srchV; rw [hw]
        clear hw hV5
        simp only [Option.isSome_none]
        go_wp2
        go_ret2
        refine ⟨at', .slice none 0 0, HCols.out, ?_, ?_, B5.out⟩
        · rw [HS.out]; rfl
        · rw [HS.out]; exact Sl.nil
      | some i =>
        have HS : Hid (srchV f at' = (i, true)) := by show _ = _; unfold srchV; rw [hw]
        rw [hw] at hV5
        simp only [Option.getD_some] at hV5
        have V5 := Lib.hid hV5
        have q0 := hV5.cell
        clear hw hV5
        simp only [Option.isSome_some]
        go_wp2
        go_ret2
        refine ⟨at', v5, HCols.out, ?_, ?_, B5.out⟩
        · rw [HS.out]; rfl
        · rw [HS.out]
          exact (V5.out.own.sl (Nat.le_refl _)).more fun k hk => ⟨by have := hk.1; have := ZZ.out; omega, hk.2⟩

end Go.Proofs.YtiejicjknenneaaGreatDoor
