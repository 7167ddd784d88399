/- table.Clash, as a Lean function of the data that its arguments read as. Conditions: argument slices read as lists in old memory; names and lists fit into 2^47 bytes. -/
import Derived.Test.YthnfkghgaagaiabTableH
namespace Go.Proofs.Ythnfkghgaagaiab
open Go.RowKit

theorem clashR_append (p : Int) (a : BoxD) (l m : List RuleD) : ∀ pre, clashR p a pre (l ++ m) = clashR p a pre l ++ clashR p a (pre ++ l) m := by
  induction l with
  | nil => intro pre; simp [clashR]
  | cons r l ih => intro pre; simp only [List.cons_append, clashR, ih, List.append_assoc, List.nil_append]
theorem clashR_take {p : Int} {a : BoxD} {l : List RuleD} {k : Nat} {r : RuleD} (h : l[k]? = some r) : clashR p a [] (l.take (k + 1)) = clashR p a [] (l.take k) ++ (l.take k).filterMap (overV p a r) := by
  rw [take_at h, clashR_append]; simp [clashR]
theorem clashR_length (p : Int) (a : BoxD) (l : List RuleD) : ∀ pre, (clashR p a pre l).length ≤ (pre.length + l.length) * l.length := by
  induction l with
  | nil => intro pre; simp [clashR]
  | cons r l ih =>
    intro pre
    have h1 := ih (pre ++ [r])
    have h2 : (pre.filterMap (overV p a r)).length ≤ pre.length := List.length_filterMap_le ..
    simp only [clashR, List.length_append, List.length_cons, List.length_nil] at h1 ⊢
    have e1 : (pre.length + (0 + 1) + l.length) * l.length = (pre.length + (l.length + 1)) * l.length := by congr 1; omega
    have e2 : (pre.length + (l.length + 1)) * (l.length + 1) = (pre.length + (l.length + 1)) * l.length + (pre.length + (l.length + 1)) := Nat.mul_succ ..
    omega
theorem over_take {p : Int} {a : BoxD} {l : List RuleD} {k : Nat} {s : RuleD} (r : RuleD) (h : l[k]? = some s) : (l.take (k + 1)).filterMap (overV p a r) = (l.take k).filterMap (overV p a r) ++ (if forbidsB p r.2 s.2 && overOk a r s then [overL a r s] else []) := by
  rw [take_at h, List.filterMap_append]
  congr 1
  simp only [List.filterMap_cons, List.filterMap_nil, overV, overOk, overL]
  by_cases h1 : forbidsB p r.2 s.2 = true
  · by_cases h2 : (areaOk r.1 a && areaOk s.1 (areaL r.1 a)) = true
    · simp [h1, h2]
    · rw [Bool.not_eq_true] at h2; simp [h1, h2]
  · rw [Bool.not_eq_true] at h1; simp [h1]
theorem clash_small {p : Int} {a : BoxD} (ha : goodBox a a.length = true) {l : List RuleD} : ∀ {pre : List RuleD} {b : BoxD}, b ∈ clashR p a pre l → b.length ≤ 3 := by
  induction l with
  | nil => intro pre b h; simp [clashR] at h
  | cons r l ih =>
    intro pre b h
    rcases List.mem_append.1 h with h | h
    · obtain ⟨s, _, he⟩ := List.mem_filterMap.1 h
      unfold overV at he
      split at he
      · rename_i hc
        injection he with he
        subst he
        simp only [Bool.and_eq_true] at hc
        have h1 := goodBox_iff.1 (area_good hc.2.1)
        have h2 := goodBox_iff.1 (area_good hc.2.2)
        have h3 := goodBox_iff.1 ha
        omega
      · cases he
    · exact ih h

set_option maxHeartbeats 2000000 in
theorem table_Clash (t : TabD) (a : BoxD) (v va : Value) (w : World) (h : TabAt w (Old w) t v) (h' : Sl Enc.rng.slice w (Old w) a va) (hs : smallT t) :
    Calls Try.prog 12 #[v, va] w (PtPost (clashV t a) w) := by
  have HS := Lib.hid hs
  have HT := Lib.hid h
  have HA := Lib.hid h'
  have HCS := Lib.hid (cells_small (t := t))
  have HRL := Lib.hid (fun hg : goodT t = true => (goodRs_iff.1 (goodT_iff.1 hg).2.2.2.2).2.1)
  have HE : Hid (clashV t a = if fitsB t a then smallV (clashR t.pol a [] t.rules) else ([], false)) := rfl
  have HFG : Hid (fitsB t a = true → goodT t = true) := fun hf => by simp only [fitsB, Bool.and_eq_true] at hf; exact hf.1
  have HFA : Hid (fitsB t a = true → goodBox a a.length = true) := fun hf => (fits_rules hf).1
  obtain ⟨nm, pol, comp, ins, rules⟩ := t
  obtain ⟨vi, vr, rfl, hi, hr⟩ := h
  simp only at hi hr HE HCS HRL
  clear hs
  have H := Lib.hid hr
  obtain ⟨Ai, ci, rfl, hi1, hi2, -⟩ := hi
  obtain ⟨A, c, rfl, hc1, hc2, -⟩ := hr
  obtain ⟨B, d, rfl, hd1, hd2, -⟩ := h'
  unfold maxLen at hi2 hc2 hd2
  generalize clashV ⟨nm, pol, comp, ins, rules⟩ a = R at *
  have hb0 := below_alloc1 w (.cells #[.string nm, .int .i64 pol, .bool comp, .slice Ai ins.length ci, .slice A rules.length c] 25)
  generalize hw0 : w.alloc (.cells #[.string nm, .int .i64 pol, .bool comp, .slice Ai ins.length ci, .slice A rules.length c] 25) = w0 at *
  have hg0 : w.heap.size < w0.heap.size := by rw [← hw0]; simp
  have k0 : w0.cell? ⟨w.heap.size, 0, none⟩ = some (.string nm) := by rw [← hw0]; exact cell_new _ _ _ _ _ rfl
  have k1 : w0.cell? ⟨w.heap.size, 1, none⟩ = some (.int .i64 pol) := by rw [← hw0]; exact cell_new _ _ _ _ _ rfl
  have k2 : w0.cell? ⟨w.heap.size, 2, none⟩ = some (.bool comp) := by rw [← hw0]; exact cell_new _ _ _ _ _ rfl
  have k3 : w0.cell? ⟨w.heap.size, 3, none⟩ = some (.slice Ai ins.length ci) := by rw [← hw0]; exact cell_new _ _ _ _ _ rfl
  have k4 : w0.cell? ⟨w.heap.size, 4, none⟩ = some (.slice A rules.length c) := by rw [← hw0]; exact cell_new _ _ _ _ _ rfl
  have HT0 := Lib.hid (HT.out.onOld hb0)
  have HA0 := Lib.hid (HA.out.onOld hb0)
  go_enter Try.func12, Try.ntmps12
  go_wp2_with fail
  refine (table_fits _ a _ _ _ HT0.out HA0.out HS.out).mono ?_
  rintro e w1 ⟨rfl, hb1⟩
  have j1 := (hb1.cell (p := ⟨w.heap.size, 1, none⟩) hg0).trans k1
  have j4 := (hb1.cell (p := ⟨w.heap.size, 4, none⟩) hg0).trans k4
  have hb01 := bx hb0 hb1
  have hg1 := Nat.lt_of_lt_of_le hg0 hb1.size
  have HA1 := Lib.hid (HA0.out.onOld hb1)
  have H1 := Lib.hid (H.out.onOld hb01)
  have hsz1 := hb01.size
  clear k0 k1 k2 k3 k4 hw0 hb1 HT0 HA0
  cases hf : fitsB ⟨nm, pol, comp, ins, rules⟩ a
  · have HV : Hid (R = ([], false)) := by show _ = _; rw [HE.out, hf]; rfl
    clear hf
    go_wp2
    go_ret2
    rw [HV.out]
    exact ⟨_, rfl, Sl.nil, hb01⟩
  · have HV : Hid (R = smallV (clashR pol a [] rules)) := by show _ = _; rw [HE.out, hf]; rfl
    have hgt := HFG.out hf
    have HGA := Lib.hid (HFA.out hf)
    have hrl : rules.length ≤ 6 := HRL.out hgt
    have HC := Lib.hid (HCS.out hgt)
    clear hf hgt HFG HFA HCS HRL HE
    go_wp2
    go_loopw [6, 20] (fun u i wr => ∃ k : Nat, k ≤ rules.length ∧ i = .int .i64 k ∧ OwnG Enc.rng.slice.slice wr w1.heap.size w1.heap.size 27 u (clashR pol a [] (rules.take k)) ∧ Below w1.heap.size w1 wr) (fun _ i _ => rules.length - (intOf i).toNat)
    case atStart => exact ⟨0, Nat.zero_le _, rfl, OwnG.nil, Below.refl _ _⟩
    case round =>
      rename World => wo
      obtain ⟨k, hk, rfl, hown, hbl⟩ := hrel
      have hsz := hbl.size
      by_cases hlt : k < rules.length
      · obtain ⟨b, o, cs, x, vc, rfl, hSb, hx, c1', c2', hr⟩ := H1.out.rule_at hlt
        obtain ⟨Ar, cr, rfl, hr1, hr2⟩ := hr.form
        have c1 := (hbl.cell (p := ⟨b, o + k * 2, none⟩) hSb).trans c1'
        have c2 := (hbl.cell (p := ⟨b, o + k * 2 + 1, none⟩) hSb).trans c2'
        have hbz := below_alloc1 wo (.cells #[.slice Ar cs.length cr, .int .i64 x] 43)
        have hbz1 := bx hbl hbz
        have q0 : (wo.alloc (.cells #[.slice Ar cs.length cr, .int .i64 x] 43)).cell? ⟨wo.heap.size, 0, none⟩ = some (.slice Ar cs.length cr) := cell_new _ _ _ _ _ rfl
        have q1 : (wo.alloc (.cells #[.slice Ar cs.length cr, .int .i64 x] 43)).cell? ⟨wo.heap.size, 1, none⟩ = some (.int .i64 x) := cell_new _ _ _ _ _ rfl
        have hgo : wo.heap.size < (wo.alloc (.cells #[.slice Ar cs.length cr, .int .i64 x] 43)).heap.size := by simp
        have HR := Lib.hid hr
        have HCR := Lib.hid (clashR_take (p := pol) (a := a) hx.out)
        have HO := Lib.hid (hown.alloc (.cells #[.slice Ar cs.length cr, .int .i64 x] 43))
        have HCC := Lib.hid (HC.out _ (List.mem_of_getElem? hx.out))
        have p1 := (hbz1.cell (p := ⟨w.heap.size, 1, none⟩) hg1).trans j1
        have p4 := (hbz1.cell (p := ⟨w.heap.size, 4, none⟩) hg1).trans j4
        have HNE0 : Hid (u6.ownBlock ≠ some wo.heap.size) := by
          intro e
          have := hown.lt _ e
          omega
        have HLN : Hid ((clashR pol a [] (rules.take k)).length ≤ 36) := by
          have := clashR_length pol a (rules.take k) []
          have h2 : (rules.take k).length ≤ 6 := by rw [List.length_take]; omega
          have h3 : ([] : List RuleD).length + (rules.take k).length ≤ 6 := by simpa using h2
          have h4 := Nat.mul_le_mul h3 h2
          show _ ≤ _
          omega
        have hkI : (k : Int) ≤ rules.length := by omega
        have hkI0 : (0 : Int) ≤ k := by omega
        have hkc : (k : Int) ≤ c := by omega
        generalize hwo : wo.alloc (.cells #[.slice Ar cs.length cr, .int .i64 x] 43) = wa at *
        clear hr hown c1' c2'
        go_wp2
        clear hwo
        go_loopw [6, 30] (fun u i wr => ∃ j : Nat, j ≤ k ∧ i = .int .i64 j ∧ OwnG Enc.rng.slice.slice wr w1.heap.size w1.heap.size 27 u (clashR pol a [] (rules.take k) ++ ((rules.take k).take j).filterMap (overV pol a (cs, x))) ∧ Hid (u.ownBlock ≠ some wo.heap.size) ∧ wo.heap.size < wr.heap.size ∧ wr.cell? ⟨wo.heap.size, 0, none⟩ = some (.slice Ar cs.length cr) ∧ wr.cell? ⟨wo.heap.size, 1, none⟩ = some (.int .i64 x) ∧ Below w1.heap.size w1 wr) (fun _ i _ => k - (intOf i).toNat)
        case atStart => exact ⟨0, Nat.zero_le _, rfl, by simpa using HO.out, HNE0, hgo, q0, q1, hbz1⟩
        case round =>
          clear HNE0 HO q0 q1 hgo p1 p4 c1 c2 hbz
          rename World => wi
          obtain ⟨j, hj, rfl, hown, hne, hgo, q0, q1, hb1i⟩ := hrel
          have hszi1 := hb1i.size
          by_cases hjlt : j < k
          · obtain ⟨b2, o2, cs2, x2, vc2, e2, _, hx2, d1, d2, hr2'⟩ := (H1.out.onOld hb1i).rule_at (k := j) (by omega)
            obtain ⟨rfl, rfl⟩ := some_addr e2
            obtain ⟨As, c3, rfl, hs1, hs2⟩ := hr2'.form
            have hbs := below_alloc1 wi (.cells #[.slice As cs2.length c3, .int .i64 x2] 43)
            have r0 : (wi.alloc (.cells #[.slice As cs2.length c3, .int .i64 x2] 43)).cell? ⟨wi.heap.size, 0, none⟩ = some (.slice As cs2.length c3) := cell_new _ _ _ _ _ rfl
            have r1 : (wi.alloc (.cells #[.slice As cs2.length c3, .int .i64 x2] 43)).cell? ⟨wi.heap.size, 1, none⟩ = some (.int .i64 x2) := cell_new _ _ _ _ _ rfl
            have hgi : wi.heap.size < (wi.alloc (.cells #[.slice As cs2.length c3, .int .i64 x2] 43)).heap.size := by simp
            have q0' := (hbs.cell (p := ⟨wo.heap.size, 0, none⟩) hgo).trans q0
            have q1' := (hbs.cell (p := ⟨wo.heap.size, 1, none⟩) hgo).trans q1
            have hgo' := Nat.lt_of_lt_of_le hgo hbs.size
            have hb1s := bx hb1i hbs
            have hsz1s := hb1s.size
            have p1' := (hb1s.cell (p := ⟨w.heap.size, 1, none⟩) hg1).trans j1
            have HR2 := Lib.hid (hr2'.onOld hbs)
            have HRI := Lib.hid (HR.out.onOld hb1s)
            have HAI := Lib.hid (HA1.out.onOld hb1s)
            have HOI := Lib.hid (hown.alloc (.cells #[.slice As cs2.length c3, .int .i64 x2] 43))
            have HC2 := Lib.hid (HC.out _ (List.mem_of_getElem? hx2.out))
            have hx2' : (rules.take k)[j]? = some (cs2, x2) := by rw [List.getElem?_take_of_lt hjlt]; exact hx2.out
            have HTK : Hid (((rules.take k).take (j + 1)).filterMap (overV pol a (cs, x)) = ((rules.take k).take j).filterMap (overV pol a (cs, x)) ++ (if forbidsB pol x x2 && overOk a (cs, x) (cs2, x2) then [overL a (cs, x) (cs2, x2)] else [])) := over_take (p := pol) (a := a) (cs, x) hx2'
            have HLI : Hid ((clashR pol a [] (rules.take k) ++ ((rules.take k).take j).filterMap (overV pol a (cs, x))).length ≤ 42) := by
              have h1 := HLN.out
              have h2 : (((rules.take k).take j).filterMap (overV pol a (cs, x))).length ≤ ((rules.take k).take j).length := List.length_filterMap_le ..
              have h3 : ((rules.take k).take j).length ≤ 6 := by rw [List.length_take, List.length_take]; omega
              show _ ≤ _
              rw [List.length_append]; omega
            generalize ((rules.take k).take j).filterMap (overV pol a (cs, x)) = F at *
            generalize hwi : wi.alloc (.cells #[.slice As cs2.length c3, .int .i64 x2] 43) = ws at *
            clear hown hr2' e2 hx2' q0 q1
            go_wp2_with fail
            clear hwi d1 d2
            refine (table_forbids pol x x2 _).mono ?_
            rintro e w2 ⟨rfl, hb2⟩
            have q0'' := (hb2.cell (p := ⟨wo.heap.size, 0, none⟩) hgo').trans q0'
            have q1'' := (hb2.cell (p := ⟨wo.heap.size, 1, none⟩) hgo').trans q1'
            have r0' := (hb2.cell (p := ⟨wi.heap.size, 0, none⟩) hgi).trans r0
            have r1' := (hb2.cell (p := ⟨wi.heap.size, 1, none⟩) hgi).trans r1
            have hgo2 := Nat.lt_of_lt_of_le hgo' hb2.size
            have hb12 := bx hb1s hb2
            clear q0' q1' r0 r1 p1'
            cases hfb : forbidsB pol x x2
            · have HK : Hid (((rules.take k).take (j + 1)).filterMap (overV pol a (cs, x)) = F) := by show _ = _; rw [HTK.out, hfb]; simp
              clear hfb
              go_wp2
              refine ⟨⟨j + 1, by omega, by go_num, ?_, hne, hgo2, q0'', q1'', hb12⟩, by simp [intOf]; omega⟩
              rw [HK.out]
              exact HOI.out.next hb2
            · have HR3 := Lib.hid (HR2.out.onOld hb2)
              have HR4 := Lib.hid (HRI.out.onOld hb2)
              have HA4 := Lib.hid (HAI.out.onOld hb2)
              have HFB := Lib.hid hfb
              have HO2 := Lib.hid (HOI.out.next hb2)
              clear hfb
              go_wp2_with fail
              refine (table_overlap (cs, x) (cs2, x2) a _ _ _ _ HR4.out HR3.out HA4.out HCC.out HC2.out).mono ?_
              rintro e w3 ⟨v3, rfl, hn3, hb3⟩
              obtain ⟨A3, c4, rfl, -, -⟩ := hn3.form
              have hb13 := bx hb12 hb3
              have hsz13 := hb13.size
              have q0 := (hb3.cell (p := ⟨wo.heap.size, 0, none⟩) hgo2).trans q0''
              have q1 := (hb3.cell (p := ⟨wo.heap.size, 1, none⟩) hgo2).trans q1''
              have hgo3 := Nat.lt_of_lt_of_le hgo2 hb3.size
              clear q0'' q1'' r0' r1'
              cases hok : overOk a (cs, x) (cs2, x2)
              · have HK : Hid (((rules.take k).take (j + 1)).filterMap (overV pol a (cs, x)) = F) := by show _ = _; rw [HTK.out, hok]; simp
                clear hok hn3
                go_wp2
                refine ⟨⟨j + 1, by omega, by go_num, ?_, hne, hgo3, q0, q1, hb13⟩, by simp [intOf]; omega⟩
                rw [HK.out]
                exact HO2.out.next hb3
              · have HK : Hid (((rules.take k).take (j + 1)).filterMap (overV pol a (cs, x)) = F ++ [overL a (cs, x) (cs2, x2)]) := by show _ = _; rw [HTK.out, hok, HFB.out]; rfl
                clear hok
                generalize overL a (cs, x) (cs2, x2) = C at *
                have HO1 := Lib.hid ((HO2.out.next hb3).alloc (.cells #[.slice A3 C.length c4] 27))
                have HY : Hid (Enc.rng.slice.slice.rd (w3.alloc (.cells #[.slice A3 C.length c4] 27)) (Off w1.heap.size (w3.alloc (.cells #[.slice A3 C.length c4] 27)) u6) C [.slice A3 C.length c4]) := ⟨_, rfl, (hn3.on (below_alloc1 _ _)).more (off_new HO2.out hb12.size (Nat.le_refl _))⟩
                have hb4 : Below w1.heap.size w1 (w3.alloc (.cells #[.slice A3 C.length c4] 27)) := hb13.alloc hsz13 _
                have hsz4 := hb4.size
                have hb34 := below_alloc1 w3 (.cells #[.slice A3 C.length c4] 27)
                have q0a := (hb34.cell (p := ⟨wo.heap.size, 0, none⟩) hgo3).trans q0
                have q1a := (hb34.cell (p := ⟨wo.heap.size, 1, none⟩) hgo3).trans q1
                have hgo4 := Nat.lt_of_lt_of_le hgo3 hb34.size
                clear hn3 hb34
                go_wp2_with (at_builtin; refine wpList_append_one (E := Enc.rng.slice.slice) _ rfl _ _ 79 rfl w1.heap.size w1.heap.size 27 24 (.slice none 0 0) under_boxes infoBox rfl (by decide) _ _ rfl HO1.out ⟨w3.heap.size, 0, none⟩ C [.slice A3 C.length c4] rfl HY.out (cell_one_new _ _ _) (by have := HLI.out; omega) (by have := HLI.out; unfold maxLen; omega) hsz4 ?_; intro v' w5 hown' hgrow5 hmv5)
                have hbk : w5.heap[wo.heap.size]? = (w3.alloc (.cells #[.slice A3 C.length c4] 27)).heap[wo.heap.size]? := hgrow5.block _ hgo4 (fun e => hne.out e.symm)
                refine ⟨⟨j + 1, by omega, by go_num, by rw [HK.out, ← List.append_assoc]; exact hown', ?_, Nat.lt_of_lt_of_le hgo4 hgrow5.size, (World.cell?_of_block (a := ⟨wo.heap.size, 0, none⟩) hbk).trans q0a, (World.cell?_of_block (a := ⟨wo.heap.size, 1, none⟩) hbk).trans q1a, hb4.grown hgrow5 hsz4 (fun _ hr => (HO2.out.lt _ hr).1)⟩, by simp [intOf]; omega⟩
                intro e
                rcases hmv5 _ e with h' | h'
                · exact hne.out h'
                · omega
          · go_wp2
            have e : (rules.take k).take j = rules.take k := List.take_of_length_le (by rw [List.length_take]; omega)
            rw [e, ← HCR.out] at hown
            refine ⟨⟨k + 1, by omega, by go_num, hown, hb1i⟩, by simp [intOf]; omega⟩
      · have e : rules.take k = rules := List.take_of_length_le (by omega)
        rw [e] at hown
        have HO := Lib.hid (hown.slOld (Nat.le_refl _))
        clear hown e
        go_wp2_with fail
        refine (table_smallest _ _ _ HO.out (fun b hb => clash_small HGA.out hb)).mono ?_
        rintro e w3 ⟨v3, rfl, hn3, hb3⟩
        go_wp2
        go_ret2
        rw [HV.out]
        exact PtPost.from (bx hb01 hbl) ⟨v3, rfl, hn3, hb3⟩

end Go.Proofs.Ythnfkghgaagaiab
