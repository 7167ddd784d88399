/- ratebookref.SaysOf, as a Lean function of the data that its arguments read as. Conditions: argument slices read as lists in old memory; names and lists fit into 2^47 bytes. -/
import Derived.Test.YtmdljknlbmlacabGreatDoorRefSpanOf
import Derived.Test.YtmdljknlbmlacabGreatDoorSweep
namespace Go.Proofs.YtmdljknlbmlacabGreatDoor
open Go.RowKit Go.Maps Go.WideMaps

theorem conflict_minmax {O : List Int} (h : 0 < O.length) : conflictB 2 O = decide (minL O ≠ maxL O) := by
  obtain ⟨p, q⟩ := minL_spec h
  obtain ⟨p', q'⟩ := maxL_spec h
  cases hc : conflictB 2 O
  · have := conflict_two.1 hc _ p _ p'
    simp [this]
  · have : minL O ≠ maxL O := by
      intro e
      have hf : conflictB 2 O = false := conflict_two.2 fun x hx y hy => by
        have := q x hx; have := q' x hx; have := q y hy; have := q' y hy; omega
      rw [hf] at hc; cases hc
    simp [this]

theorem zero_pick (w : World) : (zeroValue 3).run Tryz.prog w = .ok (.int .i64 0) w := by kernel_rfl
theorem under_pick : Tryz.prog.underlying 152 = some (.map 3 3) := by kernel_rfl
theorem wf_i64 {x : Int} (h : -9223372036854775808 ≤ x ∧ x ≤ 9223372036854775807) : (Lit.int .i64 x).wf = true := by
  have e1 : IntKind.i64.min = -9223372036854775808 := by decide
  have e2 : IntKind.i64.max = 9223372036854775807 := by decide
  show (decide (IntKind.i64.min ≤ x) && decide (x ≤ IntKind.i64.max)) = true
  rw [e1, e2]
  simp only [Bool.and_eq_true, decide_eq_true_eq]
  exact h
/-- what is said of the map while some of its entries are still to come: the entry for `pol`, once its turn has come, is `vp` -/
def PickJ (b : Nat) (S : World → Prop) (w0 : World) (ip : Nat) (pol vp : Int) (rem : List Nat) (w : World) : Prop :=
  S w ∧ Below w0.heap.size w0 w ∧ ∃ (n : Nat) (D : DataW Unit), n + rem.length ≤ 6 ∧ w.ownsMap Tryz.prog 3 (plainElem Tryz.prog 3) b n D ∧ (ip ∉ rem → D.atKey (.int .i64 pol) (.lit (.int .i64 0)) = .lit (.int .i64 vp))
theorem pick_step {ops : Array Oper} {Q : Exit → Act → World → Prop} {S : World → Prop} {a : Act} {b : Nat} {w0 w : World} {ip : Nat} {pol vp : Int} {rem : List Nat} (hbase : w0.heap.size ≤ b)
    (hS : ∀ w w' : World, S w → w.mapTurned w' b → S w') (hJ : PickJ b S w0 ip pol vp rem w) (i : Nat) (hi : i ∈ rem) (key val : Int) (o : Oper) (ho : ops[i]? = some o) (m v : Operand)
    (hop : o.op = Op.insert 152 m (.const (.int .i64 key)) v) (hd : o.dst = none) (hg : o.guard = none) (hm : a.eval m = .map (some b)) (hv : a.eval v = .int .i64 val)
    (hk : (Lit.int .i64 key).wf = true) (hvw : (Lit.int .i64 val).wf = true) (h1 : i = ip → key = pol ∧ val = vp) (h2 : i ≠ ip → pol ≠ key) :
    wpOp Tryz.prog ops Q i (fun a' w' => a' = a ∧ S w' ∧ PickJ b S w0 ip pol vp (rem.erase i) w') a w := by
  obtain ⟨h0, hb, n, D, hn, hown, hat⟩ := hJ
  have hlen := List.length_erase_of_mem hi
  have hpos : 0 < rem.length := List.length_pos_of_mem hi
  obtain ⟨w', hrun, hown', ht⟩ := hown.store (int_keyed Tryz.underlying3) under_pick (by unfold maxLen; omega) (keyOf_int_mk Tryz.underlying3 hk) (plainElem_int Tryz.underlying3 hvw)
  refine wpOp_insert ho hop hd hg hm rfl hv hrun ⟨rfl, hS _ _ h0 ht, hS _ _ h0 ht, ?_, n + 1, _, by omega, hown', ?_⟩
  · exact hb.grown ht.grown hb.size (fun _ hj => by injection hj with hj; omega)
  · intro hip
    by_cases hii : i = ip
    · obtain ⟨rfl, rfl⟩ := h1 hii
      exact atKey_put_same hown.isMap (by simp [WideAt.IsKeyLit]) _ _
    · rw [atKey_put_other (by intro hh; injection hh with _ hh; exact h2 hii hh)]
      exact hat fun hm => hip ((List.mem_erase_of_ne (Ne.symm hii)).2 hm)
set_option maxRecDepth 100000 in
theorem pick_look {S : World → Prop} {b : Nat} {w0 w : World} {ip : Nat} {pol vp : Int} (hJ : PickJ b S w0 ip pol vp [] w) (hk : (Lit.int .i64 pol).wf = true) :
    (Instr.lookup 152 (.map (some b)) (.int .i64 pol) false).run Tryz.prog w = .ok (.int .i64 vp) w := by
  obtain ⟨_, _, n, D, _, hown, hat⟩ := hJ
  obtain ⟨v, ps, hrun, hv⟩ := hown.lookup (int_keyed Tryz.underlying3) under_pick (zero_pick w) (plainElem_int Tryz.underlying3 (by decide)) (keyOf_int_mk Tryz.underlying3 hk)
  rw [hat (by simp)] at hv
  obtain ⟨c, rfl, hc, _⟩ := plainElem_int_inv Tryz.underlying3 hv
  have := congrArg Prod.fst hc
  simp only at this
  injection this with this
  injection this with _ this
  rw [hrun, this]

set_option linter.unusedSimpArgs false in
set_option maxRecDepth 100000 in
set_option maxHeartbeats 4000000 in
theorem ref_SaysOf (t : TabD) (l : List Int) (v u : Value) (w : World) (h : TabAt w (Old w) t v) (h' : Sl Enc.int w (Old w) l u) (hs : smallT t) (hsi : t.ins.length * 16 ≤ 140737488355328) :
    Calls Tryz.prog 64 #[v, u] w (SaysPost (saysV t l) w) := by
  have HS := Lib.hid hs
  have HSI := Lib.hid hsi
  have HPB := Lib.hid (fun hg : goodT t = true => (⟨(goodT_iff.1 hg).2.1, (goodT_iff.1 hg).2.2.1⟩ : 1 ≤ t.pol ∧ t.pol ≤ 7))
  have HT := Lib.hid h
  have HI := Lib.hid h'
  have HGB := Lib.hid (fun hg => outs_small (t := t) hg l)
  have HRL := Lib.hid (fun hg : goodT t = true => (goodRs_iff.1 (goodT_iff.1 hg).2.2.2.2).2.1)
  have HIX := Lib.hid (idxL_outs t.rules l [])
  have HVE : Hid (saysV t l = if goodT t = true ∧ l.length = t.ins.length then saysO t.pol (outsL t.rules l) else (0, false, 1)) := rfl
  obtain ⟨nm, pol, comp, ins, rules⟩ := t
  obtain ⟨vi, vr, rfl, hi, hr⟩ := h
  simp only at hi hr HGB HRL HIX HVE HPB
  clear hs hsi
  have H := Lib.hid hr
  obtain ⟨Ai, ci, rfl, hi1, hi2, -⟩ := hi
  obtain ⟨A, c, rfl, hc1, hc2, -⟩ := hr
  obtain ⟨B, d, rfl, hd1, hd2, -⟩ := h'
  unfold maxLen at hi2 hc2 hd2
  generalize saysV ⟨nm, pol, comp, ins, rules⟩ l = R at *
  have hb0 := below_alloc1 w (.cells #[.string nm, .int .i64 pol, .bool comp, .slice Ai ins.length ci, .slice A rules.length c] 59)
  generalize hw0 : w.alloc (.cells #[.string nm, .int .i64 pol, .bool comp, .slice Ai ins.length ci, .slice A rules.length c] 59) = w0 at *
  have hg0 : w.heap.size < w0.heap.size := by rw [← hw0]; simp
  have k0 : w0.cell? ⟨w.heap.size, 0, none⟩ = some (.string nm) := by rw [← hw0]; exact cell_new _ _ _ _ _ rfl
  have k1 : w0.cell? ⟨w.heap.size, 1, none⟩ = some (.int .i64 pol) := by rw [← hw0]; exact cell_new _ _ _ _ _ rfl
  have k2 : w0.cell? ⟨w.heap.size, 2, none⟩ = some (.bool comp) := by rw [← hw0]; exact cell_new _ _ _ _ _ rfl
  have k3 : w0.cell? ⟨w.heap.size, 3, none⟩ = some (.slice Ai ins.length ci) := by rw [← hw0]; exact cell_new _ _ _ _ _ rfl
  have k4 : w0.cell? ⟨w.heap.size, 4, none⟩ = some (.slice A rules.length c) := by rw [← hw0]; exact cell_new _ _ _ _ _ rfl
  have HT0 := Lib.hid (HT.out.onOld hb0)
  go_enter Tryz.func64, Tryz.ntmps64
  go_wp2_with fail
  refine (ref_IsTable _ _ _ HT0.out HS.out HSI.out).mono ?_
  rintro e w1 ⟨rfl, hb1⟩
  have j0 := (hb1.cell (p := ⟨w.heap.size, 0, none⟩) hg0).trans k0
  have j1 := (hb1.cell (p := ⟨w.heap.size, 1, none⟩) hg0).trans k1
  have j2 := (hb1.cell (p := ⟨w.heap.size, 2, none⟩) hg0).trans k2
  have j3 := (hb1.cell (p := ⟨w.heap.size, 3, none⟩) hg0).trans k3
  have j4 := (hb1.cell (p := ⟨w.heap.size, 4, none⟩) hg0).trans k4
  have hb01 := bx hb0 hb1
  have HT1 := Lib.hid (HT.out.onOld hb01)
  have HI1 := Lib.hid (HI.out.onOld hb01)
  have hg1 := Nat.lt_of_lt_of_le hg0 hb1.size
  clear k0 k1 k2 k3 k4 hw0 hb1
  cases hg : goodT ⟨nm, pol, comp, ins, rules⟩
  · have HG := Lib.hid hg
    clear hg
    go_wp2
    go_ret3
    exact ⟨says_eq _ _ _ (by rw [HVE.out, if_neg (by rw [HG.out]; simp)]), hb01⟩
  · have HG := Lib.hid hg
    clear hg
    by_cases hn : l.length = ins.length
    · have hne : ((l.length : Int) != (ins.length : Int)) = false := by simp [hn]
      have HV : Hid (R = saysO pol (outsL rules l)) := by show _ = _; rw [HVE.out, if_pos ⟨HG.out, hn⟩]
      have hrl : rules.length ≤ 6 := HRL.out HG.out
      have HBD := Lib.hid (HGB.out HG.out)
      have HN := Lib.hid hn
      clear hn HGB HRL HVE
      go_wp2_with fail
      refine (ref_MatchesOf _ l _ _ _ HT1.out HI1.out HS.out).mono ?_
      rintro e w2 ⟨v2, rfl, ho2, hb2⟩
      simp only at ho2
      have i1 := (hb2.cell (p := ⟨w.heap.size, 1, none⟩) hg1).trans j1
      have i4 := (hb2.cell (p := ⟨w.heap.size, 4, none⟩) hg1).trans j4
      have hb02 := bx hb01 hb2
      have hg2 := Nat.lt_of_lt_of_le hg1 hb2.size
      have HM := Lib.hid (ho2.slOld (Nat.le_refl _))
      have H2 := Lib.hid (H.out.onOld hb02)
      have hml : (idxL 0 rules l).length ≤ 6 := Nat.le_trans (idxL_length rules l 0) hrl
      obtain ⟨hix1, hix2⟩ := HIX.out
      have HX1 := Lib.hid hix1
      have HX2 : Hid ((idxL 0 rules l).map (outAt rules) = outsL rules l) := hix2
      clear j0 j1 j2 j3 j4 ho2 hb2 hb01 HIX hix1 hix2 HT0 HT1 HI1
      generalize idxL 0 rules l = M at *
      obtain ⟨C, f, rfl, hm1, hm2⟩ := HM.out.form
      unfold maxLen at hm2
      go_wp2
      go_loopw [7, 31] (fun r i wr => ∃ k : Nat, k ≤ M.length ∧ i = .int .i64 k ∧ OwnG Enc.int wr w2.heap.size w2.heap.size 3 r ((M.take k).map (outAt rules)) ∧ Below w2.heap.size w2 wr) (fun _ i _ => M.length - (intOf i).toNat)
      case atStart => exact ⟨0, Nat.zero_le _, rfl, OwnG.nil, Below.refl _ _⟩
      case round =>
        obtain ⟨k, hk, rfl, hown, hbl⟩ := hrel
        have hsz := hbl.size
        by_cases hlt : k < M.length
        · obtain ⟨bm, om, j, rfl, _, hj, m1⟩ := (HM.out.onOld hbl).num_at hlt
          obtain ⟨n, hjn, hnr⟩ := HX1.out j (List.mem_of_getElem? hj.out)
          have hnr' : n < rules.length := by simpa using hnr
          obtain ⟨b, o, cs, x, vc, rfl, _, hx, c1, c2, hr⟩ := (H2.out.onOld hbl).rule_at hnr'
          have a4 := (hbl.cell (p := ⟨w.heap.size, 4, none⟩) hg2).trans i4
          have HO := Lib.hid hown
          have HTK : Hid ((M.take (k + 1)).map (outAt rules) = (M.take k).map (outAt rules) ++ [x]) := by
            show _ = _
            rw [map_take _ hj.out]
            congr 1
            have : outAt rules j = x := by
              unfold outAt; rw [hjn]; show (rules[n]?.map (·.2)).getD 0 = x; rw [hx.out]; rfl
            rw [this]
          have hlen : ((M.take k).map (outAt rules)).length = k := by rw [List.length_map, List.length_take]; omega
          have HL := Lib.hid hlen
          subst hjn
          have hn0 : (0 : Int) ≤ n := by omega
          have hn1 : (n : Int) < rules.length := by omega
          have hbz := hbl.alloc hsz (.cells #[.int .i64 x] 3)
          have HO1 := Lib.hid (HO.out.alloc (.cells #[.int .i64 x] 3))
          have HY : Hid (Enc.int.rd (wr.alloc (.cells #[.int .i64 x] 3)) (Off w2.heap.size (wr.alloc (.cells #[.int .i64 x] 3)) u7) x [.int .i64 x]) := rfl
          clear hr hown hlen hnr
          go_wp2_with (at_builtin; refine wpList_append_one (E := Enc.int) _ rfl _ _ 27 rfl w2.heap.size w2.heap.size 3 8 (.int .i64 0) under_intsT infoIntT rfl (by decide) _ _ rfl HO1.out ⟨wr.heap.size, 0, none⟩ x [.int .i64 x] rfl HY.out (cell_one_new _ _ _) (by rw [HL.out]; omega) (by rw [HL.out]; unfold maxLen; omega) (by simp; omega) ?_; intro v' w3 hown' hgrow3 _)
          refine ⟨⟨k + 1, by omega, by go_num, by rw [HTK.out]; exact hown', hbz.grown hgrow3 (by simp; omega) (fun _ hr => (HO.out.lt _ hr).1)⟩, by simp [intOf]; omega⟩
        · have e : M.take k = M := List.take_of_length_le (by omega)
          rw [e, HX2.out] at hown
          have HO := Lib.hid (hown.slOld (Nat.le_refl _))
          have a1 := (hbl.cell (p := ⟨w.heap.size, 1, none⟩) hg2).trans i1
          have hgr := Nat.lt_of_lt_of_le hg2 hsz
          clear hown e
          obtain ⟨hob1, hob2⟩ := HBD.out
          have HB2 := Lib.hid hob2
          clear hob2
          generalize outsL rules l = O at *
          obtain ⟨D, g, rfl, hg1', hg2'⟩ := HO.out.form
          unfold maxLen at hg2'
          by_cases hp7 : pol = 7
          · have hp7' : (pol == 7) = true := by rw [hp7]; rfl
            have HC : Hid (R = ((O.length : Int), true, 0)) := by
              show _ = _
              rw [HV.out, hp7]
              unfold saysO
              rw [if_neg (by simp), conflict_other (by omega) (by omega)]; rfl
            clear hp7
            go_wp2
            go_ret3
            exact ⟨says_eq _ _ _ HC.out, bx hb02 hbl⟩
          · have hp7' : (pol == 7) = false := beq_eq_false_iff_ne.2 hp7
            by_cases h0 : O.length = 0
            · have HC : Hid (R = (0, false, 0)) := by show _ = _; rw [HV.out]; unfold saysO; rw [if_pos ⟨h0, hp7⟩]
              have h0' : ((O.length : Int) == 0) = true := by rw [h0]; rfl
              clear h0 hp7
              go_wp2
              go_ret3
              exact ⟨says_eq _ _ _ HC.out, bx hb02 hbl⟩
            · obtain ⟨b0, o0, a0, e0, hS0, ha0, c0⟩ := HO.out.num_at (k := 0) (by omega)
              subst e0
              have c0' : wr.cell? ⟨b0, o0, none⟩ = some (.int .i64 a0) := by simpa using c0
              have HA0 := Lib.hid ha0.out
              have HMN : Hid (O.foldl min a0 = minL O) := by
                have := HA0.out
                cases O with
                | nil => simp at this
                | cons z O => simp at this; subst this; simp [minL, Hid]
              have HMX : Hid (O.foldl max a0 = maxL O) := by
                have := HA0.out
                cases O with
                | nil => simp at this
                | cons z O => simp at this; subst this; simp [maxL, Hid]
              have HHD : Hid (O.headD 0 = a0) := by
                have := HA0.out
                cases O with
                | nil => simp at this
                | cons z O => simpa [Hid] using this
              have HNC : Hid (R = if conflictB pol O then (0, false, 4) else (combineV pol O, true, 0)) := by
                show _ = _
                rw [HV.out]; unfold saysO; rw [if_neg (fun hh => h0 hh.1)]
              have HC2 : Hid (conflictB 2 O = decide (minL O ≠ maxL O)) := conflict_minmax (by omega)
              have hP := HPB.out HG.out
              (try simp only at hP)
              have hpol : pol = 1 ∨ pol = 2 ∨ pol = 3 ∨ pol = 4 ∨ pol = 5 ∨ pol = 6 := by omega
              have HPOL := Lib.hid hpol
              clear hpol hP c0 hp7 ha0
              have h0' : ((O.length : Int) == 0) = false := beq_eq_false_iff_ne.2 (by omega)
              generalize hN : O.length = N at *
              have HN' := Lib.hid hN
              clear hN
              have hn0 : 0 < N := by omega
              have hn0' : (0 : Int) < N := by omega
              have hb2l := bx hb02 hbl
              go_wp2_with fail
              go_quiet (fail)
              obtain ⟨wq, hwq⟩ : ∃ wq, wr.drewN nq = wq := ⟨_, rfl⟩
              have a1q : wq.cell? ⟨w.heap.size, 1, none⟩ = some (.int .i64 pol) := by subst hwq; exact a1
              have HOq : Hid (Sl Enc.int wq (Old wq) O (.slice (some ⟨b0, o0, none⟩) N g)) := by subst hwq; exact HO.out
              have c0q : wq.cell? ⟨b0, o0, none⟩ = some (.int .i64 a0) := by subst hwq; exact c0'
              have hbq : Below w.heap.size w wq := by subst hwq; exact below_drewN hb2l _
              have hgq : w.heap.size < wq.heap.size := by subst hwq; exact hgr
              rw [hwq]
              clear hwq a1 HO c0' hb2l
              go_wp2
              go_loopw [11, 12, 13, 61] (fun lo hi sm i wi => ∃ k : Nat, k ≤ N ∧ i = .int .i64 k ∧ lo = .int .i64 ((O.take k).foldl min a0) ∧ hi = .int .i64 ((O.take k).foldl max a0) ∧ sm = .int .i64 (O.take k).sum ∧ Below wq.heap.size wq wi) (fun _ _ _ i _ => N - (intOf i).toNat)
              case atStart => exact ⟨0, Nat.zero_le _, rfl, rfl, rfl, rfl, Below.refl _ _⟩
              case round =>
                rename World => wi
                obtain ⟨kk, hkk, rfl, rfl, rfl, rfl, hbi⟩ := hrel
                by_cases hlt2 : kk < N
                · obtain ⟨b1, o1, y, e1, _, hy, c1⟩ := (HOq.out.onOld hbi).num_at (show kk < O.length by rw [HN'.out]; exact hlt2)
                  obtain ⟨rfl, rfl⟩ := some_addr e1
                  have h1 := sum_take_bound HB2.out kk
                  have h2 := HB2.out y (List.mem_of_getElem? hy.out)
                  have HT1 := Lib.hid (sum_take hy.out)
                  have HT2 : Hid ((O.take (kk + 1)).foldl min a0 = min ((O.take kk).foldl min a0) y) := by show _ = _; rw [take_at hy.out, List.foldl_append]; rfl
                  have HT3 : Hid ((O.take (kk + 1)).foldl max a0 = max ((O.take kk).foldl max a0) y) := by show _ = _; rw [take_at hy.out, List.foldl_append]; rfl
                  generalize (O.take kk).sum = T1 at *
                  generalize (O.take kk).foldl min a0 = T2 at *
                  generalize (O.take kk).foldl max a0 = T3 at *
                  have hkk6 : kk ≤ 6 := by omega
                  have w1' : IntKind.i64.wrap (T1 + y) = T1 + y := IntWalk.i64_in _ (by omega)
                  go_wp2
                  refine ⟨⟨kk + 1, by omega, by go_num, ?_, ?_, by rw [HT1.out], hbi⟩, by simp [intOf]; omega⟩
                  · rw [HT2.out]
                  · rw [HT3.out]
                · have ee : O.take kk = O := List.take_of_length_le (by rw [HN'.out]; omega)
                  rw [ee, HMN.out, HMX.out]
                  have a1i := (hbi.cell (p := ⟨w.heap.size, 1, none⟩) hgq).trans a1q
                  have c0i := (hbi.cell (p := ⟨b0, o0, none⟩) (World.block_lt_of_cell? wq _ c0q)).trans c0q
                  have hbqi := bx hbq hbi
                  have HOS : Hid (combineV pol O = if pol = 4 then minL O else if pol = 5 then maxL O else if pol = 6 then O.sum else if pol = 7 then (O.length : Int) else O.headD 0) := rfl
                  have HBA : Hid ((Lit.int .i64 a0).wf = true) := wf_i64 (by have := HB2.out a0 (List.mem_of_getElem? HA0.out); omega)
                  have HBM : Hid ((Lit.int .i64 (minL O)).wf = true) := wf_i64 (by have := HB2.out _ (minL_spec (l := O) (by rw [HN'.out]; omega)).1; omega)
                  have HBX : Hid ((Lit.int .i64 (maxL O)).wf = true) := wf_i64 (by have := HB2.out _ (maxL_spec (l := O) (by rw [HN'.out]; omega)).1; omega)
                  have HBS : Hid ((Lit.int .i64 O.sum).wf = true) := wf_i64 (by have h1 := sum_take_bound HB2.out N; rw [List.take_of_length_le (by rw [HN'.out]; omega)] at h1; omega)
                  clear a1q c0q ee
                  generalize minL O = mn at *
                  generalize maxL O = mx at *
                  generalize O.sum = sm at *
                  have hmm := @run_makeMap Tryz.prog
                  have hgi : w.heap.size < wi.drew.heap.size := Nat.lt_of_lt_of_le hgq hbi.size
                  have hgb : b0 < wi.drew.heap.size := World.block_lt_of_cell? wi _ c0i
                  have hbd : Below w.heap.size w wi.drew := hbqi.drew
                  have hbm := below_alloc1 wi.drew (.map #[] 0)
                  rcases HPOL.out with rfl | rfl | rfl | rfl | rfl | rfl
                  case inl =>
                    by_cases hcf : (1 : Int) < N
                    · have HC : Hid (R = (0, false, 4)) := by show _ = _; rw [HNC.out, conflict_one, HN'.out, if_pos (by simp; omega)]
                      go_wp2
                      go_ret3
                      exact ⟨says_eq _ _ _ HC.out, hbqi⟩
                    · have HC : Hid (R = (a0, true, 0)) := by show _ = _; rw [HNC.out, conflict_one, HN'.out, if_neg (by simp; omega), HOS.out, if_neg (by decide), if_neg (by decide), if_neg (by decide), if_neg (by decide), HHD.out]
                      have hT : ∀ u u' : World, (fun w' : World => w'.cell? ⟨w.heap.size, 1, none⟩ = some (.int .i64 1) ∧ w'.cell? ⟨b0, o0, none⟩ = some (.int .i64 a0)) u → u.mapTurned u' wi.drew.heap.size → (fun w' : World => w'.cell? ⟨w.heap.size, 1, none⟩ = some (.int .i64 1) ∧ w'.cell? ⟨b0, o0, none⟩ = some (.int .i64 a0)) u' := fun u u' hu ht => ⟨(World.cell?_of_block (a := ⟨w.heap.size, 1, none⟩) (ht.grown.block _ (World.block_lt_of_cell? u _ hu.1) (by intro e; injection e with e; have e2 : w.heap.size = wi.drew.heap.size := (by first | exact e | exact e.symm); omega))).trans hu.1, (World.cell?_of_block (a := ⟨b0, o0, none⟩) (ht.grown.block _ (World.block_lt_of_cell? u _ hu.2) (by intro e; injection e with e; have e2 : b0 = wi.drew.heap.size := (by first | exact e | exact e.symm); omega))).trans hu.2⟩
                      go_wp2_with fail
                      refine wp_region_held_drew (S := (fun w' : World => w'.cell? ⟨w.heap.size, 1, none⟩ = some (.int .i64 1) ∧ w'.cell? ⟨b0, o0, none⟩ = some (.int .i64 a0))) (by kernel_rfl) ⟨a1i, c0i⟩ (fun hHeld => ?_)
                      generalize wi.drew = wd at *
                      refine' wpAnyH_take (i := 1) (oi := { dst := some 93, op := .move (.tmp 7), type := 27, pos := "low.go:256", after := #[], guard := none }) (v := _) (fuel := 25) rfl (by kernel_rfl) (by kernel_rfl) (by kernel_rfl) (fun _ _ _ h => h) (Or.inl ⟨by rfl, ?hy1p1⟩) (by assumption) ?rest1p1
                      case hy1p1 => (intro w' hSw; (try dsimp only at hSw); go_simp; try with_reducible rfl)
                      simp only [Act.put, List.setIfInBounds_toArray, List.set_cons_zero, List.set_cons_succ]
                      refine' wpAnyH_take (i := 2) (oi := { dst := some 94, op := .indexAddr 27 (.tmp 93) (.const (.int .i64 0)), type := 0, pos := "low.go:256", after := #[{ on := 1, ground := .data }], guard := none }) (v := _) (fuel := 24) rfl (by kernel_rfl) (by kernel_rfl) (by kernel_rfl) (fun _ _ _ h => h) (Or.inl ⟨by rfl, ?hy2p1⟩) (by assumption) ?rest2p1
                      case hy2p1 => (intro w' hSw; (try dsimp only at hSw); go_simp; try with_reducible rfl)
                      simp only [Act.put, List.setIfInBounds_toArray, List.set_cons_zero, List.set_cons_succ]
                      refine' wpAnyH_take (i := 3) (oi := { dst := some 95, op := .load 3 (.tmp 94), type := 3, pos := "low.go:256", after := #[{ on := 2, ground := .data }], guard := none }) (v := _) (fuel := 23) rfl (by kernel_rfl) (by kernel_rfl) (by kernel_rfl) (fun _ _ _ h => h) (Or.inl ⟨by rfl, ?hy3p1⟩) (by assumption) ?rest3p1
                      case hy3p1 => (intro w' hSw; (try dsimp only at hSw); go_simp; try with_reducible rfl)
                      simp only [Act.put, List.setIfInBounds_toArray, List.set_cons_zero, List.set_cons_succ]
                      refine' wpAnyH_take (i := 5) (oi := { dst := some 96, op := .move (.tmp 7), type := 27, pos := "low.go:256", after := #[], guard := none }) (v := _) (fuel := 22) rfl (by kernel_rfl) (by kernel_rfl) (by kernel_rfl) (fun _ _ _ h => h) (Or.inl ⟨by rfl, ?hy5p1⟩) (by assumption) ?rest5p1
                      case hy5p1 => (intro w' hSw; (try dsimp only at hSw); go_simp; try with_reducible rfl)
                      simp only [Act.put, List.setIfInBounds_toArray, List.set_cons_zero, List.set_cons_succ]
                      refine' wpAnyH_take (i := 6) (oi := { dst := some 97, op := .indexAddr 27 (.tmp 96) (.const (.int .i64 0)), type := 0, pos := "low.go:256", after := #[{ on := 5, ground := .data }], guard := none }) (v := _) (fuel := 21) rfl (by kernel_rfl) (by kernel_rfl) (by kernel_rfl) (fun _ _ _ h => h) (Or.inl ⟨by rfl, ?hy6p1⟩) (by assumption) ?rest6p1
                      case hy6p1 => (intro w' hSw; (try dsimp only at hSw); go_simp; try with_reducible rfl)
                      simp only [Act.put, List.setIfInBounds_toArray, List.set_cons_zero, List.set_cons_succ]
                      refine' wpAnyH_take (i := 7) (oi := { dst := some 98, op := .load 3 (.tmp 97), type := 3, pos := "low.go:256", after := #[{ on := 6, ground := .data }], guard := none }) (v := _) (fuel := 20) rfl (by kernel_rfl) (by kernel_rfl) (by kernel_rfl) (fun _ _ _ h => h) (Or.inl ⟨by rfl, ?hy7p1⟩) (by assumption) ?rest7p1
                      case hy7p1 => (intro w' hSw; (try dsimp only at hSw); go_simp; try with_reducible rfl)
                      simp only [Act.put, List.setIfInBounds_toArray, List.set_cons_zero, List.set_cons_succ]
                      refine' wpAnyH_take (i := 9) (oi := { dst := some 99, op := .move (.tmp 7), type := 27, pos := "low.go:256", after := #[], guard := none }) (v := _) (fuel := 19) rfl (by kernel_rfl) (by kernel_rfl) (by kernel_rfl) (fun _ _ _ h => h) (Or.inl ⟨by rfl, ?hy9p1⟩) (by assumption) ?rest9p1
                      case hy9p1 => (intro w' hSw; (try dsimp only at hSw); go_simp; try with_reducible rfl)
                      simp only [Act.put, List.setIfInBounds_toArray, List.set_cons_zero, List.set_cons_succ]
                      refine' wpAnyH_take (i := 10) (oi := { dst := some 100, op := .indexAddr 27 (.tmp 99) (.const (.int .i64 0)), type := 0, pos := "low.go:256", after := #[{ on := 9, ground := .data }], guard := none }) (v := _) (fuel := 18) rfl (by kernel_rfl) (by kernel_rfl) (by kernel_rfl) (fun _ _ _ h => h) (Or.inl ⟨by rfl, ?hy10p1⟩) (by assumption) ?rest10p1
                      case hy10p1 => (intro w' hSw; (try dsimp only at hSw); go_simp; try with_reducible rfl)
                      simp only [Act.put, List.setIfInBounds_toArray, List.set_cons_zero, List.set_cons_succ]
                      refine' wpAnyH_take (i := 11) (oi := { dst := some 101, op := .load 3 (.tmp 100), type := 3, pos := "low.go:256", after := #[{ on := 10, ground := .data }], guard := none }) (v := _) (fuel := 17) rfl (by kernel_rfl) (by kernel_rfl) (by kernel_rfl) (fun _ _ _ h => h) (Or.inl ⟨by rfl, ?hy11p1⟩) (by assumption) ?rest11p1
                      case hy11p1 => (intro w' hSw; (try dsimp only at hSw); go_simp; try with_reducible rfl)
                      simp only [Act.put, List.setIfInBounds_toArray, List.set_cons_zero, List.set_cons_succ]
                      refine' wpAnyH_take (i := 13) (oi := { dst := some 102, op := .move (.tmp 11), type := 3, pos := "low.go:256", after := #[], guard := none }) (v := _) (fuel := 16) rfl (by kernel_rfl) (by kernel_rfl) (by kernel_rfl) (fun _ _ _ h => h) (Or.inl ⟨by rfl, ?hy13p1⟩) (by assumption) ?rest13p1
                      case hy13p1 => (intro w' hSw; (try dsimp only at hSw); go_simp; try with_reducible rfl)
                      simp only [Act.put, List.setIfInBounds_toArray, List.set_cons_zero, List.set_cons_succ]
                      refine' wpAnyH_take (i := 15) (oi := { dst := some 103, op := .move (.tmp 12), type := 3, pos := "low.go:256", after := #[], guard := none }) (v := _) (fuel := 15) rfl (by kernel_rfl) (by kernel_rfl) (by kernel_rfl) (fun _ _ _ h => h) (Or.inl ⟨by rfl, ?hy15p1⟩) (by assumption) ?rest15p1
                      case hy15p1 => (intro w' hSw; (try dsimp only at hSw); go_simp; try with_reducible rfl)
                      simp only [Act.put, List.setIfInBounds_toArray, List.set_cons_zero, List.set_cons_succ]
                      refine' wpAnyH_take (i := 17) (oi := { dst := some 104, op := .move (.tmp 13), type := 3, pos := "low.go:256", after := #[], guard := none }) (v := _) (fuel := 14) rfl (by kernel_rfl) (by kernel_rfl) (by kernel_rfl) (fun _ _ _ h => h) (Or.inl ⟨by rfl, ?hy17p1⟩) (by assumption) ?rest17p1
                      case hy17p1 => (intro w' hSw; (try dsimp only at hSw); go_simp; try with_reducible rfl)
                      simp only [Act.put, List.setIfInBounds_toArray, List.set_cons_zero, List.set_cons_succ]
                      refine' wpAnyH_take (i := 20) (oi := { dst := some 106, op := .fieldAddr 59 (.tmp 2) 1, type := 0, pos := "low.go:256", after := #[], guard := none }) (v := _) (fuel := 13) rfl (by kernel_rfl) (by kernel_rfl) (by kernel_rfl) (fun _ _ _ h => h) (Or.inl ⟨by rfl, ?hy20p1⟩) (by assumption) ?rest20p1
                      case hy20p1 => (intro w' hSw; (try dsimp only at hSw); go_simp; try with_reducible rfl)
                      simp only [Act.put, List.setIfInBounds_toArray, List.set_cons_zero, List.set_cons_succ]
                      refine' wpAnyH_take (i := 21) (oi := { dst := some 107, op := .load 3 (.tmp 106), type := 3, pos := "low.go:256", after := #[{ on := 20, ground := .data }], guard := none }) (v := _) (fuel := 12) rfl (by kernel_rfl) (by kernel_rfl) (by kernel_rfl) (fun _ _ _ h => h) (Or.inl ⟨by rfl, ?hy21p1⟩) (by assumption) ?rest21p1
                      case hy21p1 => (intro w' hSw; (try dsimp only at hSw); go_simp; try with_reducible rfl)
                      simp only [Act.put, List.setIfInBounds_toArray, List.set_cons_zero, List.set_cons_succ]
                      refine wpAnyH_ready (rs := [0]) (fuel := 11) (by kernel_rfl) (by simp) ?_
                      refine AllReadyH.cons (o := { dst := some 92, op := .makeMap 152 none, type := 152, pos := "low.go:256", after := #[], guard := none }) rfl (fun K hK => ?_) AllReadyH.nil
                      go_simp
                      refine hK.out _ _ ⟨(hbm.cell (p := ⟨w.heap.size, 1, none⟩) hgi).trans hHeld.1, (hbm.cell (p := ⟨b0, o0, none⟩) hgb).trans hHeld.2⟩ (fun hHeld2 => ?_)
                      clear hK K
                      (try simp only [Act.put, List.setIfInBounds_toArray, List.set_cons_zero, List.set_cons_succ])
                      refine wpAnyH_swept 5 #[true, true, true, true, true, true, true, true, true, true, true, true, true, true, true, true, true, true, true, false, true, true, false, false, false, false] [4, 8, 12, 14, 16, 18] (PickJ wd.heap.size (fun w' : World => w'.cell? ⟨w.heap.size, 1, none⟩ = some (.int .i64 1) ∧ w'.cell? ⟨b0, o0, none⟩ = some (.int .i64 a0)) wd 4 1 a0) (by kernel_rfl) rfl (by decide) (by kernel_rfl) ?j0p1 ?stepp1 ?finp1
                      case j0p1 => exact ⟨hHeld2, hbm, 0, .map [], by simp, World.ownsMap_made _ _ _ _, fun hh => absurd (by simp) hh⟩
                      case stepp1 =>
                        intro rem w5 i hi hsub hJ
                        have hti := mem_subs hsub hi
                        simp only [List.mem_cons, List.not_mem_nil, or_false] at hti
                        rcases hti with rfl | rfl | rfl | rfl | rfl | rfl
                        · exact pick_step (Nat.le_refl _) hT hJ 4 hi 1 a0 _ rfl (.tmp 92) (.tmp 95) rfl rfl rfl rfl rfl (by decide) HBA.out (fun _ => ⟨rfl, rfl⟩) (fun h => absurd rfl h)
                        · exact pick_step (Nat.le_refl _) hT hJ 8 hi 2 a0 _ rfl (.tmp 92) (.tmp 98) rfl rfl rfl rfl rfl (by decide) HBA.out (fun h => absurd h (by decide)) (fun _ => by decide)
                        · exact pick_step (Nat.le_refl _) hT hJ 12 hi 3 a0 _ rfl (.tmp 92) (.tmp 101) rfl rfl rfl rfl rfl (by decide) HBA.out (fun h => absurd h (by decide)) (fun _ => by decide)
                        · exact pick_step (Nat.le_refl _) hT hJ 14 hi 4 mn _ rfl (.tmp 92) (.tmp 102) rfl rfl rfl rfl rfl (by decide) HBM.out (fun h => absurd h (by decide)) (fun _ => by decide)
                        · exact pick_step (Nat.le_refl _) hT hJ 16 hi 5 mx _ rfl (.tmp 92) (.tmp 103) rfl rfl rfl rfl rfl (by decide) HBX.out (fun h => absurd h (by decide)) (fun _ => by decide)
                        · exact pick_step (Nat.le_refl _) hT hJ 18 hi 6 sm _ rfl (.tmp 92) (.tmp 104) rfl rfl rfl rfl rfl (by decide) HBS.out (fun h => absurd h (by decide)) (fun _ => by decide)
                      case finp1 =>
                        intro w6 hJ
                        have hrun := pick_look hJ (by decide)
                        obtain ⟨hS6, hb6, -⟩ := hJ
                        refine wpAnyH_ready (rs := [19]) (fuel := 4) (by kernel_rfl) (by simp) ?_
                        refine AllReadyH.cons (o := _) rfl (fun K hK => ?_) AllReadyH.nil
                        go_simp
                        refine hK.out _ _ hS6 (fun _ => ?_)
                        clear hK K
                        (try simp only [Act.put, List.setIfInBounds_toArray, List.set_cons_zero, List.set_cons_succ])
                        refine wpAnyH_ready (rs := [22]) (fuel := 3) (by kernel_rfl) (by simp) ?_
                        refine AllReadyH.cons (o := _) rfl (fun K hK => ?_) AllReadyH.nil
                        go_simp
                        refine hK.out _ _ hS6 (fun _ => ?_)
                        clear hK K
                        (try simp only [Act.put, List.setIfInBounds_toArray, List.set_cons_zero, List.set_cons_succ])
                        refine wpAnyH_ready (rs := [23]) (fuel := 2) (by kernel_rfl) (by simp) ?_
                        refine AllReadyH.cons (o := _) rfl (fun K hK => ?_) AllReadyH.nil
                        go_simp
                        refine hK.out _ _ hS6 (fun _ => ?_)
                        clear hK K
                        (try simp only [Act.put, List.setIfInBounds_toArray, List.set_cons_zero, List.set_cons_succ])
                        refine wpAnyH_ready (rs := [24]) (fuel := 1) (by kernel_rfl) (by simp) ?_
                        refine AllReadyH.cons (o := _) rfl (fun K hK => ?_) AllReadyH.nil
                        go_simp
                        refine hK.out _ _ hS6 (fun _ => ?_)
                        clear hK K
                        (try simp only [Act.put, List.setIfInBounds_toArray, List.set_cons_zero, List.set_cons_succ])
                        refine wpAnyH_ready (rs := [25]) (fuel := 0) (by kernel_rfl) (by simp) ?_
                        refine AllReadyH.cons (o := _) rfl (fun K hK => ?_) AllReadyH.nil
                        go_simp
                        refine hK.out _ _ hS6 (fun _ => ?_)
                        clear hK K
                        (try simp only [Act.put, List.setIfInBounds_toArray, List.set_cons_zero, List.set_cons_succ])
                        refine wpAnyH_done (by kernel_rfl) ?_ _
                        go_wp2
                        go_ret3
                        exact ⟨says_eq _ _ _ HC.out, bx hbd hb6⟩
                  case inr.inl =>
                    by_cases hcf : mn = mx
                    · have hcf' : (mn != mx) = false := by simp [hcf]
                      have HC : Hid (R = (a0, true, 0)) := by show _ = _; rw [HNC.out, HC2.out, if_neg (by simp [hcf]), HOS.out, if_neg (by decide), if_neg (by decide), if_neg (by decide), if_neg (by decide), HHD.out]
                      clear hcf
                      have hT : ∀ u u' : World, (fun w' : World => w'.cell? ⟨w.heap.size, 1, none⟩ = some (.int .i64 2) ∧ w'.cell? ⟨b0, o0, none⟩ = some (.int .i64 a0)) u → u.mapTurned u' wi.drew.heap.size → (fun w' : World => w'.cell? ⟨w.heap.size, 1, none⟩ = some (.int .i64 2) ∧ w'.cell? ⟨b0, o0, none⟩ = some (.int .i64 a0)) u' := fun u u' hu ht => ⟨(World.cell?_of_block (a := ⟨w.heap.size, 1, none⟩) (ht.grown.block _ (World.block_lt_of_cell? u _ hu.1) (by intro e; injection e with e; have e2 : w.heap.size = wi.drew.heap.size := (by first | exact e | exact e.symm); omega))).trans hu.1, (World.cell?_of_block (a := ⟨b0, o0, none⟩) (ht.grown.block _ (World.block_lt_of_cell? u _ hu.2) (by intro e; injection e with e; have e2 : b0 = wi.drew.heap.size := (by first | exact e | exact e.symm); omega))).trans hu.2⟩
                      go_wp2_with fail
                      refine wp_region_held_drew (S := (fun w' : World => w'.cell? ⟨w.heap.size, 1, none⟩ = some (.int .i64 2) ∧ w'.cell? ⟨b0, o0, none⟩ = some (.int .i64 a0))) (by kernel_rfl) ⟨a1i, c0i⟩ (fun hHeld => ?_)
                      generalize wi.drew = wd at *
                      refine' wpAnyH_take (i := 1) (oi := { dst := some 93, op := .move (.tmp 7), type := 27, pos := "low.go:256", after := #[], guard := none }) (v := _) (fuel := 25) rfl (by kernel_rfl) (by kernel_rfl) (by kernel_rfl) (fun _ _ _ h => h) (Or.inl ⟨by rfl, ?hy1p2⟩) (by assumption) ?rest1p2
                      case hy1p2 => (intro w' hSw; (try dsimp only at hSw); go_simp; try with_reducible rfl)
                      simp only [Act.put, List.setIfInBounds_toArray, List.set_cons_zero, List.set_cons_succ]
                      refine' wpAnyH_take (i := 2) (oi := { dst := some 94, op := .indexAddr 27 (.tmp 93) (.const (.int .i64 0)), type := 0, pos := "low.go:256", after := #[{ on := 1, ground := .data }], guard := none }) (v := _) (fuel := 24) rfl (by kernel_rfl) (by kernel_rfl) (by kernel_rfl) (fun _ _ _ h => h) (Or.inl ⟨by rfl, ?hy2p2⟩) (by assumption) ?rest2p2
                      case hy2p2 => (intro w' hSw; (try dsimp only at hSw); go_simp; try with_reducible rfl)
                      simp only [Act.put, List.setIfInBounds_toArray, List.set_cons_zero, List.set_cons_succ]
                      refine' wpAnyH_take (i := 3) (oi := { dst := some 95, op := .load 3 (.tmp 94), type := 3, pos := "low.go:256", after := #[{ on := 2, ground := .data }], guard := none }) (v := _) (fuel := 23) rfl (by kernel_rfl) (by kernel_rfl) (by kernel_rfl) (fun _ _ _ h => h) (Or.inl ⟨by rfl, ?hy3p2⟩) (by assumption) ?rest3p2
                      case hy3p2 => (intro w' hSw; (try dsimp only at hSw); go_simp; try with_reducible rfl)
                      simp only [Act.put, List.setIfInBounds_toArray, List.set_cons_zero, List.set_cons_succ]
                      refine' wpAnyH_take (i := 5) (oi := { dst := some 96, op := .move (.tmp 7), type := 27, pos := "low.go:256", after := #[], guard := none }) (v := _) (fuel := 22) rfl (by kernel_rfl) (by kernel_rfl) (by kernel_rfl) (fun _ _ _ h => h) (Or.inl ⟨by rfl, ?hy5p2⟩) (by assumption) ?rest5p2
                      case hy5p2 => (intro w' hSw; (try dsimp only at hSw); go_simp; try with_reducible rfl)
                      simp only [Act.put, List.setIfInBounds_toArray, List.set_cons_zero, List.set_cons_succ]
                      refine' wpAnyH_take (i := 6) (oi := { dst := some 97, op := .indexAddr 27 (.tmp 96) (.const (.int .i64 0)), type := 0, pos := "low.go:256", after := #[{ on := 5, ground := .data }], guard := none }) (v := _) (fuel := 21) rfl (by kernel_rfl) (by kernel_rfl) (by kernel_rfl) (fun _ _ _ h => h) (Or.inl ⟨by rfl, ?hy6p2⟩) (by assumption) ?rest6p2
                      case hy6p2 => (intro w' hSw; (try dsimp only at hSw); go_simp; try with_reducible rfl)
                      simp only [Act.put, List.setIfInBounds_toArray, List.set_cons_zero, List.set_cons_succ]
                      refine' wpAnyH_take (i := 7) (oi := { dst := some 98, op := .load 3 (.tmp 97), type := 3, pos := "low.go:256", after := #[{ on := 6, ground := .data }], guard := none }) (v := _) (fuel := 20) rfl (by kernel_rfl) (by kernel_rfl) (by kernel_rfl) (fun _ _ _ h => h) (Or.inl ⟨by rfl, ?hy7p2⟩) (by assumption) ?rest7p2
                      case hy7p2 => (intro w' hSw; (try dsimp only at hSw); go_simp; try with_reducible rfl)
                      simp only [Act.put, List.setIfInBounds_toArray, List.set_cons_zero, List.set_cons_succ]
                      refine' wpAnyH_take (i := 9) (oi := { dst := some 99, op := .move (.tmp 7), type := 27, pos := "low.go:256", after := #[], guard := none }) (v := _) (fuel := 19) rfl (by kernel_rfl) (by kernel_rfl) (by kernel_rfl) (fun _ _ _ h => h) (Or.inl ⟨by rfl, ?hy9p2⟩) (by assumption) ?rest9p2
                      case hy9p2 => (intro w' hSw; (try dsimp only at hSw); go_simp; try with_reducible rfl)
                      simp only [Act.put, List.setIfInBounds_toArray, List.set_cons_zero, List.set_cons_succ]
                      refine' wpAnyH_take (i := 10) (oi := { dst := some 100, op := .indexAddr 27 (.tmp 99) (.const (.int .i64 0)), type := 0, pos := "low.go:256", after := #[{ on := 9, ground := .data }], guard := none }) (v := _) (fuel := 18) rfl (by kernel_rfl) (by kernel_rfl) (by kernel_rfl) (fun _ _ _ h => h) (Or.inl ⟨by rfl, ?hy10p2⟩) (by assumption) ?rest10p2
                      case hy10p2 => (intro w' hSw; (try dsimp only at hSw); go_simp; try with_reducible rfl)
                      simp only [Act.put, List.setIfInBounds_toArray, List.set_cons_zero, List.set_cons_succ]
                      refine' wpAnyH_take (i := 11) (oi := { dst := some 101, op := .load 3 (.tmp 100), type := 3, pos := "low.go:256", after := #[{ on := 10, ground := .data }], guard := none }) (v := _) (fuel := 17) rfl (by kernel_rfl) (by kernel_rfl) (by kernel_rfl) (fun _ _ _ h => h) (Or.inl ⟨by rfl, ?hy11p2⟩) (by assumption) ?rest11p2
                      case hy11p2 => (intro w' hSw; (try dsimp only at hSw); go_simp; try with_reducible rfl)
                      simp only [Act.put, List.setIfInBounds_toArray, List.set_cons_zero, List.set_cons_succ]
                      refine' wpAnyH_take (i := 13) (oi := { dst := some 102, op := .move (.tmp 11), type := 3, pos := "low.go:256", after := #[], guard := none }) (v := _) (fuel := 16) rfl (by kernel_rfl) (by kernel_rfl) (by kernel_rfl) (fun _ _ _ h => h) (Or.inl ⟨by rfl, ?hy13p2⟩) (by assumption) ?rest13p2
                      case hy13p2 => (intro w' hSw; (try dsimp only at hSw); go_simp; try with_reducible rfl)
                      simp only [Act.put, List.setIfInBounds_toArray, List.set_cons_zero, List.set_cons_succ]
                      refine' wpAnyH_take (i := 15) (oi := { dst := some 103, op := .move (.tmp 12), type := 3, pos := "low.go:256", after := #[], guard := none }) (v := _) (fuel := 15) rfl (by kernel_rfl) (by kernel_rfl) (by kernel_rfl) (fun _ _ _ h => h) (Or.inl ⟨by rfl, ?hy15p2⟩) (by assumption) ?rest15p2
                      case hy15p2 => (intro w' hSw; (try dsimp only at hSw); go_simp; try with_reducible rfl)
                      simp only [Act.put, List.setIfInBounds_toArray, List.set_cons_zero, List.set_cons_succ]
                      refine' wpAnyH_take (i := 17) (oi := { dst := some 104, op := .move (.tmp 13), type := 3, pos := "low.go:256", after := #[], guard := none }) (v := _) (fuel := 14) rfl (by kernel_rfl) (by kernel_rfl) (by kernel_rfl) (fun _ _ _ h => h) (Or.inl ⟨by rfl, ?hy17p2⟩) (by assumption) ?rest17p2
                      case hy17p2 => (intro w' hSw; (try dsimp only at hSw); go_simp; try with_reducible rfl)
                      simp only [Act.put, List.setIfInBounds_toArray, List.set_cons_zero, List.set_cons_succ]
                      refine' wpAnyH_take (i := 20) (oi := { dst := some 106, op := .fieldAddr 59 (.tmp 2) 1, type := 0, pos := "low.go:256", after := #[], guard := none }) (v := _) (fuel := 13) rfl (by kernel_rfl) (by kernel_rfl) (by kernel_rfl) (fun _ _ _ h => h) (Or.inl ⟨by rfl, ?hy20p2⟩) (by assumption) ?rest20p2
                      case hy20p2 => (intro w' hSw; (try dsimp only at hSw); go_simp; try with_reducible rfl)
                      simp only [Act.put, List.setIfInBounds_toArray, List.set_cons_zero, List.set_cons_succ]
                      refine' wpAnyH_take (i := 21) (oi := { dst := some 107, op := .load 3 (.tmp 106), type := 3, pos := "low.go:256", after := #[{ on := 20, ground := .data }], guard := none }) (v := _) (fuel := 12) rfl (by kernel_rfl) (by kernel_rfl) (by kernel_rfl) (fun _ _ _ h => h) (Or.inl ⟨by rfl, ?hy21p2⟩) (by assumption) ?rest21p2
                      case hy21p2 => (intro w' hSw; (try dsimp only at hSw); go_simp; try with_reducible rfl)
                      simp only [Act.put, List.setIfInBounds_toArray, List.set_cons_zero, List.set_cons_succ]
                      refine wpAnyH_ready (rs := [0]) (fuel := 11) (by kernel_rfl) (by simp) ?_
                      refine AllReadyH.cons (o := { dst := some 92, op := .makeMap 152 none, type := 152, pos := "low.go:256", after := #[], guard := none }) rfl (fun K hK => ?_) AllReadyH.nil
                      go_simp
                      refine hK.out _ _ ⟨(hbm.cell (p := ⟨w.heap.size, 1, none⟩) hgi).trans hHeld.1, (hbm.cell (p := ⟨b0, o0, none⟩) hgb).trans hHeld.2⟩ (fun hHeld2 => ?_)
                      clear hK K
                      (try simp only [Act.put, List.setIfInBounds_toArray, List.set_cons_zero, List.set_cons_succ])
                      refine wpAnyH_swept 5 #[true, true, true, true, true, true, true, true, true, true, true, true, true, true, true, true, true, true, true, false, true, true, false, false, false, false] [4, 8, 12, 14, 16, 18] (PickJ wd.heap.size (fun w' : World => w'.cell? ⟨w.heap.size, 1, none⟩ = some (.int .i64 2) ∧ w'.cell? ⟨b0, o0, none⟩ = some (.int .i64 a0)) wd 8 2 a0) (by kernel_rfl) rfl (by decide) (by kernel_rfl) ?j0p2 ?stepp2 ?finp2
                      case j0p2 => exact ⟨hHeld2, hbm, 0, .map [], by simp, World.ownsMap_made _ _ _ _, fun hh => absurd (by simp) hh⟩
                      case stepp2 =>
                        intro rem w5 i hi hsub hJ
                        have hti := mem_subs hsub hi
                        simp only [List.mem_cons, List.not_mem_nil, or_false] at hti
                        rcases hti with rfl | rfl | rfl | rfl | rfl | rfl
                        · exact pick_step (Nat.le_refl _) hT hJ 4 hi 1 a0 _ rfl (.tmp 92) (.tmp 95) rfl rfl rfl rfl rfl (by decide) HBA.out (fun h => absurd h (by decide)) (fun _ => by decide)
                        · exact pick_step (Nat.le_refl _) hT hJ 8 hi 2 a0 _ rfl (.tmp 92) (.tmp 98) rfl rfl rfl rfl rfl (by decide) HBA.out (fun _ => ⟨rfl, rfl⟩) (fun h => absurd rfl h)
                        · exact pick_step (Nat.le_refl _) hT hJ 12 hi 3 a0 _ rfl (.tmp 92) (.tmp 101) rfl rfl rfl rfl rfl (by decide) HBA.out (fun h => absurd h (by decide)) (fun _ => by decide)
                        · exact pick_step (Nat.le_refl _) hT hJ 14 hi 4 mn _ rfl (.tmp 92) (.tmp 102) rfl rfl rfl rfl rfl (by decide) HBM.out (fun h => absurd h (by decide)) (fun _ => by decide)
                        · exact pick_step (Nat.le_refl _) hT hJ 16 hi 5 mx _ rfl (.tmp 92) (.tmp 103) rfl rfl rfl rfl rfl (by decide) HBX.out (fun h => absurd h (by decide)) (fun _ => by decide)
                        · exact pick_step (Nat.le_refl _) hT hJ 18 hi 6 sm _ rfl (.tmp 92) (.tmp 104) rfl rfl rfl rfl rfl (by decide) HBS.out (fun h => absurd h (by decide)) (fun _ => by decide)
                      case finp2 =>
                        intro w6 hJ
                        have hrun := pick_look hJ (by decide)
                        obtain ⟨hS6, hb6, -⟩ := hJ
                        refine wpAnyH_ready (rs := [19]) (fuel := 4) (by kernel_rfl) (by simp) ?_
                        refine AllReadyH.cons (o := _) rfl (fun K hK => ?_) AllReadyH.nil
                        go_simp
                        refine hK.out _ _ hS6 (fun _ => ?_)
                        clear hK K
                        (try simp only [Act.put, List.setIfInBounds_toArray, List.set_cons_zero, List.set_cons_succ])
                        refine wpAnyH_ready (rs := [22]) (fuel := 3) (by kernel_rfl) (by simp) ?_
                        refine AllReadyH.cons (o := _) rfl (fun K hK => ?_) AllReadyH.nil
                        go_simp
                        refine hK.out _ _ hS6 (fun _ => ?_)
                        clear hK K
                        (try simp only [Act.put, List.setIfInBounds_toArray, List.set_cons_zero, List.set_cons_succ])
                        refine wpAnyH_ready (rs := [23]) (fuel := 2) (by kernel_rfl) (by simp) ?_
                        refine AllReadyH.cons (o := _) rfl (fun K hK => ?_) AllReadyH.nil
                        go_simp
                        refine hK.out _ _ hS6 (fun _ => ?_)
                        clear hK K
                        (try simp only [Act.put, List.setIfInBounds_toArray, List.set_cons_zero, List.set_cons_succ])
                        refine wpAnyH_ready (rs := [24]) (fuel := 1) (by kernel_rfl) (by simp) ?_
                        refine AllReadyH.cons (o := _) rfl (fun K hK => ?_) AllReadyH.nil
                        go_simp
                        refine hK.out _ _ hS6 (fun _ => ?_)
                        clear hK K
                        (try simp only [Act.put, List.setIfInBounds_toArray, List.set_cons_zero, List.set_cons_succ])
                        refine wpAnyH_ready (rs := [25]) (fuel := 0) (by kernel_rfl) (by simp) ?_
                        refine AllReadyH.cons (o := _) rfl (fun K hK => ?_) AllReadyH.nil
                        go_simp
                        refine hK.out _ _ hS6 (fun _ => ?_)
                        clear hK K
                        (try simp only [Act.put, List.setIfInBounds_toArray, List.set_cons_zero, List.set_cons_succ])
                        refine wpAnyH_done (by kernel_rfl) ?_ _
                        go_wp2
                        go_ret3
                        exact ⟨says_eq _ _ _ HC.out, bx hbd hb6⟩
                    · have hcf' : (mn != mx) = true := by simpa using hcf
                      have HC : Hid (R = (0, false, 4)) := by show _ = _; rw [HNC.out, HC2.out, if_pos (by simpa using hcf)]
                      go_wp2
                      go_ret3
                      exact ⟨says_eq _ _ _ HC.out, hbqi⟩
                  case inr.inr.inl =>
                    have HC : Hid (R = (a0, true, 0)) := by show _ = _; rw [HNC.out, conflict_other (by decide) (by decide), if_neg (by decide), HOS.out, if_neg (by decide), if_neg (by decide), if_neg (by decide), if_neg (by decide), HHD.out]
                    have hT : ∀ u u' : World, (fun w' : World => w'.cell? ⟨w.heap.size, 1, none⟩ = some (.int .i64 3) ∧ w'.cell? ⟨b0, o0, none⟩ = some (.int .i64 a0)) u → u.mapTurned u' wi.drew.heap.size → (fun w' : World => w'.cell? ⟨w.heap.size, 1, none⟩ = some (.int .i64 3) ∧ w'.cell? ⟨b0, o0, none⟩ = some (.int .i64 a0)) u' := fun u u' hu ht => ⟨(World.cell?_of_block (a := ⟨w.heap.size, 1, none⟩) (ht.grown.block _ (World.block_lt_of_cell? u _ hu.1) (by intro e; injection e with e; have e2 : w.heap.size = wi.drew.heap.size := (by first | exact e | exact e.symm); omega))).trans hu.1, (World.cell?_of_block (a := ⟨b0, o0, none⟩) (ht.grown.block _ (World.block_lt_of_cell? u _ hu.2) (by intro e; injection e with e; have e2 : b0 = wi.drew.heap.size := (by first | exact e | exact e.symm); omega))).trans hu.2⟩
                    go_wp2_with fail
                    refine wp_region_held_drew (S := (fun w' : World => w'.cell? ⟨w.heap.size, 1, none⟩ = some (.int .i64 3) ∧ w'.cell? ⟨b0, o0, none⟩ = some (.int .i64 a0))) (by kernel_rfl) ⟨a1i, c0i⟩ (fun hHeld => ?_)
                    generalize wi.drew = wd at *
                    refine' wpAnyH_take (i := 1) (oi := { dst := some 93, op := .move (.tmp 7), type := 27, pos := "low.go:256", after := #[], guard := none }) (v := _) (fuel := 25) rfl (by kernel_rfl) (by kernel_rfl) (by kernel_rfl) (fun _ _ _ h => h) (Or.inl ⟨by rfl, ?hy1p3⟩) (by assumption) ?rest1p3
                    case hy1p3 => (intro w' hSw; (try dsimp only at hSw); go_simp; try with_reducible rfl)
                    simp only [Act.put, List.setIfInBounds_toArray, List.set_cons_zero, List.set_cons_succ]
                    refine' wpAnyH_take (i := 2) (oi := { dst := some 94, op := .indexAddr 27 (.tmp 93) (.const (.int .i64 0)), type := 0, pos := "low.go:256", after := #[{ on := 1, ground := .data }], guard := none }) (v := _) (fuel := 24) rfl (by kernel_rfl) (by kernel_rfl) (by kernel_rfl) (fun _ _ _ h => h) (Or.inl ⟨by rfl, ?hy2p3⟩) (by assumption) ?rest2p3
                    case hy2p3 => (intro w' hSw; (try dsimp only at hSw); go_simp; try with_reducible rfl)
                    simp only [Act.put, List.setIfInBounds_toArray, List.set_cons_zero, List.set_cons_succ]
                    refine' wpAnyH_take (i := 3) (oi := { dst := some 95, op := .load 3 (.tmp 94), type := 3, pos := "low.go:256", after := #[{ on := 2, ground := .data }], guard := none }) (v := _) (fuel := 23) rfl (by kernel_rfl) (by kernel_rfl) (by kernel_rfl) (fun _ _ _ h => h) (Or.inl ⟨by rfl, ?hy3p3⟩) (by assumption) ?rest3p3
                    case hy3p3 => (intro w' hSw; (try dsimp only at hSw); go_simp; try with_reducible rfl)
                    simp only [Act.put, List.setIfInBounds_toArray, List.set_cons_zero, List.set_cons_succ]
                    refine' wpAnyH_take (i := 5) (oi := { dst := some 96, op := .move (.tmp 7), type := 27, pos := "low.go:256", after := #[], guard := none }) (v := _) (fuel := 22) rfl (by kernel_rfl) (by kernel_rfl) (by kernel_rfl) (fun _ _ _ h => h) (Or.inl ⟨by rfl, ?hy5p3⟩) (by assumption) ?rest5p3
                    case hy5p3 => (intro w' hSw; (try dsimp only at hSw); go_simp; try with_reducible rfl)
                    simp only [Act.put, List.setIfInBounds_toArray, List.set_cons_zero, List.set_cons_succ]
                    refine' wpAnyH_take (i := 6) (oi := { dst := some 97, op := .indexAddr 27 (.tmp 96) (.const (.int .i64 0)), type := 0, pos := "low.go:256", after := #[{ on := 5, ground := .data }], guard := none }) (v := _) (fuel := 21) rfl (by kernel_rfl) (by kernel_rfl) (by kernel_rfl) (fun _ _ _ h => h) (Or.inl ⟨by rfl, ?hy6p3⟩) (by assumption) ?rest6p3
                    case hy6p3 => (intro w' hSw; (try dsimp only at hSw); go_simp; try with_reducible rfl)
                    simp only [Act.put, List.setIfInBounds_toArray, List.set_cons_zero, List.set_cons_succ]
                    refine' wpAnyH_take (i := 7) (oi := { dst := some 98, op := .load 3 (.tmp 97), type := 3, pos := "low.go:256", after := #[{ on := 6, ground := .data }], guard := none }) (v := _) (fuel := 20) rfl (by kernel_rfl) (by kernel_rfl) (by kernel_rfl) (fun _ _ _ h => h) (Or.inl ⟨by rfl, ?hy7p3⟩) (by assumption) ?rest7p3
                    case hy7p3 => (intro w' hSw; (try dsimp only at hSw); go_simp; try with_reducible rfl)
                    simp only [Act.put, List.setIfInBounds_toArray, List.set_cons_zero, List.set_cons_succ]
                    refine' wpAnyH_take (i := 9) (oi := { dst := some 99, op := .move (.tmp 7), type := 27, pos := "low.go:256", after := #[], guard := none }) (v := _) (fuel := 19) rfl (by kernel_rfl) (by kernel_rfl) (by kernel_rfl) (fun _ _ _ h => h) (Or.inl ⟨by rfl, ?hy9p3⟩) (by assumption) ?rest9p3
                    case hy9p3 => (intro w' hSw; (try dsimp only at hSw); go_simp; try with_reducible rfl)
                    simp only [Act.put, List.setIfInBounds_toArray, List.set_cons_zero, List.set_cons_succ]
                    refine' wpAnyH_take (i := 10) (oi := { dst := some 100, op := .indexAddr 27 (.tmp 99) (.const (.int .i64 0)), type := 0, pos := "low.go:256", after := #[{ on := 9, ground := .data }], guard := none }) (v := _) (fuel := 18) rfl (by kernel_rfl) (by kernel_rfl) (by kernel_rfl) (fun _ _ _ h => h) (Or.inl ⟨by rfl, ?hy10p3⟩) (by assumption) ?rest10p3
                    case hy10p3 => (intro w' hSw; (try dsimp only at hSw); go_simp; try with_reducible rfl)
                    simp only [Act.put, List.setIfInBounds_toArray, List.set_cons_zero, List.set_cons_succ]
                    refine' wpAnyH_take (i := 11) (oi := { dst := some 101, op := .load 3 (.tmp 100), type := 3, pos := "low.go:256", after := #[{ on := 10, ground := .data }], guard := none }) (v := _) (fuel := 17) rfl (by kernel_rfl) (by kernel_rfl) (by kernel_rfl) (fun _ _ _ h => h) (Or.inl ⟨by rfl, ?hy11p3⟩) (by assumption) ?rest11p3
                    case hy11p3 => (intro w' hSw; (try dsimp only at hSw); go_simp; try with_reducible rfl)
                    simp only [Act.put, List.setIfInBounds_toArray, List.set_cons_zero, List.set_cons_succ]
                    refine' wpAnyH_take (i := 13) (oi := { dst := some 102, op := .move (.tmp 11), type := 3, pos := "low.go:256", after := #[], guard := none }) (v := _) (fuel := 16) rfl (by kernel_rfl) (by kernel_rfl) (by kernel_rfl) (fun _ _ _ h => h) (Or.inl ⟨by rfl, ?hy13p3⟩) (by assumption) ?rest13p3
                    case hy13p3 => (intro w' hSw; (try dsimp only at hSw); go_simp; try with_reducible rfl)
                    simp only [Act.put, List.setIfInBounds_toArray, List.set_cons_zero, List.set_cons_succ]
                    refine' wpAnyH_take (i := 15) (oi := { dst := some 103, op := .move (.tmp 12), type := 3, pos := "low.go:256", after := #[], guard := none }) (v := _) (fuel := 15) rfl (by kernel_rfl) (by kernel_rfl) (by kernel_rfl) (fun _ _ _ h => h) (Or.inl ⟨by rfl, ?hy15p3⟩) (by assumption) ?rest15p3
                    case hy15p3 => (intro w' hSw; (try dsimp only at hSw); go_simp; try with_reducible rfl)
                    simp only [Act.put, List.setIfInBounds_toArray, List.set_cons_zero, List.set_cons_succ]
                    refine' wpAnyH_take (i := 17) (oi := { dst := some 104, op := .move (.tmp 13), type := 3, pos := "low.go:256", after := #[], guard := none }) (v := _) (fuel := 14) rfl (by kernel_rfl) (by kernel_rfl) (by kernel_rfl) (fun _ _ _ h => h) (Or.inl ⟨by rfl, ?hy17p3⟩) (by assumption) ?rest17p3
                    case hy17p3 => (intro w' hSw; (try dsimp only at hSw); go_simp; try with_reducible rfl)
                    simp only [Act.put, List.setIfInBounds_toArray, List.set_cons_zero, List.set_cons_succ]
                    refine' wpAnyH_take (i := 20) (oi := { dst := some 106, op := .fieldAddr 59 (.tmp 2) 1, type := 0, pos := "low.go:256", after := #[], guard := none }) (v := _) (fuel := 13) rfl (by kernel_rfl) (by kernel_rfl) (by kernel_rfl) (fun _ _ _ h => h) (Or.inl ⟨by rfl, ?hy20p3⟩) (by assumption) ?rest20p3
                    case hy20p3 => (intro w' hSw; (try dsimp only at hSw); go_simp; try with_reducible rfl)
                    simp only [Act.put, List.setIfInBounds_toArray, List.set_cons_zero, List.set_cons_succ]
                    refine' wpAnyH_take (i := 21) (oi := { dst := some 107, op := .load 3 (.tmp 106), type := 3, pos := "low.go:256", after := #[{ on := 20, ground := .data }], guard := none }) (v := _) (fuel := 12) rfl (by kernel_rfl) (by kernel_rfl) (by kernel_rfl) (fun _ _ _ h => h) (Or.inl ⟨by rfl, ?hy21p3⟩) (by assumption) ?rest21p3
                    case hy21p3 => (intro w' hSw; (try dsimp only at hSw); go_simp; try with_reducible rfl)
                    simp only [Act.put, List.setIfInBounds_toArray, List.set_cons_zero, List.set_cons_succ]
                    refine wpAnyH_ready (rs := [0]) (fuel := 11) (by kernel_rfl) (by simp) ?_
                    refine AllReadyH.cons (o := { dst := some 92, op := .makeMap 152 none, type := 152, pos := "low.go:256", after := #[], guard := none }) rfl (fun K hK => ?_) AllReadyH.nil
                    go_simp
                    refine hK.out _ _ ⟨(hbm.cell (p := ⟨w.heap.size, 1, none⟩) hgi).trans hHeld.1, (hbm.cell (p := ⟨b0, o0, none⟩) hgb).trans hHeld.2⟩ (fun hHeld2 => ?_)
                    clear hK K
                    (try simp only [Act.put, List.setIfInBounds_toArray, List.set_cons_zero, List.set_cons_succ])
                    refine wpAnyH_swept 5 #[true, true, true, true, true, true, true, true, true, true, true, true, true, true, true, true, true, true, true, false, true, true, false, false, false, false] [4, 8, 12, 14, 16, 18] (PickJ wd.heap.size (fun w' : World => w'.cell? ⟨w.heap.size, 1, none⟩ = some (.int .i64 3) ∧ w'.cell? ⟨b0, o0, none⟩ = some (.int .i64 a0)) wd 12 3 a0) (by kernel_rfl) rfl (by decide) (by kernel_rfl) ?j0p3 ?stepp3 ?finp3
                    case j0p3 => exact ⟨hHeld2, hbm, 0, .map [], by simp, World.ownsMap_made _ _ _ _, fun hh => absurd (by simp) hh⟩
                    case stepp3 =>
                      intro rem w5 i hi hsub hJ
                      have hti := mem_subs hsub hi
                      simp only [List.mem_cons, List.not_mem_nil, or_false] at hti
                      rcases hti with rfl | rfl | rfl | rfl | rfl | rfl
                      · exact pick_step (Nat.le_refl _) hT hJ 4 hi 1 a0 _ rfl (.tmp 92) (.tmp 95) rfl rfl rfl rfl rfl (by decide) HBA.out (fun h => absurd h (by decide)) (fun _ => by decide)
                      · exact pick_step (Nat.le_refl _) hT hJ 8 hi 2 a0 _ rfl (.tmp 92) (.tmp 98) rfl rfl rfl rfl rfl (by decide) HBA.out (fun h => absurd h (by decide)) (fun _ => by decide)
                      · exact pick_step (Nat.le_refl _) hT hJ 12 hi 3 a0 _ rfl (.tmp 92) (.tmp 101) rfl rfl rfl rfl rfl (by decide) HBA.out (fun _ => ⟨rfl, rfl⟩) (fun h => absurd rfl h)
                      · exact pick_step (Nat.le_refl _) hT hJ 14 hi 4 mn _ rfl (.tmp 92) (.tmp 102) rfl rfl rfl rfl rfl (by decide) HBM.out (fun h => absurd h (by decide)) (fun _ => by decide)
                      · exact pick_step (Nat.le_refl _) hT hJ 16 hi 5 mx _ rfl (.tmp 92) (.tmp 103) rfl rfl rfl rfl rfl (by decide) HBX.out (fun h => absurd h (by decide)) (fun _ => by decide)
                      · exact pick_step (Nat.le_refl _) hT hJ 18 hi 6 sm _ rfl (.tmp 92) (.tmp 104) rfl rfl rfl rfl rfl (by decide) HBS.out (fun h => absurd h (by decide)) (fun _ => by decide)
                    case finp3 =>
                      intro w6 hJ
                      have hrun := pick_look hJ (by decide)
                      obtain ⟨hS6, hb6, -⟩ := hJ
                      refine wpAnyH_ready (rs := [19]) (fuel := 4) (by kernel_rfl) (by simp) ?_
                      refine AllReadyH.cons (o := _) rfl (fun K hK => ?_) AllReadyH.nil
                      go_simp
                      refine hK.out _ _ hS6 (fun _ => ?_)
                      clear hK K
                      (try simp only [Act.put, List.setIfInBounds_toArray, List.set_cons_zero, List.set_cons_succ])
                      refine wpAnyH_ready (rs := [22]) (fuel := 3) (by kernel_rfl) (by simp) ?_
                      refine AllReadyH.cons (o := _) rfl (fun K hK => ?_) AllReadyH.nil
                      go_simp
                      refine hK.out _ _ hS6 (fun _ => ?_)
                      clear hK K
                      (try simp only [Act.put, List.setIfInBounds_toArray, List.set_cons_zero, List.set_cons_succ])
                      refine wpAnyH_ready (rs := [23]) (fuel := 2) (by kernel_rfl) (by simp) ?_
                      refine AllReadyH.cons (o := _) rfl (fun K hK => ?_) AllReadyH.nil
                      go_simp
                      refine hK.out _ _ hS6 (fun _ => ?_)
                      clear hK K
                      (try simp only [Act.put, List.setIfInBounds_toArray, List.set_cons_zero, List.set_cons_succ])
                      refine wpAnyH_ready (rs := [24]) (fuel := 1) (by kernel_rfl) (by simp) ?_
                      refine AllReadyH.cons (o := _) rfl (fun K hK => ?_) AllReadyH.nil
                      go_simp
                      refine hK.out _ _ hS6 (fun _ => ?_)
                      clear hK K
                      (try simp only [Act.put, List.setIfInBounds_toArray, List.set_cons_zero, List.set_cons_succ])
                      refine wpAnyH_ready (rs := [25]) (fuel := 0) (by kernel_rfl) (by simp) ?_
                      refine AllReadyH.cons (o := _) rfl (fun K hK => ?_) AllReadyH.nil
                      go_simp
                      refine hK.out _ _ hS6 (fun _ => ?_)
                      clear hK K
                      (try simp only [Act.put, List.setIfInBounds_toArray, List.set_cons_zero, List.set_cons_succ])
                      refine wpAnyH_done (by kernel_rfl) ?_ _
                      go_wp2
                      go_ret3
                      exact ⟨says_eq _ _ _ HC.out, bx hbd hb6⟩
                  case inr.inr.inr.inl =>
                    have HC : Hid (R = (mn, true, 0)) := by show _ = _; rw [HNC.out, conflict_other (by decide) (by decide), if_neg (by decide), HOS.out, if_pos rfl]
                    have hT : ∀ u u' : World, (fun w' : World => w'.cell? ⟨w.heap.size, 1, none⟩ = some (.int .i64 4) ∧ w'.cell? ⟨b0, o0, none⟩ = some (.int .i64 a0)) u → u.mapTurned u' wi.drew.heap.size → (fun w' : World => w'.cell? ⟨w.heap.size, 1, none⟩ = some (.int .i64 4) ∧ w'.cell? ⟨b0, o0, none⟩ = some (.int .i64 a0)) u' := fun u u' hu ht => ⟨(World.cell?_of_block (a := ⟨w.heap.size, 1, none⟩) (ht.grown.block _ (World.block_lt_of_cell? u _ hu.1) (by intro e; injection e with e; have e2 : w.heap.size = wi.drew.heap.size := (by first | exact e | exact e.symm); omega))).trans hu.1, (World.cell?_of_block (a := ⟨b0, o0, none⟩) (ht.grown.block _ (World.block_lt_of_cell? u _ hu.2) (by intro e; injection e with e; have e2 : b0 = wi.drew.heap.size := (by first | exact e | exact e.symm); omega))).trans hu.2⟩
                    go_wp2_with fail
                    refine wp_region_held_drew (S := (fun w' : World => w'.cell? ⟨w.heap.size, 1, none⟩ = some (.int .i64 4) ∧ w'.cell? ⟨b0, o0, none⟩ = some (.int .i64 a0))) (by kernel_rfl) ⟨a1i, c0i⟩ (fun hHeld => ?_)
                    generalize wi.drew = wd at *
                    refine' wpAnyH_take (i := 1) (oi := { dst := some 93, op := .move (.tmp 7), type := 27, pos := "low.go:256", after := #[], guard := none }) (v := _) (fuel := 25) rfl (by kernel_rfl) (by kernel_rfl) (by kernel_rfl) (fun _ _ _ h => h) (Or.inl ⟨by rfl, ?hy1p4⟩) (by assumption) ?rest1p4
                    case hy1p4 => (intro w' hSw; (try dsimp only at hSw); go_simp; try with_reducible rfl)
                    simp only [Act.put, List.setIfInBounds_toArray, List.set_cons_zero, List.set_cons_succ]
                    refine' wpAnyH_take (i := 2) (oi := { dst := some 94, op := .indexAddr 27 (.tmp 93) (.const (.int .i64 0)), type := 0, pos := "low.go:256", after := #[{ on := 1, ground := .data }], guard := none }) (v := _) (fuel := 24) rfl (by kernel_rfl) (by kernel_rfl) (by kernel_rfl) (fun _ _ _ h => h) (Or.inl ⟨by rfl, ?hy2p4⟩) (by assumption) ?rest2p4
                    case hy2p4 => (intro w' hSw; (try dsimp only at hSw); go_simp; try with_reducible rfl)
                    simp only [Act.put, List.setIfInBounds_toArray, List.set_cons_zero, List.set_cons_succ]
                    refine' wpAnyH_take (i := 3) (oi := { dst := some 95, op := .load 3 (.tmp 94), type := 3, pos := "low.go:256", after := #[{ on := 2, ground := .data }], guard := none }) (v := _) (fuel := 23) rfl (by kernel_rfl) (by kernel_rfl) (by kernel_rfl) (fun _ _ _ h => h) (Or.inl ⟨by rfl, ?hy3p4⟩) (by assumption) ?rest3p4
                    case hy3p4 => (intro w' hSw; (try dsimp only at hSw); go_simp; try with_reducible rfl)
                    simp only [Act.put, List.setIfInBounds_toArray, List.set_cons_zero, List.set_cons_succ]
                    refine' wpAnyH_take (i := 5) (oi := { dst := some 96, op := .move (.tmp 7), type := 27, pos := "low.go:256", after := #[], guard := none }) (v := _) (fuel := 22) rfl (by kernel_rfl) (by kernel_rfl) (by kernel_rfl) (fun _ _ _ h => h) (Or.inl ⟨by rfl, ?hy5p4⟩) (by assumption) ?rest5p4
                    case hy5p4 => (intro w' hSw; (try dsimp only at hSw); go_simp; try with_reducible rfl)
                    simp only [Act.put, List.setIfInBounds_toArray, List.set_cons_zero, List.set_cons_succ]
                    refine' wpAnyH_take (i := 6) (oi := { dst := some 97, op := .indexAddr 27 (.tmp 96) (.const (.int .i64 0)), type := 0, pos := "low.go:256", after := #[{ on := 5, ground := .data }], guard := none }) (v := _) (fuel := 21) rfl (by kernel_rfl) (by kernel_rfl) (by kernel_rfl) (fun _ _ _ h => h) (Or.inl ⟨by rfl, ?hy6p4⟩) (by assumption) ?rest6p4
                    case hy6p4 => (intro w' hSw; (try dsimp only at hSw); go_simp; try with_reducible rfl)
                    simp only [Act.put, List.setIfInBounds_toArray, List.set_cons_zero, List.set_cons_succ]
                    refine' wpAnyH_take (i := 7) (oi := { dst := some 98, op := .load 3 (.tmp 97), type := 3, pos := "low.go:256", after := #[{ on := 6, ground := .data }], guard := none }) (v := _) (fuel := 20) rfl (by kernel_rfl) (by kernel_rfl) (by kernel_rfl) (fun _ _ _ h => h) (Or.inl ⟨by rfl, ?hy7p4⟩) (by assumption) ?rest7p4
                    case hy7p4 => (intro w' hSw; (try dsimp only at hSw); go_simp; try with_reducible rfl)
                    simp only [Act.put, List.setIfInBounds_toArray, List.set_cons_zero, List.set_cons_succ]
                    refine' wpAnyH_take (i := 9) (oi := { dst := some 99, op := .move (.tmp 7), type := 27, pos := "low.go:256", after := #[], guard := none }) (v := _) (fuel := 19) rfl (by kernel_rfl) (by kernel_rfl) (by kernel_rfl) (fun _ _ _ h => h) (Or.inl ⟨by rfl, ?hy9p4⟩) (by assumption) ?rest9p4
                    case hy9p4 => (intro w' hSw; (try dsimp only at hSw); go_simp; try with_reducible rfl)
                    simp only [Act.put, List.setIfInBounds_toArray, List.set_cons_zero, List.set_cons_succ]
                    refine' wpAnyH_take (i := 10) (oi := { dst := some 100, op := .indexAddr 27 (.tmp 99) (.const (.int .i64 0)), type := 0, pos := "low.go:256", after := #[{ on := 9, ground := .data }], guard := none }) (v := _) (fuel := 18) rfl (by kernel_rfl) (by kernel_rfl) (by kernel_rfl) (fun _ _ _ h => h) (Or.inl ⟨by rfl, ?hy10p4⟩) (by assumption) ?rest10p4
                    case hy10p4 => (intro w' hSw; (try dsimp only at hSw); go_simp; try with_reducible rfl)
                    simp only [Act.put, List.setIfInBounds_toArray, List.set_cons_zero, List.set_cons_succ]
                    refine' wpAnyH_take (i := 11) (oi := { dst := some 101, op := .load 3 (.tmp 100), type := 3, pos := "low.go:256", after := #[{ on := 10, ground := .data }], guard := none }) (v := _) (fuel := 17) rfl (by kernel_rfl) (by kernel_rfl) (by kernel_rfl) (fun _ _ _ h => h) (Or.inl ⟨by rfl, ?hy11p4⟩) (by assumption) ?rest11p4
                    case hy11p4 => (intro w' hSw; (try dsimp only at hSw); go_simp; try with_reducible rfl)
                    simp only [Act.put, List.setIfInBounds_toArray, List.set_cons_zero, List.set_cons_succ]
                    refine' wpAnyH_take (i := 13) (oi := { dst := some 102, op := .move (.tmp 11), type := 3, pos := "low.go:256", after := #[], guard := none }) (v := _) (fuel := 16) rfl (by kernel_rfl) (by kernel_rfl) (by kernel_rfl) (fun _ _ _ h => h) (Or.inl ⟨by rfl, ?hy13p4⟩) (by assumption) ?rest13p4
                    case hy13p4 => (intro w' hSw; (try dsimp only at hSw); go_simp; try with_reducible rfl)
                    simp only [Act.put, List.setIfInBounds_toArray, List.set_cons_zero, List.set_cons_succ]
                    refine' wpAnyH_take (i := 15) (oi := { dst := some 103, op := .move (.tmp 12), type := 3, pos := "low.go:256", after := #[], guard := none }) (v := _) (fuel := 15) rfl (by kernel_rfl) (by kernel_rfl) (by kernel_rfl) (fun _ _ _ h => h) (Or.inl ⟨by rfl, ?hy15p4⟩) (by assumption) ?rest15p4
                    case hy15p4 => (intro w' hSw; (try dsimp only at hSw); go_simp; try with_reducible rfl)
                    simp only [Act.put, List.setIfInBounds_toArray, List.set_cons_zero, List.set_cons_succ]
                    refine' wpAnyH_take (i := 17) (oi := { dst := some 104, op := .move (.tmp 13), type := 3, pos := "low.go:256", after := #[], guard := none }) (v := _) (fuel := 14) rfl (by kernel_rfl) (by kernel_rfl) (by kernel_rfl) (fun _ _ _ h => h) (Or.inl ⟨by rfl, ?hy17p4⟩) (by assumption) ?rest17p4
                    case hy17p4 => (intro w' hSw; (try dsimp only at hSw); go_simp; try with_reducible rfl)
                    simp only [Act.put, List.setIfInBounds_toArray, List.set_cons_zero, List.set_cons_succ]
                    refine' wpAnyH_take (i := 20) (oi := { dst := some 106, op := .fieldAddr 59 (.tmp 2) 1, type := 0, pos := "low.go:256", after := #[], guard := none }) (v := _) (fuel := 13) rfl (by kernel_rfl) (by kernel_rfl) (by kernel_rfl) (fun _ _ _ h => h) (Or.inl ⟨by rfl, ?hy20p4⟩) (by assumption) ?rest20p4
                    case hy20p4 => (intro w' hSw; (try dsimp only at hSw); go_simp; try with_reducible rfl)
                    simp only [Act.put, List.setIfInBounds_toArray, List.set_cons_zero, List.set_cons_succ]
                    refine' wpAnyH_take (i := 21) (oi := { dst := some 107, op := .load 3 (.tmp 106), type := 3, pos := "low.go:256", after := #[{ on := 20, ground := .data }], guard := none }) (v := _) (fuel := 12) rfl (by kernel_rfl) (by kernel_rfl) (by kernel_rfl) (fun _ _ _ h => h) (Or.inl ⟨by rfl, ?hy21p4⟩) (by assumption) ?rest21p4
                    case hy21p4 => (intro w' hSw; (try dsimp only at hSw); go_simp; try with_reducible rfl)
                    simp only [Act.put, List.setIfInBounds_toArray, List.set_cons_zero, List.set_cons_succ]
                    refine wpAnyH_ready (rs := [0]) (fuel := 11) (by kernel_rfl) (by simp) ?_
                    refine AllReadyH.cons (o := { dst := some 92, op := .makeMap 152 none, type := 152, pos := "low.go:256", after := #[], guard := none }) rfl (fun K hK => ?_) AllReadyH.nil
                    go_simp
                    refine hK.out _ _ ⟨(hbm.cell (p := ⟨w.heap.size, 1, none⟩) hgi).trans hHeld.1, (hbm.cell (p := ⟨b0, o0, none⟩) hgb).trans hHeld.2⟩ (fun hHeld2 => ?_)
                    clear hK K
                    (try simp only [Act.put, List.setIfInBounds_toArray, List.set_cons_zero, List.set_cons_succ])
                    refine wpAnyH_swept 5 #[true, true, true, true, true, true, true, true, true, true, true, true, true, true, true, true, true, true, true, false, true, true, false, false, false, false] [4, 8, 12, 14, 16, 18] (PickJ wd.heap.size (fun w' : World => w'.cell? ⟨w.heap.size, 1, none⟩ = some (.int .i64 4) ∧ w'.cell? ⟨b0, o0, none⟩ = some (.int .i64 a0)) wd 14 4 mn) (by kernel_rfl) rfl (by decide) (by kernel_rfl) ?j0p4 ?stepp4 ?finp4
                    case j0p4 => exact ⟨hHeld2, hbm, 0, .map [], by simp, World.ownsMap_made _ _ _ _, fun hh => absurd (by simp) hh⟩
                    case stepp4 =>
                      intro rem w5 i hi hsub hJ
                      have hti := mem_subs hsub hi
                      simp only [List.mem_cons, List.not_mem_nil, or_false] at hti
                      rcases hti with rfl | rfl | rfl | rfl | rfl | rfl
                      · exact pick_step (Nat.le_refl _) hT hJ 4 hi 1 a0 _ rfl (.tmp 92) (.tmp 95) rfl rfl rfl rfl rfl (by decide) HBA.out (fun h => absurd h (by decide)) (fun _ => by decide)
                      · exact pick_step (Nat.le_refl _) hT hJ 8 hi 2 a0 _ rfl (.tmp 92) (.tmp 98) rfl rfl rfl rfl rfl (by decide) HBA.out (fun h => absurd h (by decide)) (fun _ => by decide)
                      · exact pick_step (Nat.le_refl _) hT hJ 12 hi 3 a0 _ rfl (.tmp 92) (.tmp 101) rfl rfl rfl rfl rfl (by decide) HBA.out (fun h => absurd h (by decide)) (fun _ => by decide)
                      · exact pick_step (Nat.le_refl _) hT hJ 14 hi 4 mn _ rfl (.tmp 92) (.tmp 102) rfl rfl rfl rfl rfl (by decide) HBM.out (fun _ => ⟨rfl, rfl⟩) (fun h => absurd rfl h)
                      · exact pick_step (Nat.le_refl _) hT hJ 16 hi 5 mx _ rfl (.tmp 92) (.tmp 103) rfl rfl rfl rfl rfl (by decide) HBX.out (fun h => absurd h (by decide)) (fun _ => by decide)
                      · exact pick_step (Nat.le_refl _) hT hJ 18 hi 6 sm _ rfl (.tmp 92) (.tmp 104) rfl rfl rfl rfl rfl (by decide) HBS.out (fun h => absurd h (by decide)) (fun _ => by decide)
                    case finp4 =>
                      intro w6 hJ
                      have hrun := pick_look hJ (by decide)
                      obtain ⟨hS6, hb6, -⟩ := hJ
                      refine wpAnyH_ready (rs := [19]) (fuel := 4) (by kernel_rfl) (by simp) ?_
                      refine AllReadyH.cons (o := _) rfl (fun K hK => ?_) AllReadyH.nil
                      go_simp
                      refine hK.out _ _ hS6 (fun _ => ?_)
                      clear hK K
                      (try simp only [Act.put, List.setIfInBounds_toArray, List.set_cons_zero, List.set_cons_succ])
                      refine wpAnyH_ready (rs := [22]) (fuel := 3) (by kernel_rfl) (by simp) ?_
                      refine AllReadyH.cons (o := _) rfl (fun K hK => ?_) AllReadyH.nil
                      go_simp
                      refine hK.out _ _ hS6 (fun _ => ?_)
                      clear hK K
                      (try simp only [Act.put, List.setIfInBounds_toArray, List.set_cons_zero, List.set_cons_succ])
                      refine wpAnyH_ready (rs := [23]) (fuel := 2) (by kernel_rfl) (by simp) ?_
                      refine AllReadyH.cons (o := _) rfl (fun K hK => ?_) AllReadyH.nil
                      go_simp
                      refine hK.out _ _ hS6 (fun _ => ?_)
                      clear hK K
                      (try simp only [Act.put, List.setIfInBounds_toArray, List.set_cons_zero, List.set_cons_succ])
                      refine wpAnyH_ready (rs := [24]) (fuel := 1) (by kernel_rfl) (by simp) ?_
                      refine AllReadyH.cons (o := _) rfl (fun K hK => ?_) AllReadyH.nil
                      go_simp
                      refine hK.out _ _ hS6 (fun _ => ?_)
                      clear hK K
                      (try simp only [Act.put, List.setIfInBounds_toArray, List.set_cons_zero, List.set_cons_succ])
                      refine wpAnyH_ready (rs := [25]) (fuel := 0) (by kernel_rfl) (by simp) ?_
                      refine AllReadyH.cons (o := _) rfl (fun K hK => ?_) AllReadyH.nil
                      go_simp
                      refine hK.out _ _ hS6 (fun _ => ?_)
                      clear hK K
                      (try simp only [Act.put, List.setIfInBounds_toArray, List.set_cons_zero, List.set_cons_succ])
                      refine wpAnyH_done (by kernel_rfl) ?_ _
                      go_wp2
                      go_ret3
                      exact ⟨says_eq _ _ _ HC.out, bx hbd hb6⟩
                  case inr.inr.inr.inr.inl =>
                    have HC : Hid (R = (mx, true, 0)) := by show _ = _; rw [HNC.out, conflict_other (by decide) (by decide), if_neg (by decide), HOS.out, if_neg (by decide), if_pos rfl]
                    have hT : ∀ u u' : World, (fun w' : World => w'.cell? ⟨w.heap.size, 1, none⟩ = some (.int .i64 5) ∧ w'.cell? ⟨b0, o0, none⟩ = some (.int .i64 a0)) u → u.mapTurned u' wi.drew.heap.size → (fun w' : World => w'.cell? ⟨w.heap.size, 1, none⟩ = some (.int .i64 5) ∧ w'.cell? ⟨b0, o0, none⟩ = some (.int .i64 a0)) u' := fun u u' hu ht => ⟨(World.cell?_of_block (a := ⟨w.heap.size, 1, none⟩) (ht.grown.block _ (World.block_lt_of_cell? u _ hu.1) (by intro e; injection e with e; have e2 : w.heap.size = wi.drew.heap.size := (by first | exact e | exact e.symm); omega))).trans hu.1, (World.cell?_of_block (a := ⟨b0, o0, none⟩) (ht.grown.block _ (World.block_lt_of_cell? u _ hu.2) (by intro e; injection e with e; have e2 : b0 = wi.drew.heap.size := (by first | exact e | exact e.symm); omega))).trans hu.2⟩
                    go_wp2_with fail
                    refine wp_region_held_drew (S := (fun w' : World => w'.cell? ⟨w.heap.size, 1, none⟩ = some (.int .i64 5) ∧ w'.cell? ⟨b0, o0, none⟩ = some (.int .i64 a0))) (by kernel_rfl) ⟨a1i, c0i⟩ (fun hHeld => ?_)
                    generalize wi.drew = wd at *
                    refine' wpAnyH_take (i := 1) (oi := { dst := some 93, op := .move (.tmp 7), type := 27, pos := "low.go:256", after := #[], guard := none }) (v := _) (fuel := 25) rfl (by kernel_rfl) (by kernel_rfl) (by kernel_rfl) (fun _ _ _ h => h) (Or.inl ⟨by rfl, ?hy1p5⟩) (by assumption) ?rest1p5
                    case hy1p5 => (intro w' hSw; (try dsimp only at hSw); go_simp; try with_reducible rfl)
                    simp only [Act.put, List.setIfInBounds_toArray, List.set_cons_zero, List.set_cons_succ]
                    refine' wpAnyH_take (i := 2) (oi := { dst := some 94, op := .indexAddr 27 (.tmp 93) (.const (.int .i64 0)), type := 0, pos := "low.go:256", after := #[{ on := 1, ground := .data }], guard := none }) (v := _) (fuel := 24) rfl (by kernel_rfl) (by kernel_rfl) (by kernel_rfl) (fun _ _ _ h => h) (Or.inl ⟨by rfl, ?hy2p5⟩) (by assumption) ?rest2p5
                    case hy2p5 => (intro w' hSw; (try dsimp only at hSw); go_simp; try with_reducible rfl)
                    simp only [Act.put, List.setIfInBounds_toArray, List.set_cons_zero, List.set_cons_succ]
                    refine' wpAnyH_take (i := 3) (oi := { dst := some 95, op := .load 3 (.tmp 94), type := 3, pos := "low.go:256", after := #[{ on := 2, ground := .data }], guard := none }) (v := _) (fuel := 23) rfl (by kernel_rfl) (by kernel_rfl) (by kernel_rfl) (fun _ _ _ h => h) (Or.inl ⟨by rfl, ?hy3p5⟩) (by assumption) ?rest3p5
                    case hy3p5 => (intro w' hSw; (try dsimp only at hSw); go_simp; try with_reducible rfl)
                    simp only [Act.put, List.setIfInBounds_toArray, List.set_cons_zero, List.set_cons_succ]
                    refine' wpAnyH_take (i := 5) (oi := { dst := some 96, op := .move (.tmp 7), type := 27, pos := "low.go:256", after := #[], guard := none }) (v := _) (fuel := 22) rfl (by kernel_rfl) (by kernel_rfl) (by kernel_rfl) (fun _ _ _ h => h) (Or.inl ⟨by rfl, ?hy5p5⟩) (by assumption) ?rest5p5
                    case hy5p5 => (intro w' hSw; (try dsimp only at hSw); go_simp; try with_reducible rfl)
                    simp only [Act.put, List.setIfInBounds_toArray, List.set_cons_zero, List.set_cons_succ]
                    refine' wpAnyH_take (i := 6) (oi := { dst := some 97, op := .indexAddr 27 (.tmp 96) (.const (.int .i64 0)), type := 0, pos := "low.go:256", after := #[{ on := 5, ground := .data }], guard := none }) (v := _) (fuel := 21) rfl (by kernel_rfl) (by kernel_rfl) (by kernel_rfl) (fun _ _ _ h => h) (Or.inl ⟨by rfl, ?hy6p5⟩) (by assumption) ?rest6p5
                    case hy6p5 => (intro w' hSw; (try dsimp only at hSw); go_simp; try with_reducible rfl)
                    simp only [Act.put, List.setIfInBounds_toArray, List.set_cons_zero, List.set_cons_succ]
                    refine' wpAnyH_take (i := 7) (oi := { dst := some 98, op := .load 3 (.tmp 97), type := 3, pos := "low.go:256", after := #[{ on := 6, ground := .data }], guard := none }) (v := _) (fuel := 20) rfl (by kernel_rfl) (by kernel_rfl) (by kernel_rfl) (fun _ _ _ h => h) (Or.inl ⟨by rfl, ?hy7p5⟩) (by assumption) ?rest7p5
                    case hy7p5 => (intro w' hSw; (try dsimp only at hSw); go_simp; try with_reducible rfl)
                    simp only [Act.put, List.setIfInBounds_toArray, List.set_cons_zero, List.set_cons_succ]
                    refine' wpAnyH_take (i := 9) (oi := { dst := some 99, op := .move (.tmp 7), type := 27, pos := "low.go:256", after := #[], guard := none }) (v := _) (fuel := 19) rfl (by kernel_rfl) (by kernel_rfl) (by kernel_rfl) (fun _ _ _ h => h) (Or.inl ⟨by rfl, ?hy9p5⟩) (by assumption) ?rest9p5
                    case hy9p5 => (intro w' hSw; (try dsimp only at hSw); go_simp; try with_reducible rfl)
                    simp only [Act.put, List.setIfInBounds_toArray, List.set_cons_zero, List.set_cons_succ]
                    refine' wpAnyH_take (i := 10) (oi := { dst := some 100, op := .indexAddr 27 (.tmp 99) (.const (.int .i64 0)), type := 0, pos := "low.go:256", after := #[{ on := 9, ground := .data }], guard := none }) (v := _) (fuel := 18) rfl (by kernel_rfl) (by kernel_rfl) (by kernel_rfl) (fun _ _ _ h => h) (Or.inl ⟨by rfl, ?hy10p5⟩) (by assumption) ?rest10p5
                    case hy10p5 => (intro w' hSw; (try dsimp only at hSw); go_simp; try with_reducible rfl)
                    simp only [Act.put, List.setIfInBounds_toArray, List.set_cons_zero, List.set_cons_succ]
                    refine' wpAnyH_take (i := 11) (oi := { dst := some 101, op := .load 3 (.tmp 100), type := 3, pos := "low.go:256", after := #[{ on := 10, ground := .data }], guard := none }) (v := _) (fuel := 17) rfl (by kernel_rfl) (by kernel_rfl) (by kernel_rfl) (fun _ _ _ h => h) (Or.inl ⟨by rfl, ?hy11p5⟩) (by assumption) ?rest11p5
                    case hy11p5 => (intro w' hSw; (try dsimp only at hSw); go_simp; try with_reducible rfl)
                    simp only [Act.put, List.setIfInBounds_toArray, List.set_cons_zero, List.set_cons_succ]
                    refine' wpAnyH_take (i := 13) (oi := { dst := some 102, op := .move (.tmp 11), type := 3, pos := "low.go:256", after := #[], guard := none }) (v := _) (fuel := 16) rfl (by kernel_rfl) (by kernel_rfl) (by kernel_rfl) (fun _ _ _ h => h) (Or.inl ⟨by rfl, ?hy13p5⟩) (by assumption) ?rest13p5
                    case hy13p5 => (intro w' hSw; (try dsimp only at hSw); go_simp; try with_reducible rfl)
                    simp only [Act.put, List.setIfInBounds_toArray, List.set_cons_zero, List.set_cons_succ]
                    refine' wpAnyH_take (i := 15) (oi := { dst := some 103, op := .move (.tmp 12), type := 3, pos := "low.go:256", after := #[], guard := none }) (v := _) (fuel := 15) rfl (by kernel_rfl) (by kernel_rfl) (by kernel_rfl) (fun _ _ _ h => h) (Or.inl ⟨by rfl, ?hy15p5⟩) (by assumption) ?rest15p5
                    case hy15p5 => (intro w' hSw; (try dsimp only at hSw); go_simp; try with_reducible rfl)
                    simp only [Act.put, List.setIfInBounds_toArray, List.set_cons_zero, List.set_cons_succ]
                    refine' wpAnyH_take (i := 17) (oi := { dst := some 104, op := .move (.tmp 13), type := 3, pos := "low.go:256", after := #[], guard := none }) (v := _) (fuel := 14) rfl (by kernel_rfl) (by kernel_rfl) (by kernel_rfl) (fun _ _ _ h => h) (Or.inl ⟨by rfl, ?hy17p5⟩) (by assumption) ?rest17p5
                    case hy17p5 => (intro w' hSw; (try dsimp only at hSw); go_simp; try with_reducible rfl)
                    simp only [Act.put, List.setIfInBounds_toArray, List.set_cons_zero, List.set_cons_succ]
                    refine' wpAnyH_take (i := 20) (oi := { dst := some 106, op := .fieldAddr 59 (.tmp 2) 1, type := 0, pos := "low.go:256", after := #[], guard := none }) (v := _) (fuel := 13) rfl (by kernel_rfl) (by kernel_rfl) (by kernel_rfl) (fun _ _ _ h => h) (Or.inl ⟨by rfl, ?hy20p5⟩) (by assumption) ?rest20p5
                    case hy20p5 => (intro w' hSw; (try dsimp only at hSw); go_simp; try with_reducible rfl)
                    simp only [Act.put, List.setIfInBounds_toArray, List.set_cons_zero, List.set_cons_succ]
                    refine' wpAnyH_take (i := 21) (oi := { dst := some 107, op := .load 3 (.tmp 106), type := 3, pos := "low.go:256", after := #[{ on := 20, ground := .data }], guard := none }) (v := _) (fuel := 12) rfl (by kernel_rfl) (by kernel_rfl) (by kernel_rfl) (fun _ _ _ h => h) (Or.inl ⟨by rfl, ?hy21p5⟩) (by assumption) ?rest21p5
                    case hy21p5 => (intro w' hSw; (try dsimp only at hSw); go_simp; try with_reducible rfl)
                    simp only [Act.put, List.setIfInBounds_toArray, List.set_cons_zero, List.set_cons_succ]
                    refine wpAnyH_ready (rs := [0]) (fuel := 11) (by kernel_rfl) (by simp) ?_
                    refine AllReadyH.cons (o := { dst := some 92, op := .makeMap 152 none, type := 152, pos := "low.go:256", after := #[], guard := none }) rfl (fun K hK => ?_) AllReadyH.nil
                    go_simp
                    refine hK.out _ _ ⟨(hbm.cell (p := ⟨w.heap.size, 1, none⟩) hgi).trans hHeld.1, (hbm.cell (p := ⟨b0, o0, none⟩) hgb).trans hHeld.2⟩ (fun hHeld2 => ?_)
                    clear hK K
                    (try simp only [Act.put, List.setIfInBounds_toArray, List.set_cons_zero, List.set_cons_succ])
                    refine wpAnyH_swept 5 #[true, true, true, true, true, true, true, true, true, true, true, true, true, true, true, true, true, true, true, false, true, true, false, false, false, false] [4, 8, 12, 14, 16, 18] (PickJ wd.heap.size (fun w' : World => w'.cell? ⟨w.heap.size, 1, none⟩ = some (.int .i64 5) ∧ w'.cell? ⟨b0, o0, none⟩ = some (.int .i64 a0)) wd 16 5 mx) (by kernel_rfl) rfl (by decide) (by kernel_rfl) ?j0p5 ?stepp5 ?finp5
                    case j0p5 => exact ⟨hHeld2, hbm, 0, .map [], by simp, World.ownsMap_made _ _ _ _, fun hh => absurd (by simp) hh⟩
                    case stepp5 =>
                      intro rem w5 i hi hsub hJ
                      have hti := mem_subs hsub hi
                      simp only [List.mem_cons, List.not_mem_nil, or_false] at hti
                      rcases hti with rfl | rfl | rfl | rfl | rfl | rfl
                      · exact pick_step (Nat.le_refl _) hT hJ 4 hi 1 a0 _ rfl (.tmp 92) (.tmp 95) rfl rfl rfl rfl rfl (by decide) HBA.out (fun h => absurd h (by decide)) (fun _ => by decide)
                      · exact pick_step (Nat.le_refl _) hT hJ 8 hi 2 a0 _ rfl (.tmp 92) (.tmp 98) rfl rfl rfl rfl rfl (by decide) HBA.out (fun h => absurd h (by decide)) (fun _ => by decide)
                      · exact pick_step (Nat.le_refl _) hT hJ 12 hi 3 a0 _ rfl (.tmp 92) (.tmp 101) rfl rfl rfl rfl rfl (by decide) HBA.out (fun h => absurd h (by decide)) (fun _ => by decide)
                      · exact pick_step (Nat.le_refl _) hT hJ 14 hi 4 mn _ rfl (.tmp 92) (.tmp 102) rfl rfl rfl rfl rfl (by decide) HBM.out (fun h => absurd h (by decide)) (fun _ => by decide)
                      · exact pick_step (Nat.le_refl _) hT hJ 16 hi 5 mx _ rfl (.tmp 92) (.tmp 103) rfl rfl rfl rfl rfl (by decide) HBX.out (fun _ => ⟨rfl, rfl⟩) (fun h => absurd rfl h)
                      · exact pick_step (Nat.le_refl _) hT hJ 18 hi 6 sm _ rfl (.tmp 92) (.tmp 104) rfl rfl rfl rfl rfl (by decide) HBS.out (fun h => absurd h (by decide)) (fun _ => by decide)
                    case finp5 =>
                      intro w6 hJ
                      have hrun := pick_look hJ (by decide)
                      obtain ⟨hS6, hb6, -⟩ := hJ
                      refine wpAnyH_ready (rs := [19]) (fuel := 4) (by kernel_rfl) (by simp) ?_
                      refine AllReadyH.cons (o := _) rfl (fun K hK => ?_) AllReadyH.nil
                      go_simp
                      refine hK.out _ _ hS6 (fun _ => ?_)
                      clear hK K
                      (try simp only [Act.put, List.setIfInBounds_toArray, List.set_cons_zero, List.set_cons_succ])
                      refine wpAnyH_ready (rs := [22]) (fuel := 3) (by kernel_rfl) (by simp) ?_
                      refine AllReadyH.cons (o := _) rfl (fun K hK => ?_) AllReadyH.nil
                      go_simp
                      refine hK.out _ _ hS6 (fun _ => ?_)
                      clear hK K
                      (try simp only [Act.put, List.setIfInBounds_toArray, List.set_cons_zero, List.set_cons_succ])
                      refine wpAnyH_ready (rs := [23]) (fuel := 2) (by kernel_rfl) (by simp) ?_
                      refine AllReadyH.cons (o := _) rfl (fun K hK => ?_) AllReadyH.nil
                      go_simp
                      refine hK.out _ _ hS6 (fun _ => ?_)
                      clear hK K
                      (try simp only [Act.put, List.setIfInBounds_toArray, List.set_cons_zero, List.set_cons_succ])
                      refine wpAnyH_ready (rs := [24]) (fuel := 1) (by kernel_rfl) (by simp) ?_
                      refine AllReadyH.cons (o := _) rfl (fun K hK => ?_) AllReadyH.nil
                      go_simp
                      refine hK.out _ _ hS6 (fun _ => ?_)
                      clear hK K
                      (try simp only [Act.put, List.setIfInBounds_toArray, List.set_cons_zero, List.set_cons_succ])
                      refine wpAnyH_ready (rs := [25]) (fuel := 0) (by kernel_rfl) (by simp) ?_
                      refine AllReadyH.cons (o := _) rfl (fun K hK => ?_) AllReadyH.nil
                      go_simp
                      refine hK.out _ _ hS6 (fun _ => ?_)
                      clear hK K
                      (try simp only [Act.put, List.setIfInBounds_toArray, List.set_cons_zero, List.set_cons_succ])
                      refine wpAnyH_done (by kernel_rfl) ?_ _
                      go_wp2
                      go_ret3
                      exact ⟨says_eq _ _ _ HC.out, bx hbd hb6⟩
                  case inr.inr.inr.inr.inr =>
                    have HC : Hid (R = (sm, true, 0)) := by show _ = _; rw [HNC.out, conflict_other (by decide) (by decide), if_neg (by decide), HOS.out, if_neg (by decide), if_neg (by decide), if_pos rfl]
                    have hT : ∀ u u' : World, (fun w' : World => w'.cell? ⟨w.heap.size, 1, none⟩ = some (.int .i64 6) ∧ w'.cell? ⟨b0, o0, none⟩ = some (.int .i64 a0)) u → u.mapTurned u' wi.drew.heap.size → (fun w' : World => w'.cell? ⟨w.heap.size, 1, none⟩ = some (.int .i64 6) ∧ w'.cell? ⟨b0, o0, none⟩ = some (.int .i64 a0)) u' := fun u u' hu ht => ⟨(World.cell?_of_block (a := ⟨w.heap.size, 1, none⟩) (ht.grown.block _ (World.block_lt_of_cell? u _ hu.1) (by intro e; injection e with e; have e2 : w.heap.size = wi.drew.heap.size := (by first | exact e | exact e.symm); omega))).trans hu.1, (World.cell?_of_block (a := ⟨b0, o0, none⟩) (ht.grown.block _ (World.block_lt_of_cell? u _ hu.2) (by intro e; injection e with e; have e2 : b0 = wi.drew.heap.size := (by first | exact e | exact e.symm); omega))).trans hu.2⟩
                    go_wp2_with fail
                    refine wp_region_held_drew (S := (fun w' : World => w'.cell? ⟨w.heap.size, 1, none⟩ = some (.int .i64 6) ∧ w'.cell? ⟨b0, o0, none⟩ = some (.int .i64 a0))) (by kernel_rfl) ⟨a1i, c0i⟩ (fun hHeld => ?_)
                    generalize wi.drew = wd at *
                    refine' wpAnyH_take (i := 1) (oi := { dst := some 93, op := .move (.tmp 7), type := 27, pos := "low.go:256", after := #[], guard := none }) (v := _) (fuel := 25) rfl (by kernel_rfl) (by kernel_rfl) (by kernel_rfl) (fun _ _ _ h => h) (Or.inl ⟨by rfl, ?hy1p6⟩) (by assumption) ?rest1p6
                    case hy1p6 => (intro w' hSw; (try dsimp only at hSw); go_simp; try with_reducible rfl)
                    simp only [Act.put, List.setIfInBounds_toArray, List.set_cons_zero, List.set_cons_succ]
                    refine' wpAnyH_take (i := 2) (oi := { dst := some 94, op := .indexAddr 27 (.tmp 93) (.const (.int .i64 0)), type := 0, pos := "low.go:256", after := #[{ on := 1, ground := .data }], guard := none }) (v := _) (fuel := 24) rfl (by kernel_rfl) (by kernel_rfl) (by kernel_rfl) (fun _ _ _ h => h) (Or.inl ⟨by rfl, ?hy2p6⟩) (by assumption) ?rest2p6
                    case hy2p6 => (intro w' hSw; (try dsimp only at hSw); go_simp; try with_reducible rfl)
                    simp only [Act.put, List.setIfInBounds_toArray, List.set_cons_zero, List.set_cons_succ]
                    refine' wpAnyH_take (i := 3) (oi := { dst := some 95, op := .load 3 (.tmp 94), type := 3, pos := "low.go:256", after := #[{ on := 2, ground := .data }], guard := none }) (v := _) (fuel := 23) rfl (by kernel_rfl) (by kernel_rfl) (by kernel_rfl) (fun _ _ _ h => h) (Or.inl ⟨by rfl, ?hy3p6⟩) (by assumption) ?rest3p6
                    case hy3p6 => (intro w' hSw; (try dsimp only at hSw); go_simp; try with_reducible rfl)
                    simp only [Act.put, List.setIfInBounds_toArray, List.set_cons_zero, List.set_cons_succ]
                    refine' wpAnyH_take (i := 5) (oi := { dst := some 96, op := .move (.tmp 7), type := 27, pos := "low.go:256", after := #[], guard := none }) (v := _) (fuel := 22) rfl (by kernel_rfl) (by kernel_rfl) (by kernel_rfl) (fun _ _ _ h => h) (Or.inl ⟨by rfl, ?hy5p6⟩) (by assumption) ?rest5p6
                    case hy5p6 => (intro w' hSw; (try dsimp only at hSw); go_simp; try with_reducible rfl)
                    simp only [Act.put, List.setIfInBounds_toArray, List.set_cons_zero, List.set_cons_succ]
                    refine' wpAnyH_take (i := 6) (oi := { dst := some 97, op := .indexAddr 27 (.tmp 96) (.const (.int .i64 0)), type := 0, pos := "low.go:256", after := #[{ on := 5, ground := .data }], guard := none }) (v := _) (fuel := 21) rfl (by kernel_rfl) (by kernel_rfl) (by kernel_rfl) (fun _ _ _ h => h) (Or.inl ⟨by rfl, ?hy6p6⟩) (by assumption) ?rest6p6
                    case hy6p6 => (intro w' hSw; (try dsimp only at hSw); go_simp; try with_reducible rfl)
                    simp only [Act.put, List.setIfInBounds_toArray, List.set_cons_zero, List.set_cons_succ]
                    refine' wpAnyH_take (i := 7) (oi := { dst := some 98, op := .load 3 (.tmp 97), type := 3, pos := "low.go:256", after := #[{ on := 6, ground := .data }], guard := none }) (v := _) (fuel := 20) rfl (by kernel_rfl) (by kernel_rfl) (by kernel_rfl) (fun _ _ _ h => h) (Or.inl ⟨by rfl, ?hy7p6⟩) (by assumption) ?rest7p6
                    case hy7p6 => (intro w' hSw; (try dsimp only at hSw); go_simp; try with_reducible rfl)
                    simp only [Act.put, List.setIfInBounds_toArray, List.set_cons_zero, List.set_cons_succ]
                    refine' wpAnyH_take (i := 9) (oi := { dst := some 99, op := .move (.tmp 7), type := 27, pos := "low.go:256", after := #[], guard := none }) (v := _) (fuel := 19) rfl (by kernel_rfl) (by kernel_rfl) (by kernel_rfl) (fun _ _ _ h => h) (Or.inl ⟨by rfl, ?hy9p6⟩) (by assumption) ?rest9p6
                    case hy9p6 => (intro w' hSw; (try dsimp only at hSw); go_simp; try with_reducible rfl)
                    simp only [Act.put, List.setIfInBounds_toArray, List.set_cons_zero, List.set_cons_succ]
                    refine' wpAnyH_take (i := 10) (oi := { dst := some 100, op := .indexAddr 27 (.tmp 99) (.const (.int .i64 0)), type := 0, pos := "low.go:256", after := #[{ on := 9, ground := .data }], guard := none }) (v := _) (fuel := 18) rfl (by kernel_rfl) (by kernel_rfl) (by kernel_rfl) (fun _ _ _ h => h) (Or.inl ⟨by rfl, ?hy10p6⟩) (by assumption) ?rest10p6
                    case hy10p6 => (intro w' hSw; (try dsimp only at hSw); go_simp; try with_reducible rfl)
                    simp only [Act.put, List.setIfInBounds_toArray, List.set_cons_zero, List.set_cons_succ]
                    refine' wpAnyH_take (i := 11) (oi := { dst := some 101, op := .load 3 (.tmp 100), type := 3, pos := "low.go:256", after := #[{ on := 10, ground := .data }], guard := none }) (v := _) (fuel := 17) rfl (by kernel_rfl) (by kernel_rfl) (by kernel_rfl) (fun _ _ _ h => h) (Or.inl ⟨by rfl, ?hy11p6⟩) (by assumption) ?rest11p6
                    case hy11p6 => (intro w' hSw; (try dsimp only at hSw); go_simp; try with_reducible rfl)
                    simp only [Act.put, List.setIfInBounds_toArray, List.set_cons_zero, List.set_cons_succ]
                    refine' wpAnyH_take (i := 13) (oi := { dst := some 102, op := .move (.tmp 11), type := 3, pos := "low.go:256", after := #[], guard := none }) (v := _) (fuel := 16) rfl (by kernel_rfl) (by kernel_rfl) (by kernel_rfl) (fun _ _ _ h => h) (Or.inl ⟨by rfl, ?hy13p6⟩) (by assumption) ?rest13p6
                    case hy13p6 => (intro w' hSw; (try dsimp only at hSw); go_simp; try with_reducible rfl)
                    simp only [Act.put, List.setIfInBounds_toArray, List.set_cons_zero, List.set_cons_succ]
                    refine' wpAnyH_take (i := 15) (oi := { dst := some 103, op := .move (.tmp 12), type := 3, pos := "low.go:256", after := #[], guard := none }) (v := _) (fuel := 15) rfl (by kernel_rfl) (by kernel_rfl) (by kernel_rfl) (fun _ _ _ h => h) (Or.inl ⟨by rfl, ?hy15p6⟩) (by assumption) ?rest15p6
                    case hy15p6 => (intro w' hSw; (try dsimp only at hSw); go_simp; try with_reducible rfl)
                    simp only [Act.put, List.setIfInBounds_toArray, List.set_cons_zero, List.set_cons_succ]
                    refine' wpAnyH_take (i := 17) (oi := { dst := some 104, op := .move (.tmp 13), type := 3, pos := "low.go:256", after := #[], guard := none }) (v := _) (fuel := 14) rfl (by kernel_rfl) (by kernel_rfl) (by kernel_rfl) (fun _ _ _ h => h) (Or.inl ⟨by rfl, ?hy17p6⟩) (by assumption) ?rest17p6
                    case hy17p6 => (intro w' hSw; (try dsimp only at hSw); go_simp; try with_reducible rfl)
                    simp only [Act.put, List.setIfInBounds_toArray, List.set_cons_zero, List.set_cons_succ]
                    refine' wpAnyH_take (i := 20) (oi := { dst := some 106, op := .fieldAddr 59 (.tmp 2) 1, type := 0, pos := "low.go:256", after := #[], guard := none }) (v := _) (fuel := 13) rfl (by kernel_rfl) (by kernel_rfl) (by kernel_rfl) (fun _ _ _ h => h) (Or.inl ⟨by rfl, ?hy20p6⟩) (by assumption) ?rest20p6
                    case hy20p6 => (intro w' hSw; (try dsimp only at hSw); go_simp; try with_reducible rfl)
                    simp only [Act.put, List.setIfInBounds_toArray, List.set_cons_zero, List.set_cons_succ]
                    refine' wpAnyH_take (i := 21) (oi := { dst := some 107, op := .load 3 (.tmp 106), type := 3, pos := "low.go:256", after := #[{ on := 20, ground := .data }], guard := none }) (v := _) (fuel := 12) rfl (by kernel_rfl) (by kernel_rfl) (by kernel_rfl) (fun _ _ _ h => h) (Or.inl ⟨by rfl, ?hy21p6⟩) (by assumption) ?rest21p6
                    case hy21p6 => (intro w' hSw; (try dsimp only at hSw); go_simp; try with_reducible rfl)
                    simp only [Act.put, List.setIfInBounds_toArray, List.set_cons_zero, List.set_cons_succ]
                    refine wpAnyH_ready (rs := [0]) (fuel := 11) (by kernel_rfl) (by simp) ?_
                    refine AllReadyH.cons (o := { dst := some 92, op := .makeMap 152 none, type := 152, pos := "low.go:256", after := #[], guard := none }) rfl (fun K hK => ?_) AllReadyH.nil
                    go_simp
                    refine hK.out _ _ ⟨(hbm.cell (p := ⟨w.heap.size, 1, none⟩) hgi).trans hHeld.1, (hbm.cell (p := ⟨b0, o0, none⟩) hgb).trans hHeld.2⟩ (fun hHeld2 => ?_)
                    clear hK K
                    (try simp only [Act.put, List.setIfInBounds_toArray, List.set_cons_zero, List.set_cons_succ])
                    refine wpAnyH_swept 5 #[true, true, true, true, true, true, true, true, true, true, true, true, true, true, true, true, true, true, true, false, true, true, false, false, false, false] [4, 8, 12, 14, 16, 18] (PickJ wd.heap.size (fun w' : World => w'.cell? ⟨w.heap.size, 1, none⟩ = some (.int .i64 6) ∧ w'.cell? ⟨b0, o0, none⟩ = some (.int .i64 a0)) wd 18 6 sm) (by kernel_rfl) rfl (by decide) (by kernel_rfl) ?j0p6 ?stepp6 ?finp6
                    case j0p6 => exact ⟨hHeld2, hbm, 0, .map [], by simp, World.ownsMap_made _ _ _ _, fun hh => absurd (by simp) hh⟩
                    case stepp6 =>
                      intro rem w5 i hi hsub hJ
                      have hti := mem_subs hsub hi
                      simp only [List.mem_cons, List.not_mem_nil, or_false] at hti
                      rcases hti with rfl | rfl | rfl | rfl | rfl | rfl
                      · exact pick_step (Nat.le_refl _) hT hJ 4 hi 1 a0 _ rfl (.tmp 92) (.tmp 95) rfl rfl rfl rfl rfl (by decide) HBA.out (fun h => absurd h (by decide)) (fun _ => by decide)
                      · exact pick_step (Nat.le_refl _) hT hJ 8 hi 2 a0 _ rfl (.tmp 92) (.tmp 98) rfl rfl rfl rfl rfl (by decide) HBA.out (fun h => absurd h (by decide)) (fun _ => by decide)
                      · exact pick_step (Nat.le_refl _) hT hJ 12 hi 3 a0 _ rfl (.tmp 92) (.tmp 101) rfl rfl rfl rfl rfl (by decide) HBA.out (fun h => absurd h (by decide)) (fun _ => by decide)
                      · exact pick_step (Nat.le_refl _) hT hJ 14 hi 4 mn _ rfl (.tmp 92) (.tmp 102) rfl rfl rfl rfl rfl (by decide) HBM.out (fun h => absurd h (by decide)) (fun _ => by decide)
                      · exact pick_step (Nat.le_refl _) hT hJ 16 hi 5 mx _ rfl (.tmp 92) (.tmp 103) rfl rfl rfl rfl rfl (by decide) HBX.out (fun h => absurd h (by decide)) (fun _ => by decide)
                      · exact pick_step (Nat.le_refl _) hT hJ 18 hi 6 sm _ rfl (.tmp 92) (.tmp 104) rfl rfl rfl rfl rfl (by decide) HBS.out (fun _ => ⟨rfl, rfl⟩) (fun h => absurd rfl h)
                    case finp6 =>
                      intro w6 hJ
                      have hrun := pick_look hJ (by decide)
                      obtain ⟨hS6, hb6, -⟩ := hJ
                      refine wpAnyH_ready (rs := [19]) (fuel := 4) (by kernel_rfl) (by simp) ?_
                      refine AllReadyH.cons (o := _) rfl (fun K hK => ?_) AllReadyH.nil
                      go_simp
                      refine hK.out _ _ hS6 (fun _ => ?_)
                      clear hK K
                      (try simp only [Act.put, List.setIfInBounds_toArray, List.set_cons_zero, List.set_cons_succ])
                      refine wpAnyH_ready (rs := [22]) (fuel := 3) (by kernel_rfl) (by simp) ?_
                      refine AllReadyH.cons (o := _) rfl (fun K hK => ?_) AllReadyH.nil
                      go_simp
                      refine hK.out _ _ hS6 (fun _ => ?_)
                      clear hK K
                      (try simp only [Act.put, List.setIfInBounds_toArray, List.set_cons_zero, List.set_cons_succ])
                      refine wpAnyH_ready (rs := [23]) (fuel := 2) (by kernel_rfl) (by simp) ?_
                      refine AllReadyH.cons (o := _) rfl (fun K hK => ?_) AllReadyH.nil
                      go_simp
                      refine hK.out _ _ hS6 (fun _ => ?_)
                      clear hK K
                      (try simp only [Act.put, List.setIfInBounds_toArray, List.set_cons_zero, List.set_cons_succ])
                      refine wpAnyH_ready (rs := [24]) (fuel := 1) (by kernel_rfl) (by simp) ?_
                      refine AllReadyH.cons (o := _) rfl (fun K hK => ?_) AllReadyH.nil
                      go_simp
                      refine hK.out _ _ hS6 (fun _ => ?_)
                      clear hK K
                      (try simp only [Act.put, List.setIfInBounds_toArray, List.set_cons_zero, List.set_cons_succ])
                      refine wpAnyH_ready (rs := [25]) (fuel := 0) (by kernel_rfl) (by simp) ?_
                      refine AllReadyH.cons (o := _) rfl (fun K hK => ?_) AllReadyH.nil
                      go_simp
                      refine hK.out _ _ hS6 (fun _ => ?_)
                      clear hK K
                      (try simp only [Act.put, List.setIfInBounds_toArray, List.set_cons_zero, List.set_cons_succ])
                      refine wpAnyH_done (by kernel_rfl) ?_ _
                      go_wp2
                      go_ret3
                      exact ⟨says_eq _ _ _ HC.out, bx hbd hb6⟩
    · have hne : ((l.length : Int) != (ins.length : Int)) = true := by simp; omega
      have HNN := Lib.hid hn
      clear hn
      go_wp2
      go_ret3
      exact ⟨says_eq _ _ _ (by rw [HVE.out, if_neg (fun hh => HNN.out hh.2)]), hb01⟩

end Go.Proofs.YtmdljknlbmlacabGreatDoor
