/- table.combine and Says, as Lean functions of the data that their arguments read as. Conditions: argument slices read as lists in old memory; numbers that are added are bounded as those of good tables are. -/
import Derived.Test.YthnfkghgaagaiabTableD
import Derived.OwnWalk
namespace Go.Proofs.Ythnfkghgaagaiab
open Go.RowKit

set_option maxHeartbeats 400000 in
theorem table_combine (p : Int) (l : List Int) (v : Value) (w : World) (h : Sl Enc.int w (Old w) l v) (hb : ∀ x, x ∈ l → -1000000 ≤ x ∧ x ≤ 1000000) (hl : l.length ≤ 6) (h0 : p = 7 ∨ 0 < l.length) :
    Calls Try.prog 35 #[.int .i64 p, v] w fun e w' => e = .returned (.int .i64 (combineV p l)) ∧ Below w.heap.size w w' := by
  have H := Lib.hid h
  have HB := Lib.hid hb
  clear hb
  obtain ⟨A, c, rfl, hc1, hc2, -⟩ := h
  unfold maxLen at hc2
  by_cases h4 : p = 4
  · subst h4
    have h0' : 0 < l.length := by omega
    have HE : Hid (combineV 4 l = minL l) := rfl
    go_enter Try.func35, Try.ntmps35
    go_wp2_with fail
    refine (slices_Min l _ _ H.out h0').mono ?_
    rintro e w1 ⟨rfl, hb1⟩
    go_wp2
    go_ret
    exact ⟨ret_int HE.out.symm, hb1⟩
  · have h4' : (p == 4) = false := beq_eq_false_iff_ne.2 h4
    by_cases h5 : p = 5
    · subst h5
      have h0' : 0 < l.length := by omega
      have HE : Hid (combineV 5 l = maxL l) := rfl
      go_enter Try.func35, Try.ntmps35
      go_wp2_with fail
      refine (slices_Max l _ _ H.out h0').mono ?_
      rintro e w1 ⟨rfl, hb1⟩
      go_wp2
      go_ret
      exact ⟨ret_int HE.out.symm, hb1⟩
    · have h5' : (p == 5) = false := beq_eq_false_iff_ne.2 h5
      by_cases h6 : p = 6
      · subst h6
        have HE : Hid (combineV 6 l = l.sum) := rfl
        go_enter Try.func35, Try.ntmps35
        go_wp2_with fail
        refine (table_sum l _ _ H.out HB.out hl).mono ?_
        rintro e w1 ⟨rfl, hb1⟩
        go_wp2
        go_ret
        exact ⟨ret_int HE.out.symm, hb1⟩
      · have h6' : (p == 6) = false := beq_eq_false_iff_ne.2 h6
        by_cases h7 : p = 7
        · subst h7
          have HE : Hid (combineV 7 l = l.length) := rfl
          go_enter Try.func35, Try.ntmps35
          go_wp2
          go_ret
          exact ⟨ret_int HE.out.symm, Below.refl _ _⟩
        · have h7' : (p == 7) = false := beq_eq_false_iff_ne.2 h7
          have hp0 : 0 < l.length := by omega
          obtain ⟨b0, o0, a, e0, hS0, ha, c0⟩ := H.out.num_at (k := 0) hp0
          subst e0
          have c0' : w.cell? ⟨b0, o0, none⟩ = some (.int .i64 a) := by simpa using c0
          have HE : Hid (combineV p l = a) := by
            show _ = _
            unfold combineV
            rw [if_neg h4, if_neg h5, if_neg h6, if_neg h7]
            have := ha.out
            cases l with
            | nil => simp at this
            | cons z l => simpa using this
          generalize combineV p l = G at *
          generalize hN : l.length = N at *
          have HN := Lib.hid hN
          clear hN c0 h0
          have hl0 : (0 : Int) < N := by omega
          have hn1 : ¬ N = 0 := by omega
          go_enter Try.func35, Try.ntmps35
          go_wp2
          go_ret
          exact ⟨ret_int HE.out.symm, Below.refl _ _⟩

/-- the Outs that a list of indices leads to -/
def outAt (rules : List RuleD) (j : Int) : Int := (rules[j.toNat]?.map (·.2)).getD 0
theorem map_take {α β : Type} {l : List α} {k : Nat} {x : α} (f : α → β) (h : l[k]? = some x) : (l.take (k + 1)).map f = (l.take k).map f ++ [f x] := by
  rw [take_at h]; simp
theorem says_eq {R : Int × Bool × Int} (a : Int) (b : Bool) (c : Int) (h : R = (a, b, c)) : Ending.returned (.tuple #[.int .i64 a, .bool b, .int .i64 c]) = Ending.returned (.tuple #[.int .i64 R.1, .bool R.2.1, .int .i64 R.2.2]) := by subst h; rfl
def SaysPost (r : Int × Bool × Int) (w : World) (e : Ending) (w' : World) : Prop := e = .returned (.tuple #[.int .i64 r.1, .bool r.2.1, .int .i64 r.2.2]) ∧ Below w.heap.size w w'

set_option maxHeartbeats 1000000 in
theorem table_Says (t : TabD) (l : List Int) (v u : Value) (w : World) (h : TabAt w (Old w) t v) (h' : Sl Enc.int w (Old w) l u) (hs : smallT t) :
    Calls Try.prog 13 #[v, u] w (SaysPost (saysV t l) w) := by
  have HS := Lib.hid hs
  have HT := Lib.hid h
  have HI := Lib.hid h'
  have HGB := Lib.hid (fun hg => outs_small (t := t) hg l)
  have HRL := Lib.hid (fun hg : goodT t = true => (goodRs_iff.1 (goodT_iff.1 hg).2.2.2.2).2.1)
  have HIX := Lib.hid (idxL_outs t.rules l [])
  have HVE : Hid (saysV t l = if goodT t = true ∧ l.length = t.ins.length then saysO t.pol (outsL t.rules l) else (0, false, 1)) := rfl
  obtain ⟨nm, pol, comp, ins, rules⟩ := t
  obtain ⟨vi, vr, rfl, hi, hr⟩ := h
  simp only at hi hr HGB HRL HIX HVE
  clear hs
  have H := Lib.hid hr
  obtain ⟨Ai, ci, rfl, hi1, hi2, -⟩ := hi
  obtain ⟨A, c, rfl, hc1, hc2, -⟩ := hr
  obtain ⟨B, d, rfl, hd1, hd2, -⟩ := h'
  unfold maxLen at hi2 hc2 hd2
  generalize saysV ⟨nm, pol, comp, ins, rules⟩ l = R at *
  have hb0 := below_alloc1 w (.cells #[.string nm, .int .i64 pol, .bool comp, .slice Ai ins.length ci, .slice A rules.length c] 25)
  generalize hw0 : w.alloc (.cells #[.string nm, .int .i64 pol, .bool comp, .slice Ai ins.length ci, .slice A rules.length c] 25) = w0 at *
  have hg0 : w.heap.size < w0.heap.size := by rw [← hw0]; simp
  have k0 : w0.cell? ⟨w.heap.size, 0, none⟩ = some (.string nm) := by rw [← hw0]; exact cell_new _ _ _ _ _ rfl
  have k1 : w0.cell? ⟨w.heap.size, 1, none⟩ = some (.int .i64 pol) := by rw [← hw0]; exact cell_new _ _ _ _ _ rfl
  have k2 : w0.cell? ⟨w.heap.size, 2, none⟩ = some (.bool comp) := by rw [← hw0]; exact cell_new _ _ _ _ _ rfl
  have k3 : w0.cell? ⟨w.heap.size, 3, none⟩ = some (.slice Ai ins.length ci) := by rw [← hw0]; exact cell_new _ _ _ _ _ rfl
  have k4 : w0.cell? ⟨w.heap.size, 4, none⟩ = some (.slice A rules.length c) := by rw [← hw0]; exact cell_new _ _ _ _ _ rfl
  have HT0 := Lib.hid (HT.out.onOld hb0)
  go_enter Try.func13, Try.ntmps13
  go_wp2_with fail
  refine (table_Good _ _ _ HT0.out HS.out).mono ?_
  rintro e w1 ⟨rfl, hb1⟩
  have j0 := (hb1.cell (p := ⟨w.heap.size, 0, none⟩) hg0).trans k0
  have j1 := (hb1.cell (p := ⟨w.heap.size, 1, none⟩) hg0).trans k1
  have j2 := (hb1.cell (p := ⟨w.heap.size, 2, none⟩) hg0).trans k2
  have j3 := (hb1.cell (p := ⟨w.heap.size, 3, none⟩) hg0).trans k3
  have j4 := (hb1.cell (p := ⟨w.heap.size, 4, none⟩) hg0).trans k4
  have hb01 := bx hb0 hb1
  have HT1 := Lib.hid (HT.out.onOld hb01)
  have HI1 := Lib.hid (HI.out.onOld hb01)
  have hg1 := Nat.lt_of_lt_of_le hg0 hb1.size
  clear k0 k1 k2 k3 k4 hw0 hb1
  cases hg : goodT ⟨nm, pol, comp, ins, rules⟩
  · have HG := Lib.hid hg
    clear hg
    go_wp2
    go_ret3
    exact ⟨says_eq _ _ _ (by rw [HVE.out, if_neg (by rw [HG.out]; simp)]), hb01⟩
  · have HG := Lib.hid hg
    clear hg
    by_cases hn : l.length = ins.length
    · have hne : ((l.length : Int) != (ins.length : Int)) = false := by simp [hn]
      have HV : Hid (R = saysO pol (outsL rules l)) := by show _ = _; rw [HVE.out, if_pos ⟨HG.out, hn⟩]
      have hrl : rules.length ≤ 6 := HRL.out HG.out
      have HBD := Lib.hid (HGB.out HG.out)
      have HN := Lib.hid hn
      clear hn HGB HRL HVE
      go_wp2_with fail
      refine (table_Matches _ l _ _ _ HT1.out HI1.out HS.out).mono ?_
      rintro e w2 ⟨v2, rfl, ho2, hb2⟩
      simp only at ho2
      have i1 := (hb2.cell (p := ⟨w.heap.size, 1, none⟩) hg1).trans j1
      have i4 := (hb2.cell (p := ⟨w.heap.size, 4, none⟩) hg1).trans j4
      have hb02 := bx hb01 hb2
      have hg2 := Nat.lt_of_lt_of_le hg1 hb2.size
      have HM := Lib.hid (ho2.slOld (Nat.le_refl _))
      have H2 := Lib.hid (H.out.onOld hb02)
      have hml : (idxL 0 rules l).length ≤ 6 := Nat.le_trans (idxL_length rules l 0) hrl
      obtain ⟨hix1, hix2⟩ := HIX.out
      have HX1 := Lib.hid hix1
      have HX2 : Hid ((idxL 0 rules l).map (outAt rules) = outsL rules l) := hix2
      clear j0 j1 j2 j3 j4 ho2 hb2 hb01 HIX hix1 hix2 HT0 HT1 HI1
      generalize idxL 0 rules l = M at *
      obtain ⟨C, f, rfl, hm1, hm2⟩ := HM.out.form
      unfold maxLen at hm2
      go_wp2
      go_loopw [7, 25] (fun r i wr => ∃ k : Nat, k ≤ M.length ∧ i = .int .i64 k ∧ OwnG Enc.int wr w2.heap.size w2.heap.size 3 r ((M.take k).map (outAt rules)) ∧ Below w2.heap.size w2 wr) (fun _ i _ => M.length - (intOf i).toNat)
      case atStart => exact ⟨0, Nat.zero_le _, rfl, OwnG.nil, Below.refl _ _⟩
      case round =>
        obtain ⟨k, hk, rfl, hown, hbl⟩ := hrel
        have hsz := hbl.size
        by_cases hlt : k < M.length
        · obtain ⟨bm, om, j, rfl, _, hj, m1⟩ := (HM.out.onOld hbl).num_at hlt
          obtain ⟨n, hjn, hnr⟩ := HX1.out j (List.mem_of_getElem? hj.out)
          have hnr' : n < rules.length := by simpa using hnr
          obtain ⟨b, o, cs, x, vc, rfl, _, hx, c1, c2, hr⟩ := (H2.out.onOld hbl).rule_at hnr'
          have a4 := (hbl.cell (p := ⟨w.heap.size, 4, none⟩) hg2).trans i4
          have HO := Lib.hid hown
          have HTK : Hid ((M.take (k + 1)).map (outAt rules) = (M.take k).map (outAt rules) ++ [x]) := by
            show _ = _
            rw [map_take _ hj.out]
            congr 1
            have : outAt rules j = x := by
              unfold outAt; rw [hjn]; show (rules[n]?.map (·.2)).getD 0 = x; rw [hx.out]; rfl
            rw [this]
          have hlen : ((M.take k).map (outAt rules)).length = k := by rw [List.length_map, List.length_take]; omega
          have HL := Lib.hid hlen
          subst hjn
          have hn0 : (0 : Int) ≤ n := by omega
          have hn1 : (n : Int) < rules.length := by omega
          have hbz := hbl.alloc hsz (.cells #[.int .i64 x] 3)
          have HO1 := Lib.hid (HO.out.alloc (.cells #[.int .i64 x] 3))
          have HY : Hid (Enc.int.rd (wr.alloc (.cells #[.int .i64 x] 3)) (Off w2.heap.size (wr.alloc (.cells #[.int .i64 x] 3)) u7) x [.int .i64 x]) := rfl
          clear hr hown hlen hnr
          go_wp2_with (at_builtin; refine wpList_append_one (E := Enc.int) _ rfl _ _ 28 rfl w2.heap.size w2.heap.size 3 8 (.int .i64 0) under_intsT infoIntT rfl (by decide) _ _ rfl HO1.out ⟨wr.heap.size, 0, none⟩ x [.int .i64 x] rfl HY.out (cell_one_new _ _ _) (by rw [HL.out]; omega) (by rw [HL.out]; unfold maxLen; omega) (by simp; omega) ?_; intro v' w3 hown' hgrow3 _)
          refine ⟨⟨k + 1, by omega, by go_num, by rw [HTK.out]; exact hown', hbz.grown hgrow3 (by simp; omega) (fun _ hr => (HO.out.lt _ hr).1)⟩, by simp [intOf]; omega⟩
        · have e : M.take k = M := List.take_of_length_le (by omega)
          rw [e, HX2.out] at hown
          have HO := Lib.hid (hown.slOld (Nat.le_refl _))
          have a1 := (hbl.cell (p := ⟨w.heap.size, 1, none⟩) hg2).trans i1
          have hgr := Nat.lt_of_lt_of_le hg2 hsz
          clear hown e
          obtain ⟨hob1, hob2⟩ := HBD.out
          have HB2 := Lib.hid hob2
          clear hob2
          generalize outsL rules l = O at *
          obtain ⟨D, g, rfl, hg1', hg2'⟩ := HO.out.form
          unfold maxLen at hg2'
          by_cases h0 : O.length = 0
          · have h0' : (O.length : Int) = 0 := by omega
            by_cases hp : pol = 7
            · subst hp
              have HC : Hid (saysO 7 O = (combineV 7 O, true, 0)) := by
                show _ = _
                unfold saysO
                rw [if_neg (by simp), conflict_other (by omega) (by omega)]; rfl
              have HCF := Lib.hid (conflict_other (p := 7) (l := O) (by omega) (by omega))
              go_wp2_with fail
              refine (table_conflict 7 O _ _ (by have := HO.out; rw [h0] at this; exact this)).mono ?_
              rintro e w4 ⟨rfl, hb4⟩
              rw [HCF.out]
              have a1' := (hb4.cell (p := ⟨w.heap.size, 1, none⟩) hgr).trans a1
              go_wp2_with fail
              refine (table_combine 7 O _ _ (by have := HO.out.onOld hb4; rw [h0] at this; exact this) HB2.out hob1 (.inl rfl)).mono ?_
              rintro e w5 ⟨rfl, hb5⟩
              go_wp2
              go_ret3
              exact ⟨says_eq _ _ _ (by rw [HV.out, HC.out]), bx hb02 (bx hbl (bx hb4 hb5))⟩
            · have hp' : (pol != 7) = true := by simpa using hp
              have HC : Hid (saysO pol O = (0, false, 0)) := by show _ = _; unfold saysO; rw [if_pos ⟨h0, hp⟩]
              go_wp2
              go_ret3
              exact ⟨says_eq _ _ _ (by rw [HV.out, HC.out]), bx hb02 hbl⟩
          · have h0' : ((O.length : Int) == 0) = false := beq_eq_false_iff_ne.2 (by omega)
            go_wp2_with fail
            refine (table_conflict pol O _ _ HO.out).mono ?_
            rintro e w4 ⟨rfl, hb4⟩
            have a1' := (hb4.cell (p := ⟨w.heap.size, 1, none⟩) hgr).trans a1
            cases hcf : conflictB pol O
            · have HC : Hid (saysO pol O = (combineV pol O, true, 0)) := by
                show _ = _
                unfold saysO
                rw [if_neg (fun hh => h0 hh.1), hcf]; rfl
              have HF := Lib.hid hcf
              clear hcf
              go_wp2_with fail
              refine (table_combine pol O _ _ (HO.out.onOld hb4) HB2.out hob1 (.inr (by omega))).mono ?_
              rintro e w5 ⟨rfl, hb5⟩
              go_wp2
              go_ret3
              exact ⟨says_eq _ _ _ (by rw [HV.out, HC.out]), bx hb02 (bx hbl (bx hb4 hb5))⟩
            · have HC : Hid (saysO pol O = (0, false, 4)) := by
                show _ = _
                unfold saysO
                rw [if_neg (fun hh => h0 hh.1), hcf]; rfl
              have HF := Lib.hid hcf
              clear hcf
              go_wp2
              go_ret3
              exact ⟨says_eq _ _ _ (by rw [HV.out, HC.out]), bx hb02 (bx hbl hb4)⟩
    · have hne : ((l.length : Int) != (ins.length : Int)) = true := by simp; omega
      have HNN := Lib.hid hn
      clear hn
      go_wp2
      go_ret3
      exact ⟨says_eq _ _ _ (by rw [HVE.out, if_neg (fun hh => HNN.out hh.2)]), hb01⟩

end Go.Proofs.Ythnfkghgaagaiab
