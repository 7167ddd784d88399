/- ratebookref.SameTable at two tables that read as the same: it answers true. Conditions: the argument's slices read as lists in old memory; the names of inputs, joined, fit into 2^47 bytes. -/
import Derived.Test.YtmdljknlbmlacabGreatDoorRefCopyT
import Derived.Test.YtmdljknlbmlacabGreatDoorShelfJ
namespace Go.Proofs.YtmdljknlbmlacabGreatDoor
open Go.RowKit

theorem bytes_ne_self (s : ByteArray) : (s != s) = false := by cases s with | mk d => show (!(d == d)) = false; simp

theorem ref_Join (xs : List ByteArray) (v : Value) (w : World) (h : Sl Enc.str w (Old w) xs v) (hN : xs.length ≤ 140737488355328) (hlen : (Lib.join (xs.map (·.data.toList)) [44]).length ≤ 140737488355328) :
    Calls Tryz.prog 48 #[v, .string ⟨#[44]⟩] w fun e w' => e = .returned (.string ⟨(Lib.join (xs.map (·.data.toList)) [44]).toArray⟩) ∧ Below w.heap.size w w' := by
  have H := Lib.hid h
  obtain ⟨A, c, rfl, hc1, hc2, hn, h4⟩ := h
  by_cases h0 : xs.length = 0
  · obtain rfl : xs = [] := List.length_eq_zero_iff.1 h0
    exact (Any.strings_Join_none Tryz.join Tryz.joinX A c ⟨#[44]⟩ w).mono fun e w' ⟨he, hw⟩ => ⟨he, hw ▸ Below.refl _ _⟩
  · obtain ⟨b, o, rfl, hb, _⟩ := h4 (by omega)
    refine Any.strings_Join Tryz.join Tryz.joinX b o c xs ⟨#[44]⟩ w (fun j x hx => ?_) hb hN hc1 hlen
    have hj : j < xs.length := (List.getElem?_eq_some_iff.1 hx).1
    obtain ⟨b', o', y, e, _, hy, hcell⟩ := H.out.str_at hj
    injection e with e
    injection e with e1 e2
    subst e1 e2
    have : y = x := Option.some.inj (hy.out.symm.trans hx)
    subst this
    exact hcell

set_option maxRecDepth 100000 in
set_option maxHeartbeats 4000000 in
theorem ref_SameTable (t : TabD) (va vb : Value) (w : World) (ha : TabAt w (Old w) t va) (hb : TabAt w (Old w) t vb) (hN : t.ins.length ≤ 140737488355328) (hlen : (Lib.join (t.ins.map (·.data.toList)) [44]).length ≤ 140737488355328) :
    Calls Tryz.prog 33 #[va, vb] w fun e w' => e = .returned (.bool true) ∧ Below w.heap.size w w' := by
  obtain ⟨nm, pol, comp, ins, rules⟩ := t
  obtain ⟨via, vra, rfl, hia, hra⟩ := ha
  obtain ⟨vib, vrb, rfl, hib, hrb⟩ := hb
  simp only at hia hra hib hrb hN hlen
  have HIA := Lib.hid hia
  have HRA := Lib.hid hra
  have HIB := Lib.hid hib
  have HRB := Lib.hid hrb
  have HLEN := Lib.hid hlen
  obtain ⟨Ai, ci, rfl, hi1, hi2, -⟩ := hia
  obtain ⟨Ar, cr, rfl, hr1, hr2, -⟩ := hra
  obtain ⟨Bi, di, rfl, hj1, hj2, -⟩ := hib
  obtain ⟨Br, dr, rfl, hs1, hs2, -⟩ := hrb
  unfold maxLen at hi2 hr2 hj2 hs2
  clear hlen
  have hb0 := below_alloc1 w (.cells #[.string nm, .int .i64 pol, .bool comp, .slice Ai ins.length ci, .slice Ar rules.length cr] 59)
  have F0 := Five.new w (.string nm) (.int .i64 pol) (.bool comp) (.slice Ai ins.length ci) (.slice Ar rules.length cr) 59
  have hz0 : (w.alloc (.cells #[.string nm, .int .i64 pol, .bool comp, .slice Ai ins.length ci, .slice Ar rules.length cr] 59)).heap.size = w.heap.size + 1 := by simp
  generalize hw0 : w.alloc (.cells #[.string nm, .int .i64 pol, .bool comp, .slice Ai ins.length ci, .slice Ar rules.length cr] 59) = w0 at *
  have hb1 := below_alloc1 w0 (.cells #[.string nm, .int .i64 pol, .bool comp, .slice Bi ins.length di, .slice Br rules.length dr] 59)
  have G1 := Five.new w0 (.string nm) (.int .i64 pol) (.bool comp) (.slice Bi ins.length di) (.slice Br rules.length dr) 59
  have hz1 : (w0.alloc (.cells #[.string nm, .int .i64 pol, .bool comp, .slice Bi ins.length di, .slice Br rules.length dr] 59)).heap.size = w.heap.size + 2 := by simp; omega
  rw [hz0] at G1
  generalize hw1 : w0.alloc (.cells #[.string nm, .int .i64 pol, .bool comp, .slice Bi ins.length di, .slice Br rules.length dr] 59) = w1 at *
  have F1 := F0.next hb1
  have hb01 := bx hb0 hb1
  obtain ⟨_, ⟨ea0, ea1, ea2, ea3, ea4⟩, -⟩ := F1
  obtain ⟨_, ⟨eb0, eb1, eb2, eb3, eb4⟩, -⟩ := G1
  have HIA1 := Lib.hid (HIA.out.onOld hb01)
  have HIB1 := Lib.hid (HIB.out.onOld hb01)
  clear F0 HIA HIB
  have n1 := bytes_ne_self nm
  have n2 : (pol != pol) = false := by simp
  have n3 : (comp != comp) = false := by simp
  have n4 : ((ins.length : Int) != (ins.length : Int)) = false := by simp
  have n5 : ((rules.length : Int) != (rules.length : Int)) = false := by simp
  obtain ⟨J, hJ⟩ : ∃ J : ByteArray, J = ⟨(Lib.join (ins.map (·.data.toList)) [44]).toArray⟩ := ⟨_, rfl⟩
  have HJ := Lib.hid hJ
  clear hJ
  have n6 := bytes_ne_self J
  go_enter Tryz.func33, Tryz.ntmps33
  go_wp2_with fail
  clear hw0 hw1
  go_region_held3 (fun w' => w'.cell? ⟨w.heap.size, 0, none⟩ = some (.string nm) ∧ w'.cell? ⟨w.heap.size, 1, none⟩ = some (.int .i64 pol) ∧ w'.cell? ⟨w.heap.size, 2, none⟩ = some (.bool comp) ∧ w'.cell? ⟨w.heap.size, 3, none⟩ = some (.slice Ai ins.length ci) ∧ w'.cell? ⟨w.heap.size, 4, none⟩ = some (.slice Ar rules.length cr) ∧ w'.cell? ⟨w.heap.size + 1, 0, none⟩ = some (.string nm) ∧ w'.cell? ⟨w.heap.size + 1, 1, none⟩ = some (.int .i64 pol) ∧ w'.cell? ⟨w.heap.size + 1, 2, none⟩ = some (.bool comp) ∧ w'.cell? ⟨w.heap.size + 1, 3, none⟩ = some (.slice Bi ins.length di) ∧ w'.cell? ⟨w.heap.size + 1, 4, none⟩ = some (.slice Br rules.length dr)) (first | exact ⟨ea0, ea1, ea2, ea3, ea4, eb0, eb1, eb2, eb3, eb4⟩ | exact ⟨fa0, fa1, fa2, fa3, fa4, fb0, fb1, fb2, fb3, fb4⟩ | exact ⟨ga0, ga1, ga2, ga3, ga4, gb0, gb1, gb2, gb3, gb4⟩)
    (first
     | (go_at_call 48; refine (ref_Join ins _ _ ?_ hN HLEN.out).mono ?_; exact HIA1.out; rintro e w5 ⟨rfl, hb5⟩; rw [← HJ.out]; have hz5 := hb5.size; have hb5' : Below w1.heap.size w1 w5 := undrew hb5; have fa0 := (hb5'.cell (p := ⟨w.heap.size, 0, none⟩) (by show w.heap.size < _; omega)).trans ea0; have fa1 := (hb5'.cell (p := ⟨w.heap.size, 1, none⟩) (by show w.heap.size < _; omega)).trans ea1; have fa2 := (hb5'.cell (p := ⟨w.heap.size, 2, none⟩) (by show w.heap.size < _; omega)).trans ea2; have fa3 := (hb5'.cell (p := ⟨w.heap.size, 3, none⟩) (by show w.heap.size < _; omega)).trans ea3; have fa4 := (hb5'.cell (p := ⟨w.heap.size, 4, none⟩) (by show w.heap.size < _; omega)).trans ea4; have fb0 := (hb5'.cell (p := ⟨w.heap.size + 1, 0, none⟩) (by show w.heap.size + 1 < _; omega)).trans eb0; have fb1 := (hb5'.cell (p := ⟨w.heap.size + 1, 1, none⟩) (by show w.heap.size + 1 < _; omega)).trans eb1; have fb2 := (hb5'.cell (p := ⟨w.heap.size + 1, 2, none⟩) (by show w.heap.size + 1 < _; omega)).trans eb2; have fb3 := (hb5'.cell (p := ⟨w.heap.size + 1, 3, none⟩) (by show w.heap.size + 1 < _; omega)).trans eb3; have fb4 := (hb5'.cell (p := ⟨w.heap.size + 1, 4, none⟩) (by show w.heap.size + 1 < _; omega)).trans eb4)
     | (go_at_call 48; refine (ref_Join ins _ _ ?_ hN HLEN.out).mono ?_; exact HIB1.out.onOld hb5'; rintro e w6 ⟨rfl, hb6⟩; rw [← HJ.out]; have hz6 := hb6.size; have hb6' := bx hb5' hb6; have ga0 := (hb6'.cell (p := ⟨w.heap.size, 0, none⟩) (by show w.heap.size < _; omega)).trans ea0; have ga1 := (hb6'.cell (p := ⟨w.heap.size, 1, none⟩) (by show w.heap.size < _; omega)).trans ea1; have ga2 := (hb6'.cell (p := ⟨w.heap.size, 2, none⟩) (by show w.heap.size < _; omega)).trans ea2; have ga3 := (hb6'.cell (p := ⟨w.heap.size, 3, none⟩) (by show w.heap.size < _; omega)).trans ea3; have ga4 := (hb6'.cell (p := ⟨w.heap.size, 4, none⟩) (by show w.heap.size < _; omega)).trans ea4; have gb0 := (hb6'.cell (p := ⟨w.heap.size + 1, 0, none⟩) (by show w.heap.size + 1 < _; omega)).trans eb0; have gb1 := (hb6'.cell (p := ⟨w.heap.size + 1, 1, none⟩) (by show w.heap.size + 1 < _; omega)).trans eb1; have gb2 := (hb6'.cell (p := ⟨w.heap.size + 1, 2, none⟩) (by show w.heap.size + 1 < _; omega)).trans eb2; have gb3 := (hb6'.cell (p := ⟨w.heap.size + 1, 3, none⟩) (by show w.heap.size + 1 < _; omega)).trans eb3; have gb4 := (hb6'.cell (p := ⟨w.heap.size + 1, 4, none⟩) (by show w.heap.size + 1 < _; omega)).trans eb4))
  have hb06 := bx hb01 hb6'
  have hz16 := hb6'.size
  have HRA6 := Lib.hid (HRA.out.onOld hb06)
  have HRB6 := Lib.hid (HRB.out.onOld hb06)
  clear ea0 ea1 ea2 ea3 ea4 eb0 eb1 eb2 eb3 eb4 fa0 fa1 fa2 fa3 fa4 fb0 fb1 fb2 fb3 fb4 ga0 ga1 ga2 ga3 gb0 gb1 gb2 gb3 hb5 hb5' hb6 HIA1 HIB1 n1 n2 n3 n4 n5 n6
  go_wp2
  go_loopw [59] (fun i wr => ∃ k : Nat, k ≤ rules.length ∧ i = .int .i64 k ∧ Below w6.heap.size w6 wr) (fun i _ => rules.length - (intOf i).toNat)
  case atStart => exact ⟨0, Nat.zero_le _, rfl, Below.refl _ _⟩
  case round =>
    obtain ⟨k, hk, rfl, hb⟩ := hrel
    have hsz := hb.size
    by_cases hlt : k < rules.length
    · obtain ⟨b, o, cs, x, vc, rfl, _, hx, c1, c2, hr⟩ := (HRA6.out.onOld hb).rule_at hlt
      obtain ⟨b', o', cs', x', vc', rfl, hb'S, hx', d1, d2, hr'⟩ := (HRB6.out.onOld hb).rule_at hlt
      obtain ⟨rfl, rfl⟩ : cs' = cs ∧ x' = x := by
        have e := hx.out.symm.trans hx'.out
        injection e with e
        injection e with e1 e2
        exact ⟨e1.symm, e2.symm⟩
      obtain ⟨Ac, cc, rfl, hcc1, hcc2⟩ := hr.form
      obtain ⟨Bc, dc, rfl, hdc1, hdc2⟩ := hr'.form
      have hcc2' : cc ≤ 2 ^ 63 - 1 := hcc2
      have hdc2' : dc ≤ 2 ^ 63 - 1 := hdc2
      have hk0 : (0 : Int) ≤ k := by omega
      have hk1 : (k : Int) < rules.length := by omega
      have m1 : (x' != x') = false := by simp
      have m2 : ((cs'.length : Int) != (cs'.length : Int)) = false := by simp
      have hbz := below_alloc1 wr (.cells #[.slice Ac cs'.length cc, .int .i64 x'] 82)
      have q0 : (wr.alloc (.cells #[.slice Ac cs'.length cc, .int .i64 x'] 82)).cell? ⟨wr.heap.size, 0, none⟩ = some (.slice Ac cs'.length cc) := cell_new _ _ _ _ _ rfl
      have q1 : (wr.alloc (.cells #[.slice Ac cs'.length cc, .int .i64 x'] 82)).cell? ⟨wr.heap.size, 1, none⟩ = some (.int .i64 x') := cell_new _ _ _ _ _ rfl
      have hz : (wr.alloc (.cells #[.slice Ac cs'.length cc, .int .i64 x'] 82)).heap.size = wr.heap.size + 1 := by simp
      have hgb := (hb.cell (p := ⟨w.heap.size + 1, 4, none⟩) (by show w.heap.size + 1 < _; omega)).trans gb4
      have hgb' := (hbz.cell (p := ⟨w.heap.size + 1, 4, none⟩) (by show w.heap.size + 1 < _; omega)).trans hgb
      have d1' := (hbz.cell (p := ⟨b', o' + k * 2, none⟩) (World.block_lt_of_cell? wr _ d1)).trans d1
      have d2' := (hbz.cell (p := ⟨b', o' + k * 2 + 1, none⟩) (World.block_lt_of_cell? wr _ d2)).trans d2
      generalize hwz : wr.alloc (.cells #[.slice Ac cs'.length cc, .int .i64 x'] 82) = wz at *
      have hbv := below_alloc1 wz (.cells #[.slice Bc cs'.length dc, .int .i64 x'] 82)
      have s0 : (wz.alloc (.cells #[.slice Bc cs'.length dc, .int .i64 x'] 82)).cell? ⟨wr.heap.size + 1, 0, none⟩ = some (.slice Bc cs'.length dc) := by rw [← hz]; exact cell_new _ _ _ _ _ rfl
      have s1 : (wz.alloc (.cells #[.slice Bc cs'.length dc, .int .i64 x'] 82)).cell? ⟨wr.heap.size + 1, 1, none⟩ = some (.int .i64 x') := by rw [← hz]; exact cell_new _ _ _ _ _ rfl
      have q0' := (hbv.cell (p := ⟨wr.heap.size, 0, none⟩) (by show wr.heap.size < _; omega)).trans q0
      have q1' := (hbv.cell (p := ⟨wr.heap.size, 1, none⟩) (by show wr.heap.size < _; omega)).trans q1
      have hz2 : (wz.alloc (.cells #[.slice Bc cs'.length dc, .int .i64 x'] 82)).heap.size = wr.heap.size + 2 := by simp; omega
      generalize hwv : wz.alloc (.cells #[.slice Bc cs'.length dc, .int .i64 x'] 82) = wv at *
      have hbrv := bx hbz hbv
      have HA := Lib.hid (hr.onOld hbrv)
      have HB := Lib.hid (hr'.onOld hbrv)
      clear hr hr'
      go_wp2
      clear hwz hwv
      go_loopw [86] (fun i wi => ∃ j : Nat, j ≤ cs'.length ∧ i = .int .i64 j ∧ Below wv.heap.size wv wi) (fun i _ => cs'.length - (intOf i).toNat)
      case atStart => exact ⟨0, Nat.zero_le _, rfl, Below.refl _ _⟩
      case round =>
        rename World => wi
        obtain ⟨j, hj, rfl, hbi⟩ := hrel
        have hszi := hbi.size
        by_cases hjl : j < cs'.length
        · obtain ⟨ba, oa, ng, rs, va, rfl, _, hy, p1, p2, ha2⟩ := (HA.out.onOld hbi).cell_at hjl
          obtain ⟨bb, ob, ng', rs', vb, rfl, _, hy', r1, r2, hb2⟩ := (HB.out.onOld hbi).cell_at hjl
          obtain ⟨rfl, rfl⟩ : ng' = ng ∧ rs' = rs := by
            have e := hy.out.symm.trans hy'.out
            injection e with e
            injection e with e1 e2
            exact ⟨e1.symm, e2.symm⟩
          obtain ⟨Aq, cq, rfl, hq1, hq2⟩ := ha2.form
          obtain ⟨Bq, dq, rfl, hq3, hq4⟩ := hb2.form
          have hq2' : cq ≤ 2 ^ 63 - 1 := hq2
          have hq4' : dq ≤ 2 ^ 63 - 1 := hq4
          have hbw := below_alloc1 wi (.cells #[.bool ng', .slice Aq rs'.length cq] 79)
          have hgw : wi.heap.size < (wi.alloc (.cells #[.bool ng', .slice Aq rs'.length cq] 79)).heap.size := by simp
          have e0 : (wi.alloc (.cells #[.bool ng', .slice Aq rs'.length cq] 79)).cell? ⟨wi.heap.size, 0, none⟩ = some (.bool ng') := cell_new _ _ _ _ _ rfl
          have e1 : (wi.alloc (.cells #[.bool ng', .slice Aq rs'.length cq] 79)).cell? ⟨wi.heap.size, 1, none⟩ = some (.slice Aq rs'.length cq) := cell_new _ _ _ _ _ rfl
          have s0i := (hbi.cell (p := ⟨wr.heap.size + 1, 0, none⟩) (by show wr.heap.size + 1 < _; omega)).trans s0
          have hls : wr.heap.size + 1 < wi.heap.size := by omega
          have e2 := (hbw.cell (p := ⟨wr.heap.size + 1, 0, none⟩) hls).trans s0i
          have hbbl : bb < wi.heap.size := World.block_lt_of_cell? wi _ r1
          have e3 := (hbw.cell (p := ⟨bb, ob + j * 2, none⟩) hbbl).trans r1
          have e4 := (hbw.cell (p := ⟨bb, ob + j * 2 + 1, none⟩) hbbl).trans r2
          have HA2 := Lib.hid (ha2.onOld hbw)
          have HB2 := Lib.hid (hb2.onOld hbw)
          have hj0 : (0 : Int) ≤ j := by omega
          have hj1 : (j : Int) < cs'.length := by omega
          have hl1 := Nat.lt_trans hls hgw
          have hl2 := Nat.lt_trans hbbl hgw
          have m3 : (ng' != ng') = false := by simp
          clear ha2 hb2 q0 q1 q0' q1' s1 d1 d2 d1' d2' hgb hgb' c1 c2
          go_wp2_with fail
          generalize wi.alloc (.cells #[.bool ng', .slice Aq rs'.length cq] 79) = wj at *
          clear p1 p2 r1 r2
          go_region_held3 (fun w' => w'.cell? ⟨wi.heap.size, 0, none⟩ = some (.bool ng') ∧ w'.cell? ⟨wi.heap.size, 1, none⟩ = some (.slice Aq rs'.length cq) ∧ w'.cell? ⟨wr.heap.size + 1, 0, none⟩ = some (.slice (some ⟨bb, ob, none⟩) cs'.length dc) ∧ w'.cell? ⟨bb, ob + j * 2, none⟩ = some (.bool ng') ∧ w'.cell? ⟨bb, ob + j * 2 + 1, none⟩ = some (.slice Bq rs'.length dq)) (first | exact ⟨e0, e1, e2, e3, e4⟩ | exact ⟨f0, f1, f2, f3, f4⟩)
            (first
             | (go_at_call 67; refine (ref_SameSet rs' rs' _ _ _ ?_ ?_).mono ?_; exact HA2.out; exact HB2.out; rintro e w5 ⟨rfl, hb5⟩; rw [decide_eq_true (rfl : rs' = rs')]; have f0 := (hb5.cell (p := ⟨wi.heap.size, 0, none⟩) hgw).trans e0; have f1 := (hb5.cell (p := ⟨wi.heap.size, 1, none⟩) hgw).trans e1; have f2 := (hb5.cell (p := ⟨wr.heap.size + 1, 0, none⟩) hl1).trans e2; have f3 := (hb5.cell (p := ⟨bb, ob + j * 2, none⟩) hl2).trans e3; have f4 := (hb5.cell (p := ⟨bb, ob + j * 2 + 1, none⟩) hl2).trans e4; have hb5' := bx hbi (bx hbw (undrew hb5)); clear hb5))
          go_wp2
          exact ⟨⟨j + 1, by omega, by go_num, hb5'⟩, by simp [intOf]; omega⟩
        · go_wp2
          exact ⟨⟨k + 1, by omega, by go_num, bx hb (bx hbrv hbi)⟩, by simp [intOf]; omega⟩
    · go_wp2
      go_ret
      exact ⟨rfl, bx hb06 hb⟩

end Go.Proofs.YtmdljknlbmlacabGreatDoor
