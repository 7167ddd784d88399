/- ratebookkeep.sameTable returns true of two tables that read alike. Conditions: argument slices read as lists in old memory. -/
import Derived.Test.YtmdljknlbmlacabDoorKeepSpan
import Derived.Test.YtmdljknlbmlacabDoorTxtE
import Derived.Deep.RegionHeld3
import Derived.BigQuiet
namespace Go.Proofs.YtmdljknlbmlacabDoor
open Go.RowKit

theorem bytes_ne_selfK (s : ByteArray) : (s != s) = false := by cases s with | mk d => show (!(d == d)) = false; simp

set_option maxRecDepth 100000 in
set_option maxHeartbeats 1000000 in
theorem keep_sameTable (t : TabD) (va vb : Value) (w : World) (ha : TabAt w (Old w) t va) (hb : TabAt w (Old w) t vb) :
    Calls Tryd.prog 7 #[va, vb] w fun e w' => e = .returned (.bool true) ∧ Below w.heap.size w w' := by
  obtain ⟨nm, pol, comp, ins, rules⟩ := t
  obtain ⟨via, vra, rfl, hia, hra⟩ := ha
  obtain ⟨vib, vrb, rfl, hib, hrb⟩ := hb
  simp only at hia hra hib hrb
  have HIA := Lib.hid hia
  have HRA := Lib.hid hra
  have HIB := Lib.hid hib
  have HRB := Lib.hid hrb
  obtain ⟨Ai, ci, rfl, hi1, hi2, -⟩ := hia
  obtain ⟨Ar, cr, rfl, hr1, hr2, -⟩ := hra
  obtain ⟨Bi, di, rfl, hj1, hj2, -⟩ := hib
  obtain ⟨Br, dr, rfl, hs1, hs2, -⟩ := hrb
  unfold maxLen at hi2 hr2 hj2 hs2
  have hb0 := below_alloc1 w (.cells #[.string nm, .int .i64 pol, .bool comp, .slice Ai ins.length ci, .slice Ar rules.length cr] 25)
  have F0 := Cs.new w [.string nm, .int .i64 pol, .bool comp, .slice Ai ins.length ci, .slice Ar rules.length cr] 25
  have hz0 : (w.alloc (.cells #[.string nm, .int .i64 pol, .bool comp, .slice Ai ins.length ci, .slice Ar rules.length cr] 25)).heap.size = w.heap.size + 1 := by simp
  change Cs (w.alloc (.cells #[.string nm, .int .i64 pol, .bool comp, .slice Ai ins.length ci, .slice Ar rules.length cr] 25)) _ _ at F0
  generalize hw0 : w.alloc (.cells #[.string nm, .int .i64 pol, .bool comp, .slice Ai ins.length ci, .slice Ar rules.length cr] 25) = w0 at *
  have hb1 := below_alloc1 w0 (.cells #[.string nm, .int .i64 pol, .bool comp, .slice Bi ins.length di, .slice Br rules.length dr] 25)
  have G1 := Cs.new w0 [.string nm, .int .i64 pol, .bool comp, .slice Bi ins.length di, .slice Br rules.length dr] 25
  have hz1 : (w0.alloc (.cells #[.string nm, .int .i64 pol, .bool comp, .slice Bi ins.length di, .slice Br rules.length dr] 25)).heap.size = w.heap.size + 2 := by simp; omega
  rw [hz0] at G1
  change Cs (w0.alloc (.cells #[.string nm, .int .i64 pol, .bool comp, .slice Bi ins.length di, .slice Br rules.length dr] 25)) _ _ at G1
  generalize hw1 : w0.alloc (.cells #[.string nm, .int .i64 pol, .bool comp, .slice Bi ins.length di, .slice Br rules.length dr] 25) = w1 at *
  have F1 := Lib.hid (F0.next hb1)
  have G1' := Lib.hid G1
  have hb01 := bx hb0 hb1
  have HIA1 := Lib.hid (HIA.out.onOld hb01)
  have HIB1 := Lib.hid (HIB.out.onOld hb01)
  have HRA1 := Lib.hid (HRA.out.onOld hb01)
  have HRB1 := Lib.hid (HRB.out.onOld hb01)
  have ea0 := F1.out.at 0 rfl
  have ea1 := F1.out.at 1 rfl
  have ea2 := F1.out.at 2 rfl
  have ea3 := F1.out.at 3 rfl
  have ea4 := F1.out.at 4 rfl
  have eb0 := G1'.out.at 0 rfl
  have eb1 := G1'.out.at 1 rfl
  have eb2 := G1'.out.at 2 rfl
  have eb3 := G1'.out.at 3 rfl
  have eb4 := G1'.out.at 4 rfl
  clear F0 G1 HIA HIB HRA HRB
  have n1 := bytes_ne_selfK nm
  have n2 : (pol != pol) = false := by simp
  have n3 : (comp != comp) = false := by simp
  have n4 : ((ins.length : Int) != (ins.length : Int)) = false := by simp
  have n5 : ((rules.length : Int) != (rules.length : Int)) = false := by simp
  go_enter Tryd.func7, Tryd.ntmps7
  go_wp2
  clear hw0 hw1 n1 n2 n3 n4 n5
  go_loopw [50] (fun i wr => ∃ k : Nat, k ≤ ins.length ∧ i = .int .i64 k ∧ Hid (Below w1.heap.size w1 wr)) (fun i _ => ins.length - (intOf i).toNat)
  case atStart => exact ⟨0, Nat.zero_le _, rfl, Below.refl _ _⟩
  case round =>
    obtain ⟨k, hk, rfl, HB⟩ := hrel
    have hsz := HB.out.size
    by_cases hlt : k < ins.length
    · obtain ⟨b, o, x, rfl, _, hx, c1⟩ := (HIA1.out.onOld HB.out).str_at hlt
      obtain ⟨b', o', x', rfl, _, hx', d1⟩ := (HIB1.out.onOld HB.out).str_at hlt
      obtain rfl : x' = x := Option.some.inj (hx'.out.symm.trans hx.out)
      have p3 := (F1.out.next HB.out).at 3 rfl
      have q3 := (G1'.out.next HB.out).at 3 rfl
      have hk0 : (0 : Int) ≤ k := by omega
      have hk1 : (k : Int) < ins.length := by omega
      have m1 := bytes_ne_selfK x'
      go_wp2_with fail
      go_quiet (fail)
      go_wp2
      exact ⟨⟨k + 1, by omega, by go_num, below_drewN HB.out _⟩, by simp [intOf]; omega⟩
    · have p4 := (F1.out.next HB.out).at 4 rfl
      have HB1 := Lib.hid HB.out
      have hlt' : ¬ ((k : Int) < ins.length) := by omega
      clear ea0 ea1 ea2 ea3 ea4 eb0 eb1 eb2 eb3 eb4
      rename World => w2
      go_wp2
      go_loopw [68] (fun i wr => ∃ k : Nat, k ≤ rules.length ∧ i = .int .i64 k ∧ Hid (Below w1.heap.size w1 wr)) (fun i _ => rules.length - (intOf i).toNat)
      case atStart => exact ⟨0, Nat.zero_le _, rfl, HB1.out⟩
      case round =>
        rename World => wr
        obtain ⟨k2, hk2, rfl, HB2⟩ := hrel
        have hsz2 := HB2.out.size
        by_cases hlt2 : k2 < rules.length
        · obtain ⟨b, o, cs, x, vc, rfl, _, hx, c1, c2, hr⟩ := (HRA1.out.onOld HB2.out).rule_at hlt2
          obtain ⟨b', o', cs', x', vc', rfl, hb'S, hx', d1, d2, hr'⟩ := (HRB1.out.onOld HB2.out).rule_at hlt2
          obtain ⟨rfl, rfl⟩ : cs' = cs ∧ x' = x := by
            have e := hx.out.symm.trans hx'.out
            injection e with e
            injection e with e1 e2
            exact ⟨e1.symm, e2.symm⟩
          obtain ⟨Ac, cc, rfl, hcc1, hcc2⟩ := hr.form
          obtain ⟨Bc, dc, rfl, hdc1, hdc2⟩ := hr'.form
          have hcc2' : cc ≤ 2 ^ 63 - 1 := hcc2
          have hdc2' : dc ≤ 2 ^ 63 - 1 := hdc2
          have hk0 : (0 : Int) ≤ k2 := by omega
          have hk1 : (k2 : Int) < rules.length := by omega
          have m1 : (x' != x') = false := by simp
          have m2 : ((cs'.length : Int) != (cs'.length : Int)) = false := by simp
          have hbz := below_alloc1 wr (.cells #[.slice Ac cs'.length cc, .int .i64 x'] 42)
          have q0 : (wr.alloc (.cells #[.slice Ac cs'.length cc, .int .i64 x'] 42)).cell? ⟨wr.heap.size, 0, none⟩ = some (.slice Ac cs'.length cc) := cell_new _ _ _ _ _ rfl
          have q1 : (wr.alloc (.cells #[.slice Ac cs'.length cc, .int .i64 x'] 42)).cell? ⟨wr.heap.size, 1, none⟩ = some (.int .i64 x') := cell_new _ _ _ _ _ rfl
          have hz : (wr.alloc (.cells #[.slice Ac cs'.length cc, .int .i64 x'] 42)).heap.size = wr.heap.size + 1 := by simp
          have gb4 := ((G1'.out.next HB2.out).next hbz).at 4 rfl
          have d1' := (hbz.cell (p := ⟨b', o' + k2 * 2, none⟩) (World.block_lt_of_cell? wr _ d1)).trans d1
          have d2' := (hbz.cell (p := ⟨b', o' + k2 * 2 + 1, none⟩) (World.block_lt_of_cell? wr _ d2)).trans d2
          have hb'l : b' < wr.heap.size := World.block_lt_of_cell? wr _ d1
          generalize hwz : wr.alloc (.cells #[.slice Ac cs'.length cc, .int .i64 x'] 42) = wz at *
          have HA := Lib.hid (hr.onOld hbz)
          have HBc := Lib.hid (hr'.onOld hbz)
          clear hr hr'
          go_wp2_with fail
          clear hwz
          go_quiet (fail)
          go_wp2
          clear q1 d2' c1 c2 d1 d2 m1 m2
          go_loopw [98] (fun i wi => ∃ j : Nat, j ≤ cs'.length ∧ i = .int .i64 j ∧ Hid (Below wz.heap.size wz wi)) (fun i _ => cs'.length - (intOf i).toNat)
          case atStart => exact ⟨0, Nat.zero_le _, rfl, below_drewN (Below.refl _ _) _⟩
          case round =>
            rename World => wi
            obtain ⟨j, hj, rfl, HB3⟩ := hrel
            have hszi := HB3.out.size
            by_cases hjl : j < cs'.length
            · obtain ⟨ba, oa, ng, rs, va, rfl, _, hy, p1, p2, ha2⟩ := (HA.out.onOld HB3.out).cell_at hjl
              obtain ⟨bb, ob, ng', rs', vb, rfl, _, hy', r1, r2, hb2⟩ := (HBc.out.onOld HB3.out).cell_at hjl
              obtain ⟨rfl, rfl⟩ : ng' = ng ∧ rs' = rs := by
                have e := hy.out.symm.trans hy'.out
                injection e with e
                injection e with e1 e2
                exact ⟨e1.symm, e2.symm⟩
              obtain ⟨Aq, cq, rfl, hq1, hq2⟩ := ha2.form
              obtain ⟨Bq, dq, rfl, hq3, hq4⟩ := hb2.form
              have hq2' : cq ≤ 2 ^ 63 - 1 := hq2
              have hq4' : dq ≤ 2 ^ 63 - 1 := hq4
              have hbw := below_alloc1 wi (.cells #[.bool ng', .slice Aq rs'.length cq] 55)
              have hgw : wi.heap.size < (wi.alloc (.cells #[.bool ng', .slice Aq rs'.length cq] 55)).heap.size := by simp
              have e0 : (wi.alloc (.cells #[.bool ng', .slice Aq rs'.length cq] 55)).cell? ⟨wi.heap.size, 0, none⟩ = some (.bool ng') := cell_new _ _ _ _ _ rfl
              have e1 : (wi.alloc (.cells #[.bool ng', .slice Aq rs'.length cq] 55)).cell? ⟨wi.heap.size, 1, none⟩ = some (.slice Aq rs'.length cq) := cell_new _ _ _ _ _ rfl
              have hl0 : w.heap.size + 1 < wi.heap.size := by omega
              have hl1 : b' < wi.heap.size := by omega
              have i4 := (HB3.out.cell (p := ⟨w.heap.size + 1, 4, none⟩) (by show w.heap.size + 1 < _; omega)).trans gb4
              have i5 := (HB3.out.cell (p := ⟨b', o' + k2 * 2, none⟩) (by show b' < _; omega)).trans d1'
              have e2 := (hbw.cell (p := ⟨w.heap.size + 1, 4, none⟩) hl0).trans i4
              have e5 := (hbw.cell (p := ⟨b', o' + k2 * 2, none⟩) hl1).trans i5
              have hbbl : bb < wi.heap.size := World.block_lt_of_cell? wi _ r1
              have e3 := (hbw.cell (p := ⟨bb, ob + j * 2, none⟩) hbbl).trans r1
              have e4 := (hbw.cell (p := ⟨bb, ob + j * 2 + 1, none⟩) hbbl).trans r2
              have HA2 := Lib.hid (ha2.onOld hbw)
              have HB2' := Lib.hid (hb2.onOld hbw)
              have hj0 : (0 : Int) ≤ j := by omega
              have hj1 : (j : Int) < cs'.length := by omega
              have hg0 := Nat.lt_trans hl0 hgw
              have hg1 := Nat.lt_trans hl1 hgw
              have hg2 := Nat.lt_trans hbbl hgw
              have m3 : (ng' != ng') = false := by simp
              clear ha2 hb2 i4 i5
              go_wp2_with fail
              generalize wi.alloc (.cells #[.bool ng', .slice Aq rs'.length cq] 55) = wj at *
              clear p1 p2 r1 r2
              go_region_held3 (fun w' => w'.cell? ⟨wi.heap.size, 0, none⟩ = some (.bool ng') ∧ w'.cell? ⟨wi.heap.size, 1, none⟩ = some (.slice Aq rs'.length cq) ∧ w'.cell? ⟨w.heap.size + 1, 4, none⟩ = some (.slice (some ⟨b', o', none⟩) rules.length dr) ∧ w'.cell? ⟨b', o' + k2 * 2, none⟩ = some (.slice (some ⟨bb, ob, none⟩) cs'.length dc) ∧ w'.cell? ⟨bb, ob + j * 2, none⟩ = some (.bool ng') ∧ w'.cell? ⟨bb, ob + j * 2 + 1, none⟩ = some (.slice Bq rs'.length dq)) (first | exact ⟨e0, e1, e2, e5, e3, e4⟩ | exact ⟨f0, f1, f2, f5, f3, f4⟩)
                (first
                 | (go_at_call 20; refine (keep_same rs' rs' _ _ _ ?_ ?_).mono ?_; exact HA2.out; exact HB2'.out; rintro e w5 ⟨rfl, hb5⟩; rw [decide_eq_true (rfl : rs' = rs')]; have f0 := (hb5.cell (p := ⟨wi.heap.size, 0, none⟩) hgw).trans e0; have f1 := (hb5.cell (p := ⟨wi.heap.size, 1, none⟩) hgw).trans e1; have f2 := (hb5.cell (p := ⟨w.heap.size + 1, 4, none⟩) hg0).trans e2; have f5 := (hb5.cell (p := ⟨b', o' + k2 * 2, none⟩) hg1).trans e5; have f3 := (hb5.cell (p := ⟨bb, ob + j * 2, none⟩) hg2).trans e3; have f4 := (hb5.cell (p := ⟨bb, ob + j * 2 + 1, none⟩) hg2).trans e4; have hb5' := bx HB3.out (bx hbw (undrew hb5)); clear hb5))
              go_wp2
              exact ⟨⟨j + 1, by omega, by go_num, hb5'⟩, by simp [intOf]; omega⟩
            · go_wp2
              exact ⟨⟨k2 + 1, by omega, by go_num, bx HB2.out (bx hbz HB3.out)⟩, by simp [intOf]; omega⟩
        · go_wp2
          go_ret
          exact ⟨rfl, bx hb01 HB2.out⟩

end Go.Proofs.YtmdljknlbmlacabDoor
