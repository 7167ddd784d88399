/- ratebookref.CopyTable: the copy reads as the same table, in memory that the call has made. Conditions: the argument's slices read as lists in old memory; each list fits into 2^47 bytes. -/
import Derived.Test.YtmdljknlbmlacabGreatDoorRefSays
import Derived.Test.YtmdljknlbmlacabGreatDoorMemMore
namespace Go.Proofs.YtmdljknlbmlacabGreatDoor
open Go.RowKit

theorem under_strsC : Tryz.prog.underlying 39 = some (.slice 9) := by kernel_rfl
theorem infoStrC : (Tryz.prog.info? 9).map (fun i => (i.zero, i.size, i.bytes)) = some (some (.string ⟨#[]⟩), 1, 16) := by kernel_rfl
theorem under_cellsC : Tryz.prog.underlying 80 = some (.slice 79) := by kernel_rfl
theorem infoCellC : (Tryz.prog.info? 79).map (fun i => (i.zero, i.size, i.bytes)) = some (some (.agg #[.bool false, .slice none 0 0]), 2, 32) := by kernel_rfl
theorem under_rulesC : Tryz.prog.underlying 57 = some (.slice 82) := by kernel_rfl
theorem infoRuleC : (Tryz.prog.info? 82).map (fun i => (i.zero, i.size, i.bytes)) = some (some (.agg #[.slice none 0 0, .int .i64 0]), 2, 32) := by kernel_rfl

/-- a struct of five cells in memory that may be written -/
def Five (w : World) (g : Nat) (a b c d e : Value) : Prop := g < w.heap.size ∧ (w.cell? ⟨g, 0, none⟩ = some a ∧ w.cell? ⟨g, 1, none⟩ = some b ∧ w.cell? ⟨g, 2, none⟩ = some c ∧ w.cell? ⟨g, 3, none⟩ = some d ∧ w.cell? ⟨g, 4, none⟩ = some e) ∧ (w.frozen? ⟨g, 0, none⟩ = false ∧ w.frozen? ⟨g, 1, none⟩ = false ∧ w.frozen? ⟨g, 2, none⟩ = false ∧ w.frozen? ⟨g, 3, none⟩ = false ∧ w.frozen? ⟨g, 4, none⟩ = false)
theorem Five.new (w : World) (a b c d e : Value) (ty : Nat) : Five (w.alloc (.cells #[a, b, c, d, e] ty)) w.heap.size a b c d e :=
  ⟨by simp, ⟨cell_new _ _ _ _ _ rfl, cell_new _ _ _ _ _ rfl, cell_new _ _ _ _ _ rfl, cell_new _ _ _ _ _ rfl, cell_new _ _ _ _ _ rfl⟩, by simp, by simp, by simp, by simp, by simp⟩
theorem Five.keep {w w' : World} {g : Nat} {a b c d e : Value} (h : Five w g a b c d e) (hb : w'.heap[g]? = w.heap[g]?) (hs : w.heap.size ≤ w'.heap.size) : Five w' g a b c d e := by
  obtain ⟨h0, ⟨c0, c1, c2, c3, c4⟩, f0, f1, f2, f3, f4⟩ := h
  exact ⟨Nat.lt_of_lt_of_le h0 hs, ⟨(World.cell?_of_block (a := ⟨g, 0, none⟩) hb).trans c0, (World.cell?_of_block (a := ⟨g, 1, none⟩) hb).trans c1, (World.cell?_of_block (a := ⟨g, 2, none⟩) hb).trans c2, (World.cell?_of_block (a := ⟨g, 3, none⟩) hb).trans c3, (World.cell?_of_block (a := ⟨g, 4, none⟩) hb).trans c4⟩,
    (World.frozen?_of_block (a := ⟨g, 0, none⟩) hb).trans f0, (World.frozen?_of_block (a := ⟨g, 1, none⟩) hb).trans f1, (World.frozen?_of_block (a := ⟨g, 2, none⟩) hb).trans f2, (World.frozen?_of_block (a := ⟨g, 3, none⟩) hb).trans f3, (World.frozen?_of_block (a := ⟨g, 4, none⟩) hb).trans f4⟩
theorem Five.next {w w' : World} {g : Nat} {a b c d e : Value} (h : Five w g a b c d e) (hb : Below w.heap.size w w') : Five w' g a b c d e := h.keep (hb.block g h.1) hb.size
theorem Five.other {w : World} {g g' o : Nat} {a b c d e : Value} (h : Five w g a b c d e) (hne : g' ≠ g) (v : Value) : Five (w.setCell ⟨g', o, none⟩ v) g a b c d e :=
  h.keep (RowKit.Below.heap_setCell _ _ _ _ (fun hh => hne hh.symm)) (by simp [World.setCell])
theorem Five.set3 {w : World} {g : Nat} {a b c d e : Value} (h : Five w g a b c d e) (v : Value) : Five (w.setCell ⟨g, 3, none⟩ v) g a b c v e := by
  obtain ⟨h0, ⟨c0, c1, c2, c3, c4⟩, f0, f1, f2, f3, f4⟩ := h
  exact ⟨by simpa [World.setCell] using h0, ⟨(World.cell?_setCell_other w _ _ _ (by simp)).trans c0, (World.cell?_setCell_other w _ _ _ (by simp)).trans c1, (World.cell?_setCell_other w _ _ _ (by simp)).trans c2, World.cell?_setCell_same w _ _ c3, (World.cell?_setCell_other w _ _ _ (by simp)).trans c4⟩, by simpa using f0, by simpa using f1, by simpa using f2, by simpa using f3, by simpa using f4⟩
theorem Five.set4 {w : World} {g : Nat} {a b c d e : Value} (h : Five w g a b c d e) (v : Value) : Five (w.setCell ⟨g, 4, none⟩ v) g a b c d v := by
  obtain ⟨h0, ⟨c0, c1, c2, c3, c4⟩, f0, f1, f2, f3, f4⟩ := h
  exact ⟨by simpa [World.setCell] using h0, ⟨(World.cell?_setCell_other w _ _ _ (by simp)).trans c0, (World.cell?_setCell_other w _ _ _ (by simp)).trans c1, (World.cell?_setCell_other w _ _ _ (by simp)).trans c2, (World.cell?_setCell_other w _ _ _ (by simp)).trans c3, World.cell?_setCell_same w _ _ c4⟩, by simpa using f0, by simpa using f1, by simpa using f2, by simpa using f3, by simpa using f4⟩
theorem Five.all {w : World} {g : Nat} {a b c d e : Value} (h : Five w g a b c d e) (x y z p q : Value) :
    Five (((((w.setCell ⟨g, 0, none⟩ x).setCell ⟨g, 1, none⟩ y).setCell ⟨g, 2, none⟩ z).setCell ⟨g, 3, none⟩ p).setCell ⟨g, 4, none⟩ q) g x y z p q := by
  obtain ⟨h0, ⟨c0, c1, c2, c3, c4⟩, f0, f1, f2, f3, f4⟩ := h
  have n01 : (⟨g, 0, none⟩ : Addr) ≠ ⟨g, 1, none⟩ := by simp
  have k0 : (w.setCell ⟨g, 0, none⟩ x).cell? ⟨g, 0, none⟩ = some x := World.cell?_setCell_same w _ _ c0
  have k1 : (w.setCell ⟨g, 0, none⟩ x).cell? ⟨g, 1, none⟩ = some b := (World.cell?_setCell_other w _ _ _ (by simp)).trans c1
  have k2 : (w.setCell ⟨g, 0, none⟩ x).cell? ⟨g, 2, none⟩ = some c := (World.cell?_setCell_other w _ _ _ (by simp)).trans c2
  have k3 : (w.setCell ⟨g, 0, none⟩ x).cell? ⟨g, 3, none⟩ = some d := (World.cell?_setCell_other w _ _ _ (by simp)).trans c3
  have k4 : (w.setCell ⟨g, 0, none⟩ x).cell? ⟨g, 4, none⟩ = some e := (World.cell?_setCell_other w _ _ _ (by simp)).trans c4
  generalize hw : w.setCell ⟨g, 0, none⟩ x = w1 at *
  have m0 : (w1.setCell ⟨g, 1, none⟩ y).cell? ⟨g, 0, none⟩ = some x := (World.cell?_setCell_other w1 _ _ _ (by simp)).trans k0
  have m1 : (w1.setCell ⟨g, 1, none⟩ y).cell? ⟨g, 1, none⟩ = some y := World.cell?_setCell_same w1 _ _ k1
  have m2 : (w1.setCell ⟨g, 1, none⟩ y).cell? ⟨g, 2, none⟩ = some c := (World.cell?_setCell_other w1 _ _ _ (by simp)).trans k2
  have m3 : (w1.setCell ⟨g, 1, none⟩ y).cell? ⟨g, 3, none⟩ = some d := (World.cell?_setCell_other w1 _ _ _ (by simp)).trans k3
  have m4 : (w1.setCell ⟨g, 1, none⟩ y).cell? ⟨g, 4, none⟩ = some e := (World.cell?_setCell_other w1 _ _ _ (by simp)).trans k4
  have F1 : Five ((w1.setCell ⟨g, 1, none⟩ y).setCell ⟨g, 2, none⟩ z) g x y z d e := by
    refine ⟨?_, ⟨(World.cell?_setCell_other _ _ _ _ (by simp)).trans m0, (World.cell?_setCell_other _ _ _ _ (by simp)).trans m1, World.cell?_setCell_same _ _ _ m2, (World.cell?_setCell_other _ _ _ _ (by simp)).trans m3, (World.cell?_setCell_other _ _ _ _ (by simp)).trans m4⟩, ?_, ?_, ?_, ?_, ?_⟩
    · rw [← hw]; simpa [World.setCell] using h0
    · rw [← hw]; simpa using f0
    · rw [← hw]; simpa using f1
    · rw [← hw]; simpa using f2
    · rw [← hw]; simpa using f3
    · rw [← hw]; simpa using f4
  exact (F1.set3 p).set4 q
theorem ret_five {fn : Func} {p : Tmp} {tmps : Array Value} {W : World} {g : Nat} {a b c d e : Value} (h : fn.results = #[.cell p 59]) (hp : tmps.getD p undef = .pointer (some ⟨g, 0, none⟩)) (ht : Five W g a b c d e) :
    (results fn tmps).run Tryz.prog W = .ok (.agg #[a, b, c, d, e]) W := by
  obtain ⟨_, ⟨q0, q1, q2, q3, q4⟩, _⟩ := ht
  have hp' : tmps[p]?.getD undef = .pointer (some ⟨g, 0, none⟩) := by simpa using hp
  simp [results, h, hp', go_sem, q0, q1, q2, q3, q4]

theorem below_more {A B : Nat} {a b c : World} (h : Below A a b) (h' : Below B b c) (hAB : A ≤ B) : Below A a c := h.trans (h'.mono hAB)

set_option maxRecDepth 100000 in
set_option maxHeartbeats 4000000 in
theorem ref_CopyTableN (t : TabD) (v : Value) (w : World) (h : TabAt w (Old w) t v) (hsi : t.ins.length * 16 ≤ 140737488355328) (hsr : t.rules.length * 32 ≤ 140737488355328)
    (hsc : ∀ r, r ∈ t.rules → r.1.length * 32 ≤ 140737488355328 ∧ ∀ c, c ∈ r.1 → c.2.length * 16 ≤ 140737488355328) :
    Calls Tryz.prog 22 #[v] w fun e w' => ∃ u, e = .returned u ∧ TabAt w' (From w.heap.size w') t u ∧ Below w.heap.size w w' := by
  obtain ⟨nm, pol, comp, ins, rules⟩ := t
  obtain ⟨vi, vr, rfl, hi', hr'⟩ := h
  have HC : Hid (∀ r, r ∈ rules → r.1.length * 32 ≤ 140737488355328 ∧ ∀ c, c ∈ r.1 → c.2.length * 16 ≤ 140737488355328) := hsc
  clear hsc
  simp only at hi' hr' hsi hsr
  have HI := Lib.hid hi'
  have H := Lib.hid hr'
  obtain ⟨Ai, ci, rfl, hi1, hi2, -⟩ := hi'
  obtain ⟨A, c, rfl, hc1, hc2, -⟩ := hr'
  unfold maxLen at hi2 hc2
  have F0 := Five.new w (.string nm) (.int .i64 pol) (.bool comp) (.slice Ai ins.length ci) (.slice A rules.length c) 59
  have hb0 := below_alloc1 w (.cells #[.string nm, .int .i64 pol, .bool comp, .slice Ai ins.length ci, .slice A rules.length c] 59)
  have hs0 : (w.alloc (.cells #[.string nm, .int .i64 pol, .bool comp, .slice Ai ins.length ci, .slice A rules.length c] 59)).heap.size = w.heap.size + 1 := by simp
  generalize hw0 : w.alloc (.cells #[.string nm, .int .i64 pol, .bool comp, .slice Ai ins.length ci, .slice A rules.length c] 59) = w0 at *
  have F1 := F0.next (below_alloc1 w0 (.cells #[.string ⟨#[]⟩, .int .i64 0, .bool false, .slice none 0 0, .slice none 0 0] 59))
  have G1 := Five.new w0 (.string ⟨#[]⟩) (.int .i64 0) (.bool false) (.slice none 0 0) (.slice none 0 0) 59
  have hb1 := bx hb0 (below_alloc1 w0 (.cells #[.string ⟨#[]⟩, .int .i64 0, .bool false, .slice none 0 0, .slice none 0 0] 59))
  have hs1 : (w0.alloc (.cells #[.string ⟨#[]⟩, .int .i64 0, .bool false, .slice none 0 0, .slice none 0 0] 59)).heap.size = w.heap.size + 2 := by simp; omega
  rw [hs0] at G1
  generalize hw1 : w0.alloc (.cells #[.string ⟨#[]⟩, .int .i64 0, .bool false, .slice none 0 0, .slice none 0 0] 59) = w1 at *
  have HI1 := Lib.hid (HI.out.onOld hb1)
  have HF1 := Lib.hid F1
  have HG1 := Lib.hid G1
  obtain ⟨_, ⟨a0, a1, a2, a3, a4⟩, f0, f1, f2, f3, f4⟩ := F1
  clear F0 G1
  go_enter Tryz.func22, Tryz.ntmps22
  go_wp2_with (at_builtin; refine wpList_append_all (E := Enc.str) _ rfl _ _ 39 rfl w1.heap.size w1.heap.size 9 16 (.string ⟨#[]⟩) under_strsC infoStrC rfl (by decide) _ [] rfl OwnG.nil _ ins rfl _ HI1.out (fun _ _ h => h) (by simp; omega) (by unfold maxLen; simp; omega) (Nat.le_refl _) ?_; intro v1 w2 hown1 hg2 hmv; clear hmv; rw [List.nil_append] at hown1; obtain ⟨A1, c1, rfl, -, -, -⟩ := hown1.form; have hb2 : Below w1.heap.size w1 w2 := below_of_grown hg2 (Nat.le_refl _) (fun _ h => by cases h); have HF2 := Lib.hid (HF1.out.next hb2); have HG2 := Lib.hid (HG1.out.next hb2); obtain ⟨q0, ⟨b0, b1, b2, b3, b4⟩, g0, g1, g2, g3, g4⟩ := HF1.out.next hb2)
  have HF3 := Lib.hid ((HF2.out.set3 (.slice A1 ins.length c1)).set4 (.slice none 0 0))
  have HG3 := Lib.hid ((HG2.out.other (g' := w.heap.size) (o := 3) (by omega) (.slice A1 ins.length c1)).other (g' := w.heap.size) (o := 4) (by omega) (.slice none 0 0))
  have hb3 : Below w.heap.size w ((w2.setCell ⟨w.heap.size, 3, none⟩ (.slice A1 ins.length c1)).setCell ⟨w.heap.size, 4, none⟩ (.slice none 0 0)) := ((bx hb1 hb2).setCell (by simp) _).setCell (by simp) _
  have hs3 : ((w2.setCell ⟨w.heap.size, 3, none⟩ (.slice A1 ins.length c1)).setCell ⟨w.heap.size, 4, none⟩ (.slice none 0 0)).heap.size = w2.heap.size := by simp [World.setCell]
  have HS1 := Lib.hid (hown1.sl (Nat.le_refl _))
  have HS3 : Hid (Sl Enc.str ((w2.setCell ⟨w.heap.size, 3, none⟩ (.slice A1 ins.length c1)).setCell ⟨w.heap.size, 4, none⟩ (.slice none 0 0)) (From w1.heap.size w2) ins (.slice A1 ins.length c1)) := by
    refine HS1.out.keep fun p hp => ?_
    have hp1 := hp.1
    rw [World.cell?_of_block (RowKit.Below.heap_setCell _ _ _ _ (show p.block ≠ w.heap.size by omega))]
    exact World.cell?_of_block (RowKit.Below.heap_setCell _ _ _ _ (show p.block ≠ w.heap.size by omega))
  have hs2 := hb2.size
  clear hown1 hg2 hb2 HF2 HG2 HS1 HI HI1 HF1 HG1 a0 a1 a2 a3 a4 f0 f1 f2 f3 f4 b0 b1 b2 b3 b4 g0 g1 g2 g3 g4 hw0 hw1 hb0
  generalize hw3 : (w2.setCell ⟨w.heap.size, 3, none⟩ (.slice A1 ins.length c1)).setCell ⟨w.heap.size, 4, none⟩ (.slice none 0 0) = w3 at *
  clear hw3
  go_loopw [18] (fun i wr => ∃ (k : Nat) (vr : Value), k ≤ rules.length ∧ i = .int .i64 k ∧ Hid (OwnG Enc.rule wr w3.heap.size w3.heap.size 82 vr (rules.take k)) ∧ Hid (Sl Enc.str wr (From w1.heap.size w2) ins (.slice A1 ins.length c1)) ∧ Hid (Five wr w.heap.size (.string nm) (.int .i64 pol) (.bool comp) (.slice A1 ins.length c1) vr) ∧ Hid (Five wr (w.heap.size + 1) (.string ⟨#[]⟩) (.int .i64 0) (.bool false) (.slice none 0 0) (.slice none 0 0)) ∧ w3.heap.size ≤ wr.heap.size ∧ Below w.heap.size w wr) (fun i _ => rules.length - (intOf i).toNat)
  case atStart => exact ⟨0, .slice none 0 0, Nat.zero_le _, rfl, OwnG.nil, HS3, HF3, HG3, Nat.le_refl _, hb3⟩
  case round =>
    obtain ⟨k, vr, hk, rfl, hown, hS, hF, hG, hsz, hb⟩ := hrel
    by_cases hlt : k < rules.length
    · obtain ⟨b, o, cs, x, vc, rfl, _, hx, c1', c2', hr⟩ := (H.out.onOld hb).rule_at hlt
      obtain ⟨Ar, cr, rfl, hr1, hr2⟩ := hr.form
      have hr2' : cr ≤ 2 ^ 63 - 1 := hr2
      have hbz := below_alloc1 wr (.cells #[.slice Ar cs.length cr, .int .i64 x] 82)
      have HR := Lib.hid (hr.onOld hbz)
      have HT := Lib.hid (take_at hx.out)
      have hN : (rules.take k).length = k := by rw [List.length_take]; omega
      have HN := Lib.hid hN
      have HCR := Lib.hid (HC.out _ (List.mem_of_getElem? hx.out))
      have q1 : (wr.alloc (.cells #[.slice Ar cs.length cr, .int .i64 x] 82)).cell? ⟨wr.heap.size, 0, none⟩ = some (.slice Ar cs.length cr) := cell_new _ _ _ _ _ rfl
      have q2 : (wr.alloc (.cells #[.slice Ar cs.length cr, .int .i64 x] 82)).cell? ⟨wr.heap.size, 1, none⟩ = some (.int .i64 x) := cell_new _ _ _ _ _ rfl
      have hsz1 : (wr.alloc (.cells #[.slice Ar cs.length cr, .int .i64 x] 82)).heap.size = wr.heap.size + 1 := by simp
      clear hr hN
      generalize hwz : wr.alloc (.cells #[.slice Ar cs.length cr, .int .i64 x] 82) = wz at *
      have hcl : cs.length * 32 ≤ 140737488355328 := HCR.out.1
      go_wp2
      clear hwz
      go_loopw [6, 25] (fun u i wi => ∃ j : Nat, j ≤ cs.length ∧ i = .int .i64 j ∧ OwnG Enc.cell wi wz.heap.size wz.heap.size 79 u (cs.take j) ∧ Below wz.heap.size wz wi) (fun _ i _ => cs.length - (intOf i).toNat)
      case atStart => exact ⟨0, Nat.zero_le _, rfl, OwnG.nil, Below.refl _ _⟩
      case round =>
        rename World => wi
        obtain ⟨j, hj, rfl, hownc, hbi⟩ := hrel
        have hszi := hbi.size
        by_cases hjl : j < cs.length
        · obtain ⟨bb, oo, ng, rs, vv, rfl, _, hx2, d1, d2, hr2c⟩ := (HR.out.onOld hbi).cell_at hjl
          obtain ⟨Ar2, cr2, rfl, hr21, hr22⟩ := hr2c.form
          have hr22' : cr2 ≤ 2 ^ 63 - 1 := hr22
          have hbz2 := below_alloc1 wi (.cells #[.bool ng, .slice Ar2 rs.length cr2] 79)
          have HR2 := Lib.hid (hr2c.onOld hbz2)
          have e0 : (wi.alloc (.cells #[.bool ng, .slice Ar2 rs.length cr2] 79)).cell? ⟨wi.heap.size, 0, none⟩ = some (.bool ng) := cell_new _ _ _ _ _ rfl
          have e1 : (wi.alloc (.cells #[.bool ng, .slice Ar2 rs.length cr2] 79)).cell? ⟨wi.heap.size, 1, none⟩ = some (.slice Ar2 rs.length cr2) := cell_new _ _ _ _ _ rfl
          have hgi : wi.heap.size < (wi.alloc (.cells #[.bool ng, .slice Ar2 rs.length cr2] 79)).heap.size := by simp
          have HT2 := Lib.hid (take_at hx2.out)
          have hN2 : (cs.take j).length = j := by rw [List.length_take]; omega
          have HN2 := Lib.hid hN2
          have HO := Lib.hid hownc
          have hrl : rs.length * 16 ≤ 140737488355328 := HCR.out.2 _ (List.mem_of_getElem? hx2.out)
          clear hr2c hownc hN2
          go_wp2_with fail
          generalize wi.alloc (.cells #[.bool ng, .slice Ar2 rs.length cr2] 79) = wj at *
          clear d1 d2
          go_region_held3 (fun w' => w'.cell? ⟨wi.heap.size, 0, none⟩ = some (.bool ng) ∧ w'.cell? ⟨wi.heap.size, 1, none⟩ = some (.slice Ar2 rs.length cr2)) (first | exact ⟨e0, e1⟩ | exact ⟨f0, f1⟩ | exact ⟨p0, p1⟩ | exact ⟨r0, r1⟩)
            (first
             | (refine step_append_all (E := Enc.rng) rfl (.const (.slice none 0 0)) (.tmp 33) 77 rfl wj.heap.size wj.heap.size 107 16 (.agg #[.int .i64 0, .int .i64 0]) under_rs infoRange rfl (by decide) (.slice none 0 0) [] (by simp [Act.eval]) OwnG.nil (.slice Ar2 rs.length cr2) rs (by simp [Act.eval]) (Old wj) ?_ (fun _ _ h => h) (by simp; omega) (by unfold maxLen; simp; omega) (Nat.le_refl _) ?_; exact HR2.out; intro v5 w5 ho5 hg5 hmv5; clear hmv5; rw [List.nil_append] at ho5; have hn5 := ho5.sl (Nat.le_refl _); obtain ⟨A5, c5, rfl, -, -⟩ := hn5.form; have hb5 : Below wj.heap.size wj w5 := (Below.refl _ _).drew.grown hg5 (Nat.le_refl _) (fun _ h => by cases h); have f0 := (hb5.cell (p := ⟨wi.heap.size, 0, none⟩) hgi).trans e0; have f1 := (hb5.cell (p := ⟨wi.heap.size, 1, none⟩) hgi).trans e1; have hs5 := hb5.size; have hs5' := hbz2.size; have HO1 := Lib.hid ((HO.out.next (bx hbz2 hb5)).alloc (.cells #[.bool ng, .slice A5 rs.length c5] 79)); have HY : Hid (Enc.cell.rd (w5.alloc (.cells #[.bool ng, .slice A5 rs.length c5] 79)) (Off wz.heap.size (w5.alloc (.cells #[.bool ng, .slice A5 rs.length c5] 79)) u6) (ng, rs) [.bool ng, .slice A5 rs.length c5]) := Enc.cell_rd.2 ⟨_, rfl, (hn5.on (below_alloc1 _ _)).more (off_new (HO.out.next hbz2) (Nat.le_trans hszi hs5') (Nat.le_refl _))⟩; have hgi5 := Nat.lt_of_lt_of_le hgi hs5; have p0 := ((below_alloc1 w5 (.cells #[.bool ng, .slice A5 rs.length c5] 79)).cell (p := ⟨wi.heap.size, 0, none⟩) hgi5).trans f0; have p1 := ((below_alloc1 w5 (.cells #[.bool ng, .slice A5 rs.length c5] 79)).cell (p := ⟨wi.heap.size, 1, none⟩) hgi5).trans f1; have hszw := Nat.le_trans hszi (Nat.le_trans hs5' hs5); have hb6 : Below wz.heap.size wz (w5.alloc (.cells #[.bool ng, .slice A5 rs.length c5] 79)) := (bx hbi (bx hbz2 hb5)).alloc hszw _; have hs6 := Nat.le_trans hszw (below_alloc1 w5 (.cells #[.bool ng, .slice A5 rs.length c5] 79)).size; have hgi6 := Nat.lt_of_lt_of_le hgi5 (below_alloc1 w5 (.cells #[.bool ng, .slice A5 rs.length c5] 79)).size; clear hn5 ho5 hg5)
             | (refine step_append_one (E := Enc.cell) rfl (.tmp 29) (.tmp 36) 80 rfl wz.heap.size wz.heap.size 79 32 (.agg #[.bool false, .slice none 0 0]) under_cellsC infoCellC rfl (by decide) u6 (cs.take j) (by simp [Act.eval]) HO1.out ⟨w5.heap.size, 0, none⟩ (ng, rs) [.bool ng, .slice A5 rs.length c5] (by simp [Act.eval]) HY.out (cell_two_new _ _ _ _) ?_ ?_ hs6 ?_; (rw [HN2.out]; omega); (rw [HN2.out]; unfold maxLen; omega); intro v7 w7 ho7 hg7 hmv7; clear hmv7; rw [← HT2.out] at ho7; have hbk7 := hg7.block wi.heap.size hgi6 (fun e => Nat.lt_irrefl _ (HO.out.lt _ e.symm).2); have r0 := (World.cell?_of_block (a := ⟨wi.heap.size, 0, none⟩) hbk7).trans p0; have r1 := (World.cell?_of_block (a := ⟨wi.heap.size, 1, none⟩) hbk7).trans p1; have hb7 := hb6.grown hg7 hs6 (fun _ hr => (HO.out.lt _ hr).1); have HO7 := Lib.hid ho7; clear ho7))
          go_wp2
          exact ⟨⟨j + 1, by omega, by go_num, HO7.out, hb7⟩, by simp [intOf]; omega⟩
        · have ej : cs.take j = cs := List.take_of_length_le (by omega)
          rw [ej] at hownc
          obtain ⟨A6, c6, rfl, -, -, -⟩ := hownc.form
          obtain ⟨A7, c7, e7, -, -, -⟩ := hown.out.form
          rw [HN.out] at e7
          subst e7
          have hN8 : (rules.take (k + 1)).length = k + 1 := by rw [List.length_take]; omega
          have HN8 := Lib.hid hN8
          clear hN8
          have HOC := Lib.hid (hownc.sl (Nat.le_refl _))
          have hbri := bx hbz hbi
          have hbl := hbri.mono hsz
          have hszr := hbri.size
          obtain ⟨_, ⟨a0, a1, a2, a3, a4⟩, f0, f1, f2, f3, f4⟩ := hF.out.next hbri
          have i1 := (hbi.cell (p := ⟨wr.heap.size, 1, none⟩) (by show wr.heap.size < _; omega)).trans q2
          have HO1 := Lib.hid ((hown.out.next hbri).alloc (.cells #[.slice A6 cs.length c6, .int .i64 x] 82))
          have HY : Hid (Enc.rule.rd (wi.alloc (.cells #[.slice A6 cs.length c6, .int .i64 x] 82)) (Off w3.heap.size (wi.alloc (.cells #[.slice A6 cs.length c6, .int .i64 x] 82)) (.slice A7 k c7)) (cs, x) [.slice A6 cs.length c6, .int .i64 x]) := Enc.rule_rd.2 ⟨_, rfl, (HOC.out.on (below_alloc1 _ _)).more (off_new (hown.out.next hbz) (by omega) (Nat.le_refl _))⟩
          clear hownc ej q1 q2 c1' c2'
          go_wp2_with (at_builtin; (refine wpList_append_one (E := Enc.rule) _ rfl _ _ 57 rfl w3.heap.size w3.heap.size 82 32 (.agg #[.slice none 0 0, .int .i64 0]) under_rulesC infoRuleC rfl (by decide) _ _ rfl HO1.out ⟨wi.heap.size, 0, none⟩ (cs, x) [.slice A6 cs.length c6, .int .i64 x] rfl HY.out (cell_two_new _ _ _ _) (by rw [HN.out]; omega) (by rw [HN.out]; unfold maxLen; omega) (by simp; omega) ?_; intro v8 w8 ho8 hg8 hmv8; clear hmv8; rw [← HT.out] at ho8; have HO8 := Lib.hid ho8; obtain ⟨A8, c8, e8, -, -, -⟩ := ho8.form; rw [HN8.out] at e8; subst e8; have hbl8 := (hbl.alloc (by omega) (.cells #[.slice A6 cs.length c6, .int .i64 x] 82)).grown hg8 (by simp; omega) (fun _ hr => (hown.out.lt _ hr).1); obtain ⟨_, ⟨b0, b1, b2, b3, b4⟩, g0, g1, g2, g3, g4⟩ := hF.out.keep (hbl8.block w.heap.size (by omega)) hbl8.size))
          have hsz8 := hbl8.size
          refine ⟨⟨k + 1, _, by omega, by go_num, Lib.hid (HO8.out.setCell (by omega) (fun hh => by have := (HO8.out.lt _ hh).1; omega)), ?_, Lib.hid ((hF.out.keep (hbl8.block w.heap.size (by omega)) hbl8.size).set4 _), Lib.hid ((hG.out.keep (hbl8.block (w.heap.size + 1) (by omega)) hbl8.size).other (by omega) _), by simp [World.setCell]; omega, (below_more hb hbl8 (by omega)).setCell (by simp) _⟩, by simp [intOf]; omega⟩
          refine Lib.hid (hS.out.keep fun p hp => ?_)
          have hp1 := hp.1
          have hp2 := hp.2
          rw [World.cell?_of_block (RowKit.Below.heap_setCell _ _ _ _ (show p.block ≠ w.heap.size by omega))]
          exact hbl8.cell (by omega)
    · have ek : rules.take k = rules := List.take_of_length_le (by omega)
      rw [ek] at hown
      obtain ⟨A9, c9, rfl, -, -, -⟩ := hown.out.form
      obtain ⟨_, ⟨a0, a1, a2, a3, a4⟩, f0, f1, f2, f3, f4⟩ := hF.out
      obtain ⟨_, ⟨z0, z1, z2, z3, z4⟩, y0, y1, y2, y3, y4⟩ := hG.out
      have HB := Lib.hid (((((hb.setCell (p := ⟨w.heap.size + 1, 0, none⟩) (by simp) (.string nm)).setCell (p := ⟨w.heap.size + 1, 1, none⟩) (by simp) (.int .i64 pol)).setCell (p := ⟨w.heap.size + 1, 2, none⟩) (by simp) (.bool comp)).setCell (p := ⟨w.heap.size + 1, 3, none⟩) (by simp) (.slice A1 ins.length c1)).setCell (p := ⟨w.heap.size + 1, 4, none⟩) (by simp) (.slice A9 rules.length c9))
      have hvv : (Value.slice A9 rules.length c9).ownBlock ≠ some (w.heap.size + 1) := fun hh => by have := (hown.out.lt _ hh).1; omega
      have hgg : w.heap.size + 1 < w3.heap.size := by omega
      have HW := Lib.hid (((((hown.out.setCell (o := 0) (x := .string nm) hgg hvv).setCell (o := 1) (x := .int .i64 pol) hgg hvv).setCell (o := 2) (x := .bool comp) hgg hvv).setCell (o := 3) (x := .slice A1 ins.length c1) hgg hvv).setCell (o := 4) (x := .slice A9 rules.length c9) hgg hvv)
      have HGA := Lib.hid (hG.out.all (.string nm) (.int .i64 pol) (.bool comp) (.slice A1 ins.length c1) (.slice A9 rules.length c9))
      have HSW : Hid (Sl Enc.str (((((wr.setCell ⟨w.heap.size + 1, 0, none⟩ (.string nm)).setCell ⟨w.heap.size + 1, 1, none⟩ (.int .i64 pol)).setCell ⟨w.heap.size + 1, 2, none⟩ (.bool comp)).setCell ⟨w.heap.size + 1, 3, none⟩ (.slice A1 ins.length c1)).setCell ⟨w.heap.size + 1, 4, none⟩ (.slice A9 rules.length c9)) (From w1.heap.size w2) ins (.slice A1 ins.length c1)) := by
        refine hS.out.keep fun p hp => ?_
        have hp1 := hp.1
        have hpn : p.block ≠ w.heap.size + 1 := by omega
        rw [World.cell?_of_block (RowKit.Below.heap_setCell _ _ _ _ hpn), World.cell?_of_block (RowKit.Below.heap_setCell _ _ _ _ hpn), World.cell?_of_block (RowKit.Below.heap_setCell _ _ _ _ hpn), World.cell?_of_block (RowKit.Below.heap_setCell _ _ _ _ hpn), World.cell?_of_block (RowKit.Below.heap_setCell _ _ _ _ hpn)]
      go_wp2
      (try simp only [Exit.inBlock, Exit.then])
      refine bodyPost_ret (ret_five Tryz.results22 rfl HGA.out) rfl ⟨_, rfl, ⟨_, _, rfl, HSW.out.more fun q hq => ?_, (HW.out.sl (Nat.le_refl _)).more fun q hq => ⟨by have := hq.1; omega, hq.2⟩⟩, HB.out⟩
      have hq1 := hq.1
      have hq2 := hq.2
      have hbs1 := hb1.size
      refine ⟨by omega, ?_⟩
      show q < _
      simp [World.setCell]
      omega

theorem ref_CopyTable (t : TabD) (v : Value) (w : World) (h : TabAt w (Old w) t v) (hsi : t.ins.length * 16 ≤ 140737488355328) (hsr : t.rules.length * 32 ≤ 140737488355328)
    (hsc : ∀ r, r ∈ t.rules → r.1.length * 32 ≤ 140737488355328 ∧ ∀ c, c ∈ r.1 → c.2.length * 16 ≤ 140737488355328) :
    Calls Tryz.prog 22 #[v] w fun e w' => ∃ u, e = .returned u ∧ TabAt w' (Old w') t u ∧ Below w.heap.size w w' := by
  refine (ref_CopyTableN t v w h hsi hsr hsc).mono ?_
  rintro e w' ⟨u, rfl, ⟨vi, vr, hu, h1, h2⟩, hb⟩
  exact ⟨u, rfl, ⟨vi, vr, hu, h1.more fun _ h => h.2, h2.more fun _ h => h.2⟩, hb⟩

end Go.Proofs.YtmdljknlbmlacabGreatDoor
