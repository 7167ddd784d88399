/- ratebookkeep.TableOrder returns true. Conditions: the arguments read as lists in old memory; names and lists fit into 2^47 bytes. -/
import Derived.Test.YtmdljknlbmlacabKeepPick
import Derived.BigRegion
namespace Go.Proofs.Ytmdljknlbmlacab
open Go.RowKit

theorem infoRuleT : (Try.prog.info? 43).map (fun i => (i.zero, i.size, i.bytes)) = some (some (.agg #[.slice none 0 0, .int .i64 0]), 2, 32) := by kernel_rfl
theorem under_rulesT : Try.prog.underlying 23 = some (.slice 43) := by kernel_rfl

/-- all elements of a slice, copied into a new row: the cells are those of the slice -/
theorem wpList_append_copy {α : Type} {E : Enc α} {P : Program} (w : World) {ops : Array Oper} {rest : List Oper} {o : Oper} {a : Act} {Q : Exit → Act → World → Prop} (hgd : o.guard = none) (s x : Operand) (t : TypeId)
    (ho : o.op = .call { callee := .builtin .append, args := #[s, x], argTypes := #[t, t] })
    (e : TypeId) (bytes : Nat) (z : Value) (ht : P.underlying t = some (.slice e)) (hinfo : (P.info? e).map (fun i => (i.zero, i.size, i.bytes)) = some (some z, E.size, bytes)) (hzs : z.cells.size = E.size) (hsz : 0 < E.size)
    (hs : a.eval s = .slice none 0 0) (vx : Value) (m : List α) (hx : a.eval x = vx) (S : Nat → Prop) (hm : Sl E w S m vx) (h0 : 0 < m.length)
    (hbytes : m.length * bytes ≤ 140737488355328) (h63 : m.length ≤ maxLen)
    (h : ∀ g c w', w.heap.size ≤ g → g < w'.heap.size → m.length ≤ c → c ≤ maxLen → (∀ i, w'.frozen? ⟨g, i, none⟩ = false) → (∀ i y, m[i]? = some y → ∃ cs, E.rd w S y cs ∧ ∀ j u, cs[j]? = some u → w'.cell? ⟨g, i * E.size + j, none⟩ = some u) → Below w.heap.size w w' →
      wpList P ops Q rest (a.put o.dst (.slice (some ⟨g, 0, none⟩) m.length c)) w') : wpList P ops Q (o :: rest) a w := by
  have hm' := hm
  obtain ⟨A, c, rfl, hc1, hc2, hn, h4⟩ := hm
  obtain ⟨b, o', rfl, _, _⟩ := h4 h0
  obtain ⟨vs, v1, v2, v3, v4⟩ := hm'.cells
  refine wpList_append_mine0 w hgd s x t ho w.heap.size e E.size bytes z ht hinfo hzs hsz (.slice none 0 0) 0 [] hs (World.ownsRow_nil w _ e E.size) ⟨b, o', none⟩ m.length c vs hx v1 v3 v4 (by omega) (by simpa using hbytes) (Nat.le_refl _) ?_
  intro v' w' ho' hg hmv
  rw [Nat.zero_add, List.nil_append] at ho'
  have ho2 := ho'
  rcases ho'.2 with ⟨rfl, h2⟩ | ⟨g, cap, cur, rfl, hb, hgg, h5, h6, _⟩
  · omega
  · refine h g cap w' hb (Array.getElem?_eq_some_iff.1 hgg).1 h5 h6 (fun i => World.ownsRow.frozenAt ho2 i) (fun i y hy => ?_) (below_of_grown hg (Nat.le_refl _) (fun _ h => by simp [Value.ownBlock] at h))
    obtain ⟨cs, c1, c2⟩ := v2 i y hy
    refine ⟨cs, c1, fun j u hu => ?_⟩
    have := ho2.cells (g := g) rfl _ _ (c2 j u hu)
    have ea : ∀ i, (⟨g, 0, none⟩ : Addr).add i = ⟨g, 0 + i, none⟩ := fun i => by unfold Addr.add; split <;> simp_all
    rw [ea, Nat.zero_add] at this
    exact this
set_option maxHeartbeats 4000000 in
theorem law_TableOrder (t : TabD) (l : List Int) (k : Int) (v vl : Value) (w : World) (h : TabAt w (Old w) t v) (h'' : Sl Enc.int w (Old w) l vl) (hs : smallT t) :
    Calls Try.prog 4 #[v, vl, .int .i64 k] w fun e w' => e = .returned (.bool true) ∧ Below w.heap.size w w' := by
  have HS := Lib.hid hs
  have HT := Lib.hid h
  have HI := Lib.hid h''
  have HRL := Lib.hid (fun hg : goodT t = true => (goodRs_iff.1 (goodT_iff.1 hg).2.2.2.2).2.1)
  obtain ⟨nm, pol, comp, ins, rules⟩ := t
  obtain ⟨vi, vr, rfl, hi, hr⟩ := h
  simp only at hi hr HRL
  clear hs
  have HII := Lib.hid hi
  have H := Lib.hid hr
  obtain ⟨Ai, ci, rfl, hi1, hi2, -⟩ := hi
  obtain ⟨A, c, rfl, hc1, hc2, -⟩ := hr
  obtain ⟨C, f, rfl, hf1, hf2, -⟩ := h''
  unfold maxLen at hi2 hc2 hf2
  have hb0 := below_alloc1 w (.cells #[.string nm, .int .i64 pol, .bool comp, .slice Ai ins.length ci, .slice A rules.length c] 25)
  generalize hw0 : w.alloc (.cells #[.string nm, .int .i64 pol, .bool comp, .slice Ai ins.length ci, .slice A rules.length c] 25) = w0 at *
  have hg0 : w.heap.size < w0.heap.size := by rw [← hw0]; simp
  have k0 : w0.cell? ⟨w.heap.size, 0, none⟩ = some (.string nm) := by rw [← hw0]; exact cell_new _ _ _ _ _ rfl
  have k1 : w0.cell? ⟨w.heap.size, 1, none⟩ = some (.int .i64 pol) := by rw [← hw0]; exact cell_new _ _ _ _ _ rfl
  have k2 : w0.cell? ⟨w.heap.size, 2, none⟩ = some (.bool comp) := by rw [← hw0]; exact cell_new _ _ _ _ _ rfl
  have k3 : w0.cell? ⟨w.heap.size, 3, none⟩ = some (.slice Ai ins.length ci) := by rw [← hw0]; exact cell_new _ _ _ _ _ rfl
  have k4 : w0.cell? ⟨w.heap.size, 4, none⟩ = some (.slice A rules.length c) := by rw [← hw0]; exact cell_new _ _ _ _ _ rfl
  have HT0 := Lib.hid (HT.out.onOld hb0)
  go_enter Try.func4, Try.ntmps4
  go_wp2_with fail
  refine (table_Good _ _ _ HT0.out HS.out).mono ?_
  rintro e w1 ⟨rfl, hb1⟩
  have k1_0 := (hb1.cell (p := ⟨w.heap.size, 0, none⟩) hg0).trans k0
  have k1_1 := (hb1.cell (p := ⟨w.heap.size, 1, none⟩) hg0).trans k1
  have k1_2 := (hb1.cell (p := ⟨w.heap.size, 2, none⟩) hg0).trans k2
  have k1_3 := (hb1.cell (p := ⟨w.heap.size, 3, none⟩) hg0).trans k3
  have k1_4 := (hb1.cell (p := ⟨w.heap.size, 4, none⟩) hg0).trans k4
  have hg1 := Nat.lt_of_lt_of_le hg0 hb1.size
  have hb01 := bx hb0 hb1
  have HT1 := Lib.hid (HT.out.onOld hb01)
  have HI1 := Lib.hid (HI.out.onOld hb01)
  have H1 := Lib.hid (H.out.onOld hb01)
  have HII1 := Lib.hid (HII.out.onOld hb01)
  clear k0 k1 k2 k3 k4 hw0 hb1
  cases hg : goodT ⟨nm, pol, comp, ins, rules⟩
  · clear hg
    go_wp2_with fail
    refine (keep_tables _).mono ?_
    rintro e w9 ⟨rfl, hb9⟩
    go_wp2
    go_ret
    exact ⟨rfl, bx hb01 hb9⟩
  have hr6 := HRL.out hg
  clear hg HRL
  by_cases h3 : pol = 3
  · have h3' : (pol == 3) = true := by rw [h3]; rfl
    clear h3
    go_wp2_with fail
    refine (keep_tables _).mono ?_
    rintro e w9 ⟨rfl, hb9⟩
    go_wp2
    go_ret
    exact ⟨rfl, bx hb01 hb9⟩
  have h3' : (pol == 3) = false := beq_eq_false_iff_ne.2 h3
  have H3 := Lib.hid h3
  clear h3
  by_cases hl2 : rules.length < 2
  · have hl2' : (rules.length : Int) < 2 := by omega
    go_wp2_with fail
    refine (keep_tables _).mono ?_
    rintro e w9 ⟨rfl, hb9⟩
    go_wp2
    go_ret
    exact ⟨rfl, bx hb01 hb9⟩
  have hl2' : 2 ≤ (rules.length : Int) := by omega
  have wN : IntKind.i64.wrap ((rules.length : Int) - 1) = ((rules.length - 1 : Nat) : Int) := by rw [IntWalk.i64_in _ (by omega)]; omega
  have eN : (rules.length : Int) - 1 = ((rules.length - 1 : Nat) : Int) := by omega
  go_wp2_with fail
  refine (keep_pick k (rules.length - 1) _ (by omega) (by omega)).mono ?_
  rintro e wx ⟨⟨j, hj, rfl⟩, hwx⟩
  rw [hwx]
  clear hwx wx
  clear wN eN
  have hb2 := below_alloc1 w1 (.cells #[.string nm, .int .i64 pol, .bool comp, .slice Ai ins.length ci, .slice A rules.length c] 25)
  have r0 : (w1.alloc (.cells #[.string nm, .int .i64 pol, .bool comp, .slice Ai ins.length ci, .slice A rules.length c] 25)).cell? ⟨w1.heap.size, 0, none⟩ = some (.string nm) := cell_new _ _ _ _ _ rfl
  have r1 : (w1.alloc (.cells #[.string nm, .int .i64 pol, .bool comp, .slice Ai ins.length ci, .slice A rules.length c] 25)).cell? ⟨w1.heap.size, 1, none⟩ = some (.int .i64 pol) := cell_new _ _ _ _ _ rfl
  have r2 : (w1.alloc (.cells #[.string nm, .int .i64 pol, .bool comp, .slice Ai ins.length ci, .slice A rules.length c] 25)).cell? ⟨w1.heap.size, 2, none⟩ = some (.bool comp) := cell_new _ _ _ _ _ rfl
  have r3 : (w1.alloc (.cells #[.string nm, .int .i64 pol, .bool comp, .slice Ai ins.length ci, .slice A rules.length c] 25)).cell? ⟨w1.heap.size, 3, none⟩ = some (.slice Ai ins.length ci) := cell_new _ _ _ _ _ rfl
  have r4 : (w1.alloc (.cells #[.string nm, .int .i64 pol, .bool comp, .slice Ai ins.length ci, .slice A rules.length c] 25)).cell? ⟨w1.heap.size, 4, none⟩ = some (.slice A rules.length c) := cell_new _ _ _ _ _ rfl
  have f4 : (w1.alloc (.cells #[.string nm, .int .i64 pol, .bool comp, .slice Ai ins.length ci, .slice A rules.length c] 25)).frozen? ⟨w1.heap.size, 4, none⟩ = false := by simp
  have hz2 : (w1.alloc (.cells #[.string nm, .int .i64 pol, .bool comp, .slice Ai ins.length ci, .slice A rules.length c] 25)).heap.size = w1.heap.size + 1 := by simp
  generalize hw2 : w1.alloc (.cells #[.string nm, .int .i64 pol, .bool comp, .slice Ai ins.length ci, .slice A rules.length c] 25) = w2 at *
  have k2_0 := (hb2.cell (p := ⟨w.heap.size, 0, none⟩) hg1).trans k1_0
  have k2_1 := (hb2.cell (p := ⟨w.heap.size, 1, none⟩) hg1).trans k1_1
  have k2_2 := (hb2.cell (p := ⟨w.heap.size, 2, none⟩) hg1).trans k1_2
  have k2_3 := (hb2.cell (p := ⟨w.heap.size, 3, none⟩) hg1).trans k1_3
  have k2_4 := (hb2.cell (p := ⟨w.heap.size, 4, none⟩) hg1).trans k1_4
  have hb02 := bx hb01 hb2
  have H2 := Lib.hid (H1.out.onOld hb2)
  have H12 : Hid (Sl Enc.rule w2 (Old w1) rules (.slice A rules.length c)) := H1.out.below (fun _ h => h) hb2
  have hrl0 : 0 < rules.length := by omega
  go_wp2_with (at_builtin; refine wpList_append_copy (E := Enc.rule) _ rfl _ _ 23 rfl 43 32 (.agg #[.slice none 0 0, .int .i64 0]) under_rulesT infoRuleT rfl (by decide) rfl _ rules rfl _ H12.out hrl0 (by omega) (by unfold maxLen; omega) ?_; intro g c3 w3 hgb hgl hA1 hA2 hfz hrow hb3; have HROW := Lib.hid hrow; clear hrow; have q4 := (hb3.cell (p := ⟨w1.heap.size, 4, none⟩) (by show w1.heap.size < _; omega)).trans r4; have g4 := (World.frozen?_of_block (a := ⟨w1.heap.size, 4, none⟩) (hb3.block w1.heap.size (by omega))).trans f4)
  obtain ⟨e1c, hrd1, hce1⟩ := HROW.out j rules[j] (List.getElem?_eq_getElem (by omega))
  obtain ⟨e2c, hrd2, hce2⟩ := HROW.out (j + 1) rules[j + 1] (List.getElem?_eq_getElem (by omega))
  obtain ⟨y1, rfl, -⟩ := Enc.rule_rd.1 hrd1
  obtain ⟨y2, rfl, -⟩ := Enc.rule_rd.1 hrd2
  have u1 : w3.cell? ⟨g, j * 2, none⟩ = some y1 := hce1 0 _ rfl
  have u1' : w3.cell? ⟨g, j * 2 + 1, none⟩ = _ := hce1 1 _ rfl
  have u2 : w3.cell? ⟨g, (j + 1) * 2, none⟩ = some y2 := hce2 0 _ rfl
  have u2' : w3.cell? ⟨g, (j + 1) * 2 + 1, none⟩ = _ := hce2 1 _ rfl
  clear hce1 hce2 hrd1 hrd2
  obtain ⟨b, o, cs1', x1', v1', rfl, hSb, hx1', t1a, t1a', hq1⟩ := H1.out.rule_at (k := j) (by omega)
  obtain ⟨bb, ob, cs2', x2', v2', eb, _, hx2', t2a, t2a', hq2⟩ := H1.out.rule_at (k := j + 1) (by omega)
  obtain ⟨rfl, rfl⟩ := some_addr eb
  have hbn1 : b < w1.heap.size := hSb
  have t1 := (hb2.cell (p := ⟨b, o + j * 2, none⟩) hbn1).trans t1a
  have t1' := (hb2.cell (p := ⟨b, o + j * 2 + 1, none⟩) hbn1).trans t1a'
  have t2 := (hb2.cell (p := ⟨b, o + (j + 1) * 2, none⟩) hbn1).trans t2a
  have t2' := (hb2.cell (p := ⟨b, o + (j + 1) * 2 + 1, none⟩) hbn1).trans t2a'
  obtain ⟨A1, d1, rfl, -, -⟩ := hq1.form
  obtain ⟨A2, d2, rfl, -, -⟩ := hq2.form
  have HQ1 := Lib.hid hq1
  have HQ2 := Lib.hid hq2
  have hbl2 : b < w2.heap.size := by omega
  have hne2 : w1.heap.size < w2.heap.size := by omega
  have hgw1 : w.heap.size ≠ w1.heap.size := by omega
  have hbn : b ≠ w1.heap.size := by omega
  have hgn : g ≠ w1.heap.size := by omega
  have s40 := (hb3.cell (p := ⟨w.heap.size, 0, none⟩) (by show w.heap.size < _; omega)).trans k2_0
  have s41 := (hb3.cell (p := ⟨w.heap.size, 1, none⟩) (by show w.heap.size < _; omega)).trans k2_1
  have s42 := (hb3.cell (p := ⟨w.heap.size, 2, none⟩) (by show w.heap.size < _; omega)).trans k2_2
  have s43 := (hb3.cell (p := ⟨w.heap.size, 3, none⟩) (by show w.heap.size < _; omega)).trans k2_3
  have s44 := (hb3.cell (p := ⟨w.heap.size, 4, none⟩) (by show w.heap.size < _; omega)).trans k2_4
  have n40 := (hb3.cell (p := ⟨w1.heap.size, 0, none⟩) hne2).trans r0
  have n41 := (hb3.cell (p := ⟨w1.heap.size, 1, none⟩) hne2).trans r1
  have n42 := (hb3.cell (p := ⟨w1.heap.size, 2, none⟩) hne2).trans r2
  have n43 := (hb3.cell (p := ⟨w1.heap.size, 3, none⟩) hne2).trans r3
  have t1w := (hb3.cell (p := ⟨b, o + j * 2, none⟩) hbl2).trans t1
  have t1w' := (hb3.cell (p := ⟨b, o + j * 2 + 1, none⟩) hbl2).trans t1'
  have t2w := (hb3.cell (p := ⟨b, o + (j + 1) * 2, none⟩) hbl2).trans t2
  have t2w' := (hb3.cell (p := ⟨b, o + (j + 1) * 2 + 1, none⟩) hbl2).trans t2'
  clear t1 t1' t2 t2' t1a t1a' t2a t2a' k2_0 k2_1 k2_2 k2_3 k2_4 r0 r1 r2 r3 r4 f4 k1_0 k1_1 k1_2 k1_3 k1_4
  have so : ∀ (kk oo : Nat), kk ≠ w1.heap.size → (w3.setCell ⟨w1.heap.size, 4, none⟩ (.slice (some ⟨g, 0, none⟩) rules.length c3)).cell? ⟨kk, oo, none⟩ = w3.cell? ⟨kk, oo, none⟩ := fun kk oo hkk => World.cell?_setCell_other w3 _ _ _ (by intro hh; injection hh with hh; exact hkk hh.symm)
  have S0 := (so w.heap.size 0 hgw1).trans s40
  have S1 := (so w.heap.size 1 hgw1).trans s41
  have S2 := (so w.heap.size 2 hgw1).trans s42
  have S3 := (so w.heap.size 3 hgw1).trans s43
  have S4 := (so w.heap.size 4 hgw1).trans s44
  have N0 := (World.cell?_setCell_other w3 ⟨w1.heap.size, 4, none⟩ ⟨w1.heap.size, 0, none⟩ (.slice (some ⟨g, 0, none⟩) rules.length c3) (by simp)).trans n40
  have N1 := (World.cell?_setCell_other w3 ⟨w1.heap.size, 4, none⟩ ⟨w1.heap.size, 1, none⟩ (.slice (some ⟨g, 0, none⟩) rules.length c3) (by simp)).trans n41
  have N2 := (World.cell?_setCell_other w3 ⟨w1.heap.size, 4, none⟩ ⟨w1.heap.size, 2, none⟩ (.slice (some ⟨g, 0, none⟩) rules.length c3) (by simp)).trans n42
  have N3 := (World.cell?_setCell_other w3 ⟨w1.heap.size, 4, none⟩ ⟨w1.heap.size, 3, none⟩ (.slice (some ⟨g, 0, none⟩) rules.length c3) (by simp)).trans n43
  have N4 := World.cell?_setCell_same w3 ⟨w1.heap.size, 4, none⟩ (.slice (some ⟨g, 0, none⟩) rules.length c3) q4
  have T1 := (so b (o + j * 2) hbn).trans t1w
  have T1' := (so b (o + j * 2 + 1) hbn).trans t1w'
  have T2 := (so b (o + (j + 1) * 2) hbn).trans t2w
  have T2' := (so b (o + (j + 1) * 2 + 1) hbn).trans t2w'
  have U1 := (so g (j * 2) hgn).trans u1
  have U1' := (so g (j * 2 + 1) hgn).trans u1'
  have U2 := (so g ((j + 1) * 2) hgn).trans u2
  have U2' := (so g ((j + 1) * 2 + 1) hgn).trans u2'
  have FZ : ∀ i, (w3.setCell ⟨w1.heap.size, 4, none⟩ (.slice (some ⟨g, 0, none⟩) rules.length c3)).frozen? ⟨g, i, none⟩ = false := fun i => by simpa using hfz i
  have F1 := FZ (j * 2)
  have F1' := FZ (j * 2 + 1)
  have F2 := FZ ((j + 1) * 2)
  have F2' := FZ ((j + 1) * 2 + 1)
  have HSO := Lib.hid so
  have HFZ := Lib.hid FZ
  clear so FZ s40 s41 s42 s43 s44 n40 n41 n42 n43 t1w t1w' t2w t2w' u1 u1' u2 u2' q4 g4
  generalize hw4 : w3.setCell ⟨w1.heap.size, 4, none⟩ (.slice (some ⟨g, 0, none⟩) rules.length c3) = w4 at *
  have wj : IntKind.i64.wrap ((j : Int) + 1) = (j : Int) + 1 := IntWalk.i64_in _ (by omega)
  have j1 : (0 : Int) ≤ j := by omega
  have j2 : (j : Int) < rules.length := by omega
  have j3 : (0 : Int) ≤ (j : Int) + 1 := by omega
  have j4 : (j : Int) + 1 < rules.length := by omega
  have j5 : ((j : Int) + 1).toNat = j + 1 := by omega
  go_region
  have HSW : Hid (swapL rules j = (rules.set j (cs2', x2')).set (j + 1) (cs1', x1')) := swap_eq hx1'.out hx2'.out
  have HPM := Lib.hid (swap_perm rules j)
  have hlen : (swapL rules j).length = rules.length := (HPM.out.length_eq).symm
  generalize hw5 : (((w4.setCell ⟨g, j * 2, none⟩ (.slice A2 cs2'.length d2)).setCell ⟨g, j * 2 + 1, none⟩ (.int .i64 x2')).setCell ⟨g, (j + 1) * 2, none⟩ (.slice A1 cs1'.length d1)).setCell ⟨g, (j + 1) * 2 + 1, none⟩ (.int .i64 x1') = w5
  have z5 : w5.heap.size = w3.heap.size := by rw [← hw5, ← hw4]; simp [World.setCell]
  have ne : ∀ (g1 o1 g2 o2 : Nat), (g1 ≠ g2 ∨ o1 ≠ o2) → (⟨g1, o1, none⟩ : Addr) ≠ ⟨g2, o2, none⟩ := fun g1 o1 g2 o2 hh hq => by injection hq with hq1 hq2; rcases hh with hh | hh; exact hh hq1; exact hh hq2
  have far : ∀ kk oo, kk ≠ g → w5.cell? ⟨kk, oo, none⟩ = w4.cell? ⟨kk, oo, none⟩ := by
    intro kk oo hkk
    rw [← hw5, World.cell?_setCell_other _ _ _ _ (ne _ _ _ _ (.inl (Ne.symm hkk))), World.cell?_setCell_other _ _ _ _ (ne _ _ _ _ (.inl (Ne.symm hkk))), World.cell?_setCell_other _ _ _ _ (ne _ _ _ _ (.inl (Ne.symm hkk))), World.cell?_setCell_other _ _ _ _ (ne _ _ _ _ (.inl (Ne.symm hkk)))]
  have p3 : w5.cell? ⟨g, (j + 1) * 2 + 1, none⟩ = some (.int .i64 x1') := by
    rw [← hw5]
    exact World.cell?_setCell_same _ _ _ ((World.cell?_setCell_other _ _ _ _ (ne _ _ _ _ (.inr (by omega)))).trans ((World.cell?_setCell_other _ _ _ _ (ne _ _ _ _ (.inr (by omega)))).trans ((World.cell?_setCell_other _ _ _ _ (ne _ _ _ _ (.inr (by omega)))).trans U2')))
  have p2 : w5.cell? ⟨g, (j + 1) * 2, none⟩ = some (.slice A1 cs1'.length d1) := by
    rw [← hw5, World.cell?_setCell_other _ _ _ _ (ne _ _ _ _ (.inr (by omega)))]
    exact World.cell?_setCell_same _ _ _ ((World.cell?_setCell_other _ _ _ _ (ne _ _ _ _ (.inr (by omega)))).trans ((World.cell?_setCell_other _ _ _ _ (ne _ _ _ _ (.inr (by omega)))).trans U2))
  have p1 : w5.cell? ⟨g, j * 2 + 1, none⟩ = some (.int .i64 x2') := by
    rw [← hw5, World.cell?_setCell_other _ _ _ _ (ne _ _ _ _ (.inr (by omega))), World.cell?_setCell_other _ _ _ _ (ne _ _ _ _ (.inr (by omega)))]
    exact World.cell?_setCell_same _ _ _ ((World.cell?_setCell_other _ _ _ _ (ne _ _ _ _ (.inr (by omega)))).trans U1')
  have p0 : w5.cell? ⟨g, j * 2, none⟩ = some (.slice A2 cs2'.length d2) := by
    rw [← hw5, World.cell?_setCell_other _ _ _ _ (ne _ _ _ _ (.inr (by omega))), World.cell?_setCell_other _ _ _ _ (ne _ _ _ _ (.inr (by omega))), World.cell?_setCell_other _ _ _ _ (ne _ _ _ _ (.inr (by omega)))]
    exact World.cell?_setCell_same _ _ _ U1
  have pe : ∀ oo, oo ≠ j * 2 → oo ≠ j * 2 + 1 → oo ≠ (j + 1) * 2 → oo ≠ (j + 1) * 2 + 1 → w5.cell? ⟨g, oo, none⟩ = w4.cell? ⟨g, oo, none⟩ := by
    intro oo h1 h2 h3 h4
    rw [← hw5, World.cell?_setCell_other _ _ _ _ (ne _ _ _ _ (.inr (Ne.symm h4))), World.cell?_setCell_other _ _ _ _ (ne _ _ _ _ (.inr (Ne.symm h3))), World.cell?_setCell_other _ _ _ _ (ne _ _ _ _ (.inr (Ne.symm h2))), World.cell?_setCell_other _ _ _ _ (ne _ _ _ _ (.inr (Ne.symm h1)))]
  have hb13 := bx hb2 hb3
  have hgw : w1.heap.size ≤ g := by omega
  have hb14 : Below w1.heap.size w1 w4 := by rw [← hw4]; exact hb13.setCell (Nat.le_refl _) _
  have hb15' : Below w1.heap.size w1 w5 := by rw [← hw5]; exact (((hb14.setCell hgw _).setCell hgw _).setCell hgw _).setCell hgw _
  have SL : Sl Enc.rule w5 (Old w5) (swapL rules j) (.slice (some ⟨g, 0, none⟩) rules.length c3) := by
    refine ⟨some ⟨g, 0, none⟩, c3, by rw [hlen], by omega, hA2, (fun h => by cases h), fun _ => ⟨g, 0, rfl, by show g < _; omega, ?_⟩⟩
    intro i x hx
    rw [HSW.out] at hx
    by_cases hi1 : i = j + 1
    · subst hi1
      rw [List.getElem?_set_self (by rw [List.length_set]; omega)] at hx
      injection hx with hx
      subst hx
      refine ⟨[.slice A1 cs1'.length d1, .int .i64 x1'], Enc.rule_rd.2 ⟨_, rfl, HQ1.out.onOld hb15'⟩, fun jj u hu => ?_⟩
      have es : Enc.rule.size = 2 := rfl
      rw [es, Nat.zero_add]
      match jj with
      | 0 => simp at hu; subst hu; exact p2
      | 1 => simp at hu; subst hu; exact p3
      | jj + 2 => simp at hu
    · rw [List.getElem?_set_ne (fun h => hi1 h.symm)] at hx
      by_cases hi0 : i = j
      · subst hi0
        rw [List.getElem?_set_self (by omega)] at hx
        injection hx with hx
        subst hx
        refine ⟨[.slice A2 cs2'.length d2, .int .i64 x2'], Enc.rule_rd.2 ⟨_, rfl, HQ2.out.onOld hb15'⟩, fun jj u hu => ?_⟩
        have es : Enc.rule.size = 2 := rfl
        rw [es, Nat.zero_add]
        match jj with
        | 0 => simp at hu; subst hu; exact p0
        | 1 => simp at hu; subst hu; exact p1
        | jj + 2 => simp at hu
      · rw [List.getElem?_set_ne (fun h => hi0 h.symm)] at hx
        obtain ⟨cs, hc, hcc⟩ := HROW.out i x hx
        refine ⟨cs, Enc.more _ (Enc.keep _ hc (fun p hp => (hb15'.cell hp).trans (hb2.cell hp).symm)) (fun kk hkk => Nat.lt_of_lt_of_le hkk hb15'.size), fun jj u hu => ?_⟩
        have hl2c : cs.length = 2 := Enc.len _ hc
        have hjj : jj < 2 := by have := (List.getElem?_eq_some_iff.1 hu).1; omega
        have es : Enc.rule.size = 2 := rfl
        have := hcc jj u hu
        rw [es] at this ⊢
        rw [Nat.zero_add, pe _ (by omega) (by omega) (by omega) (by omega), HSO.out g _ hgn]
        exact this
  have hg5 : g < w5.heap.size := by omega
  have HSL := Lib.hid SL
  have hgne : w.heap.size ≠ g := by omega
  have hgne1 : w1.heap.size ≠ g := by omega
  have a0 := (far w.heap.size 0 hgne).trans S0
  have a1 := (far w.heap.size 1 hgne).trans S1
  have a2 := (far w.heap.size 2 hgne).trans S2
  have a3 := (far w.heap.size 3 hgne).trans S3
  have a4 := (far w.heap.size 4 hgne).trans S4
  have b0 := (far w1.heap.size 0 hgne1).trans N0
  have b1 := (far w1.heap.size 1 hgne1).trans N1
  have b2 := (far w1.heap.size 2 hgne1).trans N2
  have b3 := (far w1.heap.size 3 hgne1).trans N3
  have b4 := (far w1.heap.size 4 hgne1).trans N4
  have hb15 : Below w1.heap.size w1 w5.drew := hb15'.drew
  have HT5 := Lib.hid (HT1.out.onOld hb15)
  have HI5 := Lib.hid (HI1.out.onOld hb15)
  have HTU : Hid (TabAt w5.drew (Old w5.drew) ⟨nm, pol, comp, ins, swapL rules j⟩ (.agg #[.string nm, .int .i64 pol, .bool comp, .slice Ai ins.length ci, .slice (some ⟨g, 0, none⟩) rules.length c3])) := ⟨_, _, rfl, HII1.out.onOld hb15, HSL.out⟩
  have HSU : Hid (smallT ⟨nm, pol, comp, ins, swapL rules j⟩) := ⟨HS.out.1, HS.out.2.1, by have := HS.out.2.2; simp only at this ⊢; rw [hlen]; exact this⟩
  have HEQ : Hid (saysV ⟨nm, pol, comp, ins, swapL rules j⟩ l = saysV ⟨nm, pol, comp, ins, rules⟩ l) := (saysV_perm (t := ⟨nm, pol, comp, ins, rules⟩) (u := ⟨nm, pol, comp, ins, swapL rules j⟩) HPM.out rfl rfl rfl H3.out l).symm
  have hb05 := bx hb01 hb15
  have hgw5 : w.heap.size < w5.heap.size := by omega
  have hgw15 : w1.heap.size < w5.heap.size := by omega
  have a0 : w5.drew.cell? ⟨w.heap.size, 0, none⟩ = _ := a0
  have a1 : w5.drew.cell? ⟨w.heap.size, 1, none⟩ = _ := a1
  have a2 : w5.drew.cell? ⟨w.heap.size, 2, none⟩ = _ := a2
  have a3 : w5.drew.cell? ⟨w.heap.size, 3, none⟩ = _ := a3
  have a4 : w5.drew.cell? ⟨w.heap.size, 4, none⟩ = _ := a4
  have b0 : w5.drew.cell? ⟨w1.heap.size, 0, none⟩ = _ := b0
  have b1 : w5.drew.cell? ⟨w1.heap.size, 1, none⟩ = _ := b1
  have b2 : w5.drew.cell? ⟨w1.heap.size, 2, none⟩ = _ := b2
  have b3 : w5.drew.cell? ⟨w1.heap.size, 3, none⟩ = _ := b3
  have b4 : w5.drew.cell? ⟨w1.heap.size, 4, none⟩ = _ := b4
  have hgw15' : w1.heap.size < w5.drew.heap.size := hgw15
  generalize w5.drew = w6 at *
  clear SL far pe p0 p1 p2 p3 S0 S1 S2 S3 S4 N0 N1 N2 N3 N4 T1 T1' T2 T2' U1 U1' U2 U2' F1 F1' F2 F2' HROW HSO HFZ hfz hq1 hq2 HQ1 HQ2 wj j1 j2 j3 j4 j5 hw5 hw4 ne
  go_wp2_with fail
  refine (table_Says _ l _ _ _ HT5.out HI5.out HS.out).mono ?_
  rintro e w7 ⟨rfl, hb7⟩
  have d0 := (hb7.cell (p := ⟨w1.heap.size, 0, none⟩) hgw15').trans b0
  have d1 := (hb7.cell (p := ⟨w1.heap.size, 1, none⟩) hgw15').trans b1
  have d2 := (hb7.cell (p := ⟨w1.heap.size, 2, none⟩) hgw15').trans b2
  have d3 := (hb7.cell (p := ⟨w1.heap.size, 3, none⟩) hgw15').trans b3
  have d4 := (hb7.cell (p := ⟨w1.heap.size, 4, none⟩) hgw15').trans b4
  have HTU7 := Lib.hid (HTU.out.onOld hb7)
  have HI7 := Lib.hid (HI5.out.onOld hb7)
  have hb07 := bx hb05 hb7
  clear a0 a1 a2 a3 a4 b0 b1 b2 b3 b4
  go_wp2_with fail
  refine (table_Says _ l _ _ _ HTU7.out HI7.out HSU.out).mono ?_
  rintro e w8 ⟨rfl, hb8⟩
  rw [HEQ.out]
  generalize saysV ⟨nm, pol, comp, ins, rules⟩ l = r at *
  obtain ⟨rn, rok, re⟩ := r
  have e1 : (rn == rn) = true := by simp
  have e2 : (rok == rok) = true := by simp
  have e3 : (re == re) = true := by simp
  simp only
  clear d0 d1 d2 d3 d4
  go_wp2_with fail
  refine (keep_tables _).mono ?_
  rintro e w9 ⟨rfl, hb9⟩
  go_wp2
  go_ret
  exact ⟨rfl, bx hb07 (bx hb8 hb9)⟩

end Go.Proofs.Ytmdljknlbmlacab
