/- ratebookref.CopyBook copies what its argument reads as. Conditions: the book reads as lists in old memory; names and lists fit into 2^47 bytes. ratebookref.SameBook returns true where its two arguments read as the same book. Conditions: they read as lists in old memory; names, and the names of inputs joined, fit into 2^47 bytes. -/
import Derived.Test.YtmdljknlbmlacabGreatDoorBookA
import Derived.Test.YtmdljknlbmlacabGreatDoorRefCopyT
import Derived.Test.YtmdljknlbmlacabGreatDoorRefSameT
namespace Go.Proofs.YtmdljknlbmlacabGreatDoor
open Go.RowKit

theorem tb_under : Tryz.prog.underlying 23 = some (.slice 59) := by kernel_rfl
theorem tb_info : (Tryz.prog.info? 59).map (fun i => (i.zero, i.size, i.bytes)) = some (some (.agg #[.string ⟨#[]⟩, .int .i64 0, .bool false, .slice none 0 0, .slice none 0 0]), 5, 80) := by kernel_rfl
theorem dm_under : Tryz.prog.underlying 22 = some (.slice 69) := by kernel_rfl
theorem dm_info : (Tryz.prog.info? 69).map (fun i => (i.zero, i.size, i.bytes)) = some (some (.agg #[.string ⟨#[]⟩, .int .i64 0, .int .i64 0]), 3, 32) := by kernel_rfl
theorem cell_new5 (w : World) (x y z u v : Value) (e : Nat) : ∀ j q, [x, y, z, u, v][j]? = some q → (w.alloc (.cells #[x, y, z, u, v] e)).cell? ((⟨w.heap.size, 0, none⟩ : Addr).add j) = some q := by
  intro j q hq
  have ea : (⟨w.heap.size, 0, none⟩ : Addr).add j = ⟨w.heap.size, 0 + j, none⟩ := by unfold Addr.add; split <;> simp_all
  rw [ea, Nat.zero_add]
  exact cell_new _ _ _ _ _ (by simpa using hq)
theorem ret_bookX {fn : Func} {p : Tmp} {tmps : Array Value} {W : World} {b : Nat} {x y : Value} (h : fn.results = #[.cell p 25]) (hp : tmps.getD p undef = .pointer (some ⟨b, 0, none⟩)) (ht : Cs W b [x, y]) :
    (results fn tmps).run Tryz.prog W = .ok (.agg #[x, y]) W := by
  have q0 := ht.at 0 rfl
  have q1 := ht.at 1 rfl
  have hp' : tmps[p]?.getD undef = .pointer (some ⟨b, 0, none⟩) := by simpa using hp
  simp [results, h, hp', go_sem, q0, q1]
/-- what a copy of a table wants -/
def copyT (t : TabD) : Prop := t.ins.length * 16 ≤ 140737488355328 ∧ t.rules.length * 32 ≤ 140737488355328 ∧ ∀ r, r ∈ t.rules → r.1.length * 32 ≤ 140737488355328 ∧ ∀ c, c ∈ r.1 → c.2.length * 16 ≤ 140737488355328

set_option maxRecDepth 100000 in
set_option maxHeartbeats 2000000 in
theorem ref_CopyBook (b : BookD) (v : Value) (w : World) (h : BookAt w (Old w) b v) (hd : b.doms.length * 32 ≤ 140737488355328) (ht : b.tabs.length * 80 ≤ 140737488355328) (hc : ∀ t, t ∈ b.tabs → copyT t) :
    Calls Tryz.prog 6 #[v] w fun e w' => ∃ u, e = .returned u ∧ BookAt w' (Old w') b u ∧ Below w.heap.size w w' := by
  have HC := Lib.hid hc
  clear hc
  obtain ⟨vd, vt, rfl, h1, h2⟩ := h
  have HD := Lib.hid h1
  have HTS := Lib.hid h2
  obtain ⟨A, c, rfl, hc1, hc2, -⟩ := h1
  obtain ⟨B, d, rfl, hd1, hd2, -⟩ := h2
  unfold maxLen at hc2 hd2
  have hb0 := below_alloc1 w (.cells #[.slice A b.doms.length c, .slice B b.tabs.length d] 25)
  have C0 := Lib.hid (Cs.new w [.slice A b.doms.length c, .slice B b.tabs.length d] 25)
  have hz0 : (w.alloc (.cells #[.slice A b.doms.length c, .slice B b.tabs.length d] 25)).heap.size = w.heap.size + 1 := by simp
  change Hid (Cs (w.alloc (.cells #[.slice A b.doms.length c, .slice B b.tabs.length d] 25)) _ _) at C0
  generalize hw0 : w.alloc (.cells #[.slice A b.doms.length c, .slice B b.tabs.length d] 25) = w0 at *
  have hb1 := below_alloc1 w0 (.cells #[.slice none 0 0, .slice none 0 0] 25)
  have C1 := Lib.hid (Cs.new w0 [.slice none 0 0, .slice none 0 0] 25)
  have hz1 : (w0.alloc (.cells #[.slice none 0 0, .slice none 0 0] 25)).heap.size = w.heap.size + 2 := by simp; omega
  change Hid (Cs (w0.alloc (.cells #[.slice none 0 0, .slice none 0 0] 25)) _ _) at C1
  rw [hz0] at C1
  have C01 := Lib.hid (C0.out.next hb1)
  have hb01 := bx hb0 hb1
  generalize hw1 : w0.alloc (.cells #[.slice none 0 0, .slice none 0 0] 25) = w1 at *
  have k0 := C01.out.at 0 rfl
  have HD1 := Lib.hid (HD.out.onOld hb01)
  go_enter Tryz.func6, Tryz.ntmps6
  go_wp2_with (at_builtin; refine wpList_append_all (E := Enc.dom) _ rfl _ _ 22 rfl w1.heap.size w1.heap.size 69 32 (.agg #[.string ⟨#[]⟩, .int .i64 0, .int .i64 0]) dm_under dm_info rfl (by decide) _ [] rfl OwnG.nil _ b.doms rfl _ HD1.out (fun _ _ h => Enc.dom_rd.2 (Enc.dom_rd.1 h)) (by simp; omega) (by unfold maxLen; simp; omega) (Nat.le_refl _) ?_; intro v1 w2 hown1 hg2 hmv; clear hmv; rw [List.nil_append] at hown1; obtain ⟨A1, c1', rfl, -, -, -⟩ := hown1.form; have hb2 : Below w1.heap.size w1 w2 := below_of_grown hg2 (Nat.le_refl _) (fun _ h => by cases h); have C02 := Lib.hid (C01.out.next hb2); have hb3 := below_alloc1 w2 (.cells #[.slice A1 b.doms.length c1', .slice none 0 0] 25); have C03 := Lib.hid (C02.out.next hb3); have p1 := C03.out.at 1 rfl)
  have HS1 := Lib.hid (hown1.sl (Nat.le_refl _))
  have CX := Lib.hid (Cs.new w2 [.slice A1 b.doms.length c1', .slice none 0 0] 25)
  change Hid (Cs (w2.alloc (.cells #[.slice A1 b.doms.length c1', .slice none 0 0] 25)) _ _) at CX
  have hz3 : (w2.alloc (.cells #[.slice A1 b.doms.length c1', .slice none 0 0] 25)).heap.size = w2.heap.size + 1 := by simp
  have HS3 := Lib.hid (HS1.out.keep (w' := w2.alloc (.cells #[.slice A1 b.doms.length c1', .slice none 0 0] 25)) (fun p hp => hb3.cell hp.2))
  have C13 := Lib.hid ((C1.out.next hb2).next hb3)
  have hb03 := bx hb01 (bx hb2 hb3)
  have hsz2 := hb2.size
  generalize hw3 : w2.alloc (.cells #[.slice A1 b.doms.length c1', .slice none 0 0] 25) = w3 at *
  clear hown1 hg2 HS1 hw0 hw1 HD1
  go_loopw [13] (fun i wr => ∃ (k : Nat) (vt : Value), k ≤ b.tabs.length ∧ i = .int .i64 k ∧ Hid (OwnG Enc.tab wr w3.heap.size w3.heap.size 59 vt (b.tabs.take k)) ∧ Hid (Sl Enc.dom wr (From w1.heap.size w2) b.doms (.slice A1 b.doms.length c1')) ∧ Hid (Cs wr w2.heap.size [.slice A1 b.doms.length c1', vt]) ∧ Hid (Cs wr (w.heap.size + 1) [.slice none 0 0, .slice none 0 0]) ∧ w3.heap.size ≤ wr.heap.size ∧ Below w.heap.size w wr) (fun i _ => b.tabs.length - (intOf i).toNat)
  case atStart => exact ⟨0, .slice none 0 0, Nat.zero_le _, rfl, OwnG.nil, HS3, CX, C13, Nat.le_refl _, hb03⟩
  case round =>
    clear HS3 CX C13 hb03 k0 p1 hb2 hb3 C02 C03 hw3 hb01 hb0 hb1 C0 C01 C1
    obtain ⟨k, vt, hk, rfl, HO, HS, CX, CR, hsz, hb⟩ := hrel
    by_cases hlt : k < b.tabs.length
    · obtain ⟨bb, o, nm, pol, comp, ins, rules, vi, vr, rfl, hSb, hx, c1, c2, c3, c4, c5, hi, hr⟩ := (HTS.out.onOld hb).tab_at hlt
      have HT0 : Hid (TabAt wr (Old wr) ⟨nm, pol, comp, ins, rules⟩ (.agg #[.string nm, .int .i64 pol, .bool comp, vi, vr])) := ⟨_, _, rfl, hi, hr⟩
      obtain ⟨Ai, ci, rfl, -, -⟩ := hi.form
      obtain ⟨Ar, cr, rfl, -, -⟩ := hr.form
      clear hi hr
      have HCT := Lib.hid (HC.out _ (List.mem_of_getElem? hx.out))
      have hbz := below_alloc1 wr (.cells #[.string nm, .int .i64 pol, .bool comp, .slice Ai ins.length ci, .slice Ar rules.length cr] 59)
      have CN := Lib.hid (Cs.new wr [.string nm, .int .i64 pol, .bool comp, .slice Ai ins.length ci, .slice Ar rules.length cr] 59)
      change Hid (Cs (wr.alloc (.cells #[.string nm, .int .i64 pol, .bool comp, .slice Ai ins.length ci, .slice Ar rules.length cr] 59)) _ _) at CN
      have HTz := Lib.hid (HT0.out.onOld hbz)
      have CXz := Lib.hid (CX.out.next hbz)
      have q0 := CN.out.at 0 rfl
      have q1 := CN.out.at 1 rfl
      have q2 := CN.out.at 2 rfl
      have q3 := CN.out.at 3 rfl
      have q4 := CN.out.at 4 rfl
      have x1z := CXz.out.at 1 rfl
      generalize hwz : wr.alloc (.cells #[.string nm, .int .i64 pol, .bool comp, .slice Ai ins.length ci, .slice Ar rules.length cr] 59) = wz at *
      have hbzd : Below wz.heap.size wz wz.drew := (Below.refl _ _).drew
      have HTd := Lib.hid (HTz.out.onOld hbzd)
      have hbzd2 := bx hbz hbzd
      have hN : (b.tabs.take k).length = k := by rw [List.length_take]; omega
      have HN := Lib.hid hN
      have HTK := Lib.hid (take_at hx.out)
      have HN8 : Hid ((b.tabs.take (k + 1)).length = k + 1) := by show _ = _; rw [List.length_take]; omega
      have hk80 : (k + 1) * 80 ≤ 140737488355328 := by omega
      clear hN
      go_wp2_with fail
      clear hwz
      go_region_law (first
        | (go_simp; go_at_call 22; refine (ref_CopyTableN ⟨nm, pol, comp, ins, rules⟩ _ _ ?_ HCT.out.1 HCT.out.2.1 HCT.out.2.2).mono ?_; exact HTd.out; rintro e wc ⟨u, rfl, hu, hbc0⟩; obtain ⟨viu, vru, rfl, hiu, hru⟩ := hu; have hbc : Below wz.heap.size wz wc := undrew hbc0; have HIU := Lib.hid hiu; have HRU := Lib.hid hru; obtain ⟨Aiu, ciu, rfl, -, -⟩ := hiu.form; obtain ⟨Aru, cru, rfl, -, -⟩ := hru.form; clear hiu hru hbc0; have CXc := Lib.hid (CXz.out.next hbc); have x1c := CXc.out.at 1 rfl; have hbd := below_alloc1 wc (.cells #[.string nm, .int .i64 pol, .bool comp, .slice Aiu ins.length ciu, .slice Aru rules.length cru] 59); have CXd := Lib.hid (CXc.out.next hbd); have x1d := CXd.out.at 1 rfl; have hbzc := bx hbz hbc; have HOd := Lib.hid ((HO.out.next hbzc).next hbd); have hbrd := bx hbzc hbd; have hszd : w3.heap.size ≤ (wc.alloc (.cells #[.string nm, .int .i64 pol, .bool comp, .slice Aiu ins.length ciu, .slice Aru rules.length cru] 59)).heap.size := Nat.le_trans hsz hbrd.size; have HY : Hid (Enc.tab.rd (wc.alloc (.cells #[.string nm, .int .i64 pol, .bool comp, .slice Aiu ins.length ciu, .slice Aru rules.length cru] 59)) (Off w3.heap.size (wc.alloc (.cells #[.string nm, .int .i64 pol, .bool comp, .slice Aiu ins.length ciu, .slice Aru rules.length cru] 59)) vt) ⟨nm, pol, comp, ins, rules⟩ [.string nm, .int .i64 pol, .bool comp, .slice Aiu ins.length ciu, .slice Aru rules.length cru]) := Enc.tab_rd.2 ⟨_, _, rfl, (HIU.out.on hbd).more (off_new (HO.out.next hbzd2) (Nat.le_trans hsz hbzd2.size) (Nat.le_refl _)), (HRU.out.on hbd).more (off_new (HO.out.next hbzd2) (Nat.le_trans hsz hbzd2.size) (Nat.le_refl _))⟩)
        | (refine step_append_one (E := Enc.tab) rfl (.tmp 18) (.tmp 21) 23 rfl w3.heap.size w3.heap.size 59 80 (.agg #[.string ⟨#[]⟩, .int .i64 0, .bool false, .slice none 0 0, .slice none 0 0]) tb_under tb_info rfl (by decide) vt (b.tabs.take k) (by simp [Act.eval]) HOd.out ⟨wc.heap.size, 0, none⟩ ⟨nm, pol, comp, ins, rules⟩ [.string nm, .int .i64 pol, .bool comp, .slice Aiu ins.length ciu, .slice Aru rules.length cru] (by simp [Act.eval]) HY.out (cell_new5 _ _ _ _ _ _ _) ?_ ?_ hszd ?_; (rw [HN.out]; exact hk80); (rw [HN.out]; unfold maxLen; omega); intro v5 w5 ho5 hg5 hmv5; clear hmv5; rw [← HTK.out] at ho5; obtain ⟨A5, c5', e5, -, -, -⟩ := ho5.form; rw [HN8.out] at e5; subst e5; have HO5 := Lib.hid ho5; have hlt5 := HOd.out.lt; have hb25 := hg5.block w2.heap.size CXd.out.1 (fun e => by have := (hlt5 _ e.symm).1; omega); have CX5 := Lib.hid (CXd.out.keep hb25 hg5.size); have x15 := CX5.out.at 1 rfl; have f15 := CX5.out.2.2 1 (by simp)))
      all_goals go_wp2
      all_goals
        have hgw : w2.heap.size < w3.heap.size := by omega
        have hbd5 : Below wr.heap.size wr (wc.alloc (.cells #[.string nm, .int .i64 pol, .bool comp, .slice Aiu ins.length ciu, .slice Aru rules.length cru] 59)) := hbrd
        have hb35 : Below w3.heap.size wr w5 := (hbd5.mono hsz).grown hg5 hszd (fun _ hj => (hlt5 _ hj).1)
        have hb05 : Below w.heap.size w w5 := below_more hb hb35 (by omega)
        refine ⟨⟨k + 1, .slice A5 (k + 1) c5', by omega, by go_num, ?_, ?_, CX5.out.set 1 (by simp) _, ?_, ?_, hb05.setCell (by show w.heap.size ≤ w2.heap.size; omega) _⟩, by simp [intOf]; omega⟩
        · exact HO5.out.setCell hgw (fun hh => by have := (HO5.out.lt _ hh).1; omega)
        · refine HS.out.keep fun p hp => ?_
          have hp1 := hp.1
          have hp2 := hp.2
          rw [World.cell?_of_block (RowKit.Below.heap_setCell _ _ _ _ (show p.block ≠ w2.heap.size by omega))]
          exact hb35.cell (by omega)
        · exact (CR.out.keep (hb35.block _ (by omega)) hb35.size).keep (RowKit.Below.heap_setCell _ _ _ _ (show w.heap.size + 1 ≠ w2.heap.size by omega)) (by simp [World.setCell])
        · have := hb35.size
          simp [World.setCell]; omega
    · have ek : b.tabs.take k = b.tabs := List.take_of_length_le (by omega)
      rw [ek] at HO
      obtain ⟨A9, c9, rfl, -, -, -⟩ := HO.out.form
      have x0 := CX.out.at 0 rfl
      have x1 := CX.out.at 1 rfl
      have r0 := CR.out.at 0 rfl
      have r1 := CR.out.at 1 rfl
      have f0 := CR.out.2.2 0 (by decide)
      have f1 := CR.out.2.2 1 (by decide)
      have hgg : w.heap.size + 1 < w3.heap.size := by omega
      have hvv : (Value.slice A9 b.tabs.length c9).ownBlock ≠ some (w.heap.size + 1) := fun hh => by have := (HO.out.lt _ hh).1; omega
      have HW := Lib.hid ((HO.out.setCell (o := 0) (x := .slice A1 b.doms.length c1') hgg hvv).setCell (o := 1) (x := .slice A9 b.tabs.length c9) hgg hvv)
      have HSW : Hid (Sl Enc.dom ((wr.setCell ⟨w.heap.size + 1, 0, none⟩ (.slice A1 b.doms.length c1')).setCell ⟨w.heap.size + 1, 1, none⟩ (.slice A9 b.tabs.length c9)) (From w1.heap.size w2) b.doms (.slice A1 b.doms.length c1')) := by
        refine HS.out.keep fun p hp => ?_
        have hp1 := hp.1
        have hpn : p.block ≠ w.heap.size + 1 := by omega
        rw [World.cell?_of_block (RowKit.Below.heap_setCell _ _ _ _ hpn), World.cell?_of_block (RowKit.Below.heap_setCell _ _ _ _ hpn)]
      go_wp2
      (try simp only [Exit.inBlock, Exit.then])
      refine bodyPost_ret (ret_bookX (b := w.heap.size + 1) rfl rfl ((CR.out.set 0 (by simp) _).set 1 (by simp) _)) rfl ⟨_, rfl, ⟨_, _, rfl, HSW.out.more fun q hq => ?_, HW.out.slOld (Nat.le_refl _)⟩, (hb.setCell (by simp) _).setCell (by simp) _⟩
      have hq2 := hq.2
      show q < _
      simp [World.setCell]
      omega

end Go.Proofs.YtmdljknlbmlacabGreatDoor
namespace Go.Proofs.YtmdljknlbmlacabGreatDoor
open Go.RowKit

/-- what a comparison of a table wants -/
def joinT (t : TabD) : Prop := t.ins.length ≤ 140737488355328 ∧ (Lib.join (t.ins.map (·.data.toList)) [44]).length ≤ 140737488355328

set_option maxRecDepth 100000 in
set_option maxHeartbeats 2000000 in
theorem ref_SameBook (b : BookD) (va vb : Value) (w : World) (ha : BookAt w (Old w) b va) (hb' : BookAt w (Old w) b vb) (hj : ∀ t, t ∈ b.tabs → joinT t) :
    Calls Tryz.prog 10 #[va, vb] w fun e w' => e = .returned (.bool true) ∧ Below w.heap.size w w' := by
  have HJ := Lib.hid hj
  clear hj
  obtain ⟨vd, vt, rfl, h1, h2⟩ := ha
  obtain ⟨ud, ut, rfl, g1, g2⟩ := hb'
  have HD := Lib.hid h1
  have HT := Lib.hid h2
  have GD := Lib.hid g1
  have GT := Lib.hid g2
  obtain ⟨A, c, rfl, hc1, hc2, -⟩ := h1
  obtain ⟨B, d, rfl, hd1, hd2, -⟩ := h2
  obtain ⟨A', c', rfl, hc1', hc2', -⟩ := g1
  obtain ⟨B', d', rfl, hd1', hd2', -⟩ := g2
  unfold maxLen at hc2 hd2 hc2' hd2'
  have hb0 := below_alloc1 w (.cells #[.slice A b.doms.length c, .slice B b.tabs.length d] 25)
  have C0 := Lib.hid (Cs.new w [.slice A b.doms.length c, .slice B b.tabs.length d] 25)
  have hz0 : (w.alloc (.cells #[.slice A b.doms.length c, .slice B b.tabs.length d] 25)).heap.size = w.heap.size + 1 := by simp
  change Hid (Cs (w.alloc (.cells #[.slice A b.doms.length c, .slice B b.tabs.length d] 25)) _ _) at C0
  generalize hw0 : w.alloc (.cells #[.slice A b.doms.length c, .slice B b.tabs.length d] 25) = w0 at *
  have hb1 := below_alloc1 w0 (.cells #[.slice A' b.doms.length c', .slice B' b.tabs.length d'] 25)
  have C1 := Lib.hid (Cs.new w0 [.slice A' b.doms.length c', .slice B' b.tabs.length d'] 25)
  change Hid (Cs (w0.alloc (.cells #[.slice A' b.doms.length c', .slice B' b.tabs.length d'] 25)) _ _) at C1
  rw [hz0] at C1
  have C01 := Lib.hid (C0.out.next hb1)
  have hb01 := bx hb0 hb1
  generalize hw1 : w0.alloc (.cells #[.slice A' b.doms.length c', .slice B' b.tabs.length d'] 25) = w1 at *
  have k0 := C01.out.at 0 rfl
  have k1 := C01.out.at 1 rfl
  have l0 := C1.out.at 0 rfl
  have l1 := C1.out.at 1 rfl
  go_enter Tryz.func10, Tryz.ntmps10
  go_wp2
  go_loopw [26] (fun i wr => ∃ k : Nat, k ≤ b.doms.length ∧ i = .int .i64 k ∧ Below w1.heap.size w1 wr) (fun i _ => b.doms.length - (intOf i).toNat)
  case atStart => exact ⟨0, Nat.zero_le _, rfl, Below.refl _ _⟩
  case round =>
    clear hw0 hw1 k0 k1 l0 l1 hb0 hb1 C0
    obtain ⟨k, hk, rfl, hbl⟩ := hrel
    have hb := bx hb01 hbl
    have CA := Lib.hid (C01.out.next hbl)
    have CB := Lib.hid (C1.out.next hbl)
    have k0 := CA.out.at 0 rfl
    have k1 := CA.out.at 1 rfl
    have l0 := CB.out.at 0 rfl
    have l1 := CB.out.at 1 rfl
    by_cases hlt : k < b.doms.length
    · obtain ⟨b1, o1, nm, lo, hi, rfl, _, hx, c1, c2, c3⟩ := (HD.out.onOld hb).dom_at hlt
      obtain ⟨b2, o2, nm', lo', hi', rfl, _, hx', e1, e2, e3⟩ := (GD.out.onOld hb).dom_at hlt
      have hxx := hx.out.symm.trans hx'.out
      injection hxx with hxx
      injection hxx with x1 x2
      injection x2 with x2 x3
      subst x1 x2 x3
      have hk0 : (0 : Int) ≤ k := by omega
      have hk1 : (k : Int) < b.doms.length := by omega
      go_wp2_with fail
      go_quiet (fail)
      go_wp2
      exact ⟨⟨k + 1, by omega, by go_num, below_drewN hbl _⟩, by simp [intOf]; omega⟩
    · go_wp2
      go_loopw [44] (fun i w2 => ∃ k : Nat, k ≤ b.tabs.length ∧ i = .int .i64 k ∧ Below w1.heap.size w1 w2) (fun i _ => b.tabs.length - (intOf i).toNat)
      case atStart => exact ⟨0, Nat.zero_le _, rfl, hbl⟩
      case round =>
        clear k0 k1 l0 l1 hb hbl CA CB
        rename World => w2
        obtain ⟨k, hk, rfl, hbl⟩ := hrel
        have hb := bx hb01 hbl
        have CA := Lib.hid (C01.out.next hbl)
        have CB := Lib.hid (C1.out.next hbl)
        have k1 := CA.out.at 1 rfl
        have l1 := CB.out.at 1 rfl
        by_cases hlt : k < b.tabs.length
        · obtain ⟨b1, o1, nm, pol, comp, ins, rules, vi, vr, rfl, _, hx, c1, c2, c3, c4, c5, hi, hr⟩ := (HT.out.onOld hb).tab_at hlt
          obtain ⟨b2, o2, nm', pol', comp', ins', rules', vi', vr', rfl, _, hx', e1, e2, e3, e4, e5, hi', hr'⟩ := (GT.out.onOld hb).tab_at hlt
          have hxx := hx.out.symm.trans hx'.out
          injection hxx with hxx
          injection hxx with x1 x2 x3 x4 x5
          subst x1 x2 x3 x4 x5
          have TA : Hid (TabAt w2 (Old w2) ⟨nm, pol, comp, ins, rules⟩ (.agg #[.string nm, .int .i64 pol, .bool comp, vi, vr])) := ⟨_, _, rfl, hi, hr⟩
          have TB : Hid (TabAt w2 (Old w2) ⟨nm, pol, comp, ins, rules⟩ (.agg #[.string nm, .int .i64 pol, .bool comp, vi', vr'])) := ⟨_, _, rfl, hi', hr'⟩
          have hd2 : Below w2.heap.size w2 w2.drew := (Below.refl _ _).drew
          have TAd := Lib.hid (TA.out.onOld hd2)
          have TBd := Lib.hid (TB.out.onOld hd2)
          obtain ⟨Ai, ci, rfl, -, -⟩ := hi.form
          obtain ⟨Ar, cr, rfl, -, -⟩ := hr.form
          obtain ⟨Ai', ci', rfl, -, -⟩ := hi'.form
          obtain ⟨Ar', cr', rfl, -, -⟩ := hr'.form
          have HJT := Lib.hid (HJ.out _ (List.mem_of_getElem? hx.out))
          clear hi hr hi' hr' TA TB
          have hk0 : (0 : Int) ≤ k := by omega
          have hk1 : (k : Int) < b.tabs.length := by omega
          go_wp2_with fail
          go_still_tail 10, (by kernel_rfl)
          go_wp2_with fail
          refine (ref_SameTable ⟨nm, pol, comp, ins, rules⟩ _ _ _ TAd.out TBd.out HJT.out.1 HJT.out.2).mono ?_
          rintro e w3 ⟨rfl, hb3⟩
          go_wp2
          exact ⟨⟨k + 1, by omega, by go_num, bx hbl (bx hd2 hb3)⟩, by simp [intOf]; omega⟩
        · go_wp2
          go_ret
          exact ⟨rfl, hb⟩

end Go.Proofs.YtmdljknlbmlacabGreatDoor
