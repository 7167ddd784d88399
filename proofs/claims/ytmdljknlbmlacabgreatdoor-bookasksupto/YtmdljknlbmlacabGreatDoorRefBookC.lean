/- ratebookref.domainOf, tableNamed, IsDomain and boxOf, each as a Lean function of what its arguments read as. Conditions: the book reads as lists in old memory; names and lists fit into 2^47 bytes; for boxOf its tables are good and the table has at most three inputs. Tables that hang on one another, as Lean data: where there is an order none hangs on itself; where there is none one does, through at most four. No condition; no program is named. ratebookref.hangs, which calls itself, as a Lean function of what its arguments read as. Conditions: the book reads as lists in old memory; names and lists fit into 2^47 bytes; it looks through at most four. ratebookref.OrderOf, as a Lean function of what its argument reads as. Conditions: the book reads as lists in old memory; its tables are good, at most four, and have different names; names and lists fit into 2^47 bytes. -/
import Derived.Test.YtmdljknlbmlacabGreatDoorBookA
import Derived.Test.YtmdljknlbmlacabGreatDoorRefSpanOf
import Derived.Test.YtmdljknlbmlacabGreatDoorRefName
import Derived.Test.YtmdljknlbmlacabGreatDoorRefSpan
import Derived.Test.YtmdljknlbmlacabGreatDoorBookW
import Derived.Test.YtmdljknlbmlacabGreatDoorBookE
namespace Go.Proofs.YtmdljknlbmlacabGreatDoor
open Go.RowKit

theorem numB_eq (n : Int) : numB n = inBd n := rfl

set_option maxHeartbeats 1000000 in
theorem ref_domainOf (b : BookD) (s : ByteArray) (v : Value) (w : World) (h : BookAt w (Old w) b v) :
    Calls Tryz.prog 28 #[v, .string s] w (FindDPost (findD b.doms s) w) := by
  obtain ⟨doms, tabs⟩ := b
  obtain ⟨vd, vt, rfl, h1, h2⟩ := h
  simp only at h1 h2 ⊢
  have H := Lib.hid h1
  obtain ⟨A, c, rfl, hc1, hc2, -⟩ := h1
  obtain ⟨B, d, rfl, hd1, hd2, -⟩ := h2
  unfold maxLen at hc2 hd2
  have hb0 := below_alloc1 w (.cells #[.slice A doms.length c, .slice B tabs.length d] 25)
  have C0 := Lib.hid (Cs.new w [.slice A doms.length c, .slice B tabs.length d] 25)
  have hz0 : (w.alloc (.cells #[.slice A doms.length c, .slice B tabs.length d] 25)).heap.size = w.heap.size + 1 := by simp
  change Hid (Cs (w.alloc (.cells #[.slice A doms.length c, .slice B tabs.length d] 25)) _ _) at C0
  generalize hw0 : w.alloc (.cells #[.slice A doms.length c, .slice B tabs.length d] 25) = w0 at *
  have hb1 := below_alloc1 w0 (.cells #[.string ⟨#[]⟩, .int .i64 0, .int .i64 0] 69)
  have C1 := Lib.hid (Cs.new w0 [.string ⟨#[]⟩, .int .i64 0, .int .i64 0] 69)
  change Hid (Cs (w0.alloc (.cells #[.string ⟨#[]⟩, .int .i64 0, .int .i64 0] 69)) _ _) at C1
  rw [hz0] at C1
  have C0' := Lib.hid (C0.out.next hb1)
  have k0 := C0'.out.at 0 rfl
  have hb01 := bx hb0 hb1
  generalize hw1 : w0.alloc (.cells #[.string ⟨#[]⟩, .int .i64 0, .int .i64 0] 69) = w1 at *
  generalize hR : findD doms s = R
  have HR := Lib.hid hR
  clear hR
  go_enter Tryz.func28, Tryz.ntmps28
  go_wp2
  go_loopw [10] (fun i wr => ∃ k : Nat, k ≤ doms.length ∧ i = .int .i64 k ∧ Hid ((doms.take k).find? (fun d => sameS d.1 s) = none) ∧ Hid (Cs wr (w.heap.size + 1) [.string ⟨#[]⟩, .int .i64 0, .int .i64 0]) ∧ Hid (Cs wr w.heap.size [.slice A doms.length c, .slice B tabs.length d]) ∧ Below w.heap.size w wr) (fun i _ => doms.length - (intOf i).toNat)
  case atStart => exact ⟨0, Nat.zero_le _, rfl, rfl, C1, C0', hb01⟩
  case round =>
    clear hw0 hw1 hb0 hb1 hb01 k0
    obtain ⟨k, hk, rfl, hf, CR, CB, hbl⟩ := hrel
    have r0 := CR.out.at 0 rfl
    have r1 := CR.out.at 1 rfl
    have r2 := CR.out.at 2 rfl
    have f0 := CR.out.2.2 0 (by decide)
    have f1 := CR.out.2.2 1 (by decide)
    have f2 := CR.out.2.2 2 (by decide)
    have k0 := CB.out.at 0 rfl
    by_cases hlt : k < doms.length
    · obtain ⟨b, o, nm, lo, hi, rfl, _, hx, c1, c2, c3⟩ := (H.out.below (fun _ h => h) hbl).dom_at hlt
      have hk0 : (0 : Int) ≤ k := by omega
      have hk1 : (k : Int) < doms.length := by omega
      by_cases hq : (nm.toList == s.toList) = true
      · have HF : Hid (R = some (nm, lo, hi)) := by show _ = _; rw [← HR.out]; exact find_at hf.out hx.out hq
        go_wp2
        (try simp only [Exit.inBlock, Exit.then])
        refine bodyPost_ret (ret_domB (b := w.heap.size + 1) rfl rfl (((CR.out.set 0 (by simp) _).set 1 (by simp) _).set 2 (by simp) _)) rfl ⟨?_, ((hbl.setCell (by simp) _).setCell (by simp) _).setCell (by simp) _⟩
        rw [HF.out]; rfl
      · have hq' : (nm.toList == s.toList) = false := by simpa using hq
        have HN := Lib.hid (find_more (p := fun d : DomD => sameS d.1 s) hf.out hx.out hq')
        clear hq
        go_wp2
        exact ⟨⟨k + 1, by omega, by go_num, HN, CR, CB, hbl⟩, by simp [intOf]; omega⟩
    · have HF : Hid (R = none) := by
        show _ = _
        have := hf.out
        rw [List.take_of_length_le (by omega)] at this
        rw [← HR.out]; exact this
      go_wp2
      (try simp only [Exit.inBlock, Exit.then])
      refine bodyPost_ret (ret_domB (b := w.heap.size + 1) rfl rfl (((CR.out.set 0 (by simp) _).set 1 (by simp) _).set 2 (by simp) _)) rfl ⟨?_, ((hbl.setCell (by simp) _).setCell (by simp) _).setCell (by simp) _⟩
      rw [HF.out]; rfl

set_option maxHeartbeats 1000000 in
theorem ref_tableNamed (b : BookD) (s : ByteArray) (v : Value) (w : World) (h : BookAt w (Old w) b v) :
    Calls Tryz.prog 41 #[v, .string s] w (FindTPost (findT b.tabs s) w) := by
  obtain ⟨doms, tabs⟩ := b
  obtain ⟨vd, vt, rfl, h1, h2⟩ := h
  simp only at h1 h2 ⊢
  have H := Lib.hid h2
  obtain ⟨A, c, rfl, hc1, hc2, -⟩ := h1
  obtain ⟨B, d, rfl, hd1, hd2, -⟩ := h2
  unfold maxLen at hc2 hd2
  have hb0 := below_alloc1 w (.cells #[.slice A doms.length c, .slice B tabs.length d] 25)
  have C0 := Lib.hid (Cs.new w [.slice A doms.length c, .slice B tabs.length d] 25)
  have hz0 : (w.alloc (.cells #[.slice A doms.length c, .slice B tabs.length d] 25)).heap.size = w.heap.size + 1 := by simp
  change Hid (Cs (w.alloc (.cells #[.slice A doms.length c, .slice B tabs.length d] 25)) _ _) at C0
  generalize hw0 : w.alloc (.cells #[.slice A doms.length c, .slice B tabs.length d] 25) = w0 at *
  have hb1 := below_alloc1 w0 (.cells #[.string ⟨#[]⟩, .int .i64 0, .bool false, .slice none 0 0, .slice none 0 0] 59)
  have C1 := Lib.hid (Cs.new w0 [.string ⟨#[]⟩, .int .i64 0, .bool false, .slice none 0 0, .slice none 0 0] 59)
  change Hid (Cs (w0.alloc (.cells #[.string ⟨#[]⟩, .int .i64 0, .bool false, .slice none 0 0, .slice none 0 0] 59)) _ _) at C1
  rw [hz0] at C1
  have C0' := Lib.hid (C0.out.next hb1)
  have k1 := C0'.out.at 1 rfl
  have hb01 := bx hb0 hb1
  generalize hw1 : w0.alloc (.cells #[.string ⟨#[]⟩, .int .i64 0, .bool false, .slice none 0 0, .slice none 0 0] 59) = w1 at *
  generalize hR : findT tabs s = R
  have HR := Lib.hid hR
  clear hR
  go_enter Tryz.func41, Tryz.ntmps41
  go_wp2
  go_loopw [10] (fun i wr => ∃ k : Nat, k ≤ tabs.length ∧ i = .int .i64 k ∧ Hid ((tabs.take k).find? (fun t => sameS t.name s) = none) ∧ Hid (Cs wr (w.heap.size + 1) [.string ⟨#[]⟩, .int .i64 0, .bool false, .slice none 0 0, .slice none 0 0]) ∧ Hid (Cs wr w.heap.size [.slice A doms.length c, .slice B tabs.length d]) ∧ Below w.heap.size w wr) (fun i _ => tabs.length - (intOf i).toNat)
  case atStart => exact ⟨0, Nat.zero_le _, rfl, rfl, C1, C0', hb01⟩
  case round =>
    clear hw0 hw1 hb0 hb1 hb01 k1
    obtain ⟨k, hk, rfl, hf, CR, CB, hbl⟩ := hrel
    have r0 := CR.out.at 0 rfl
    have r1 := CR.out.at 1 rfl
    have r2 := CR.out.at 2 rfl
    have r3 := CR.out.at 3 rfl
    have r4 := CR.out.at 4 rfl
    have f0 := CR.out.2.2 0 (by decide)
    have f1 := CR.out.2.2 1 (by decide)
    have f2 := CR.out.2.2 2 (by decide)
    have f3 := CR.out.2.2 3 (by decide)
    have f4 := CR.out.2.2 4 (by decide)
    have k1 := CB.out.at 1 rfl
    by_cases hlt : k < tabs.length
    · obtain ⟨b, o, nm, pol, comp, ins, rules, vi, vr, rfl, hSb, hx, d1, d2, d3, d4, d5, hi, hr⟩ := H.out.tab_at hlt
      have c1 := (hbl.cell (p := ⟨b, o + k * 5, none⟩) hSb).trans d1
      have c2 := (hbl.cell (p := ⟨b, o + k * 5 + 1, none⟩) hSb).trans d2
      have c3 := (hbl.cell (p := ⟨b, o + k * 5 + 2, none⟩) hSb).trans d3
      have c4 := (hbl.cell (p := ⟨b, o + k * 5 + 3, none⟩) hSb).trans d4
      have c5 := (hbl.cell (p := ⟨b, o + k * 5 + 4, none⟩) hSb).trans d5
      have HT : Hid (TabAt w (Old w) ⟨nm, pol, comp, ins, rules⟩ (.agg #[.string nm, .int .i64 pol, .bool comp, vi, vr])) := ⟨_, _, rfl, hi, hr⟩
      obtain ⟨Ai, ci, rfl, -, -⟩ := hi.form
      obtain ⟨Ar, cr, rfl, -, -⟩ := hr.form
      clear hi hr d1 d2 d3 d4 d5
      have hk0 : (0 : Int) ≤ k := by omega
      have hk1 : (k : Int) < tabs.length := by omega
      by_cases hq : (nm.toList == s.toList) = true
      · have HF : Hid (R = some ⟨nm, pol, comp, ins, rules⟩) := by show _ = _; rw [← HR.out]; exact find_at hf.out hx.out hq
        go_wp2
        (try simp only [Exit.inBlock, Exit.then])
        refine bodyPost_ret (ret_tabB (b := w.heap.size + 1) rfl rfl (((((CR.out.set 0 (by simp) _).set 1 (by simp) _).set 2 (by simp) _).set 3 (by simp) _).set 4 (by simp) _)) rfl ?_
        unfold FindTPost
        rw [HF.out]
        refine ⟨_, rfl, HT.out.onOld ?_, ?_⟩ <;> exact ((((hbl.setCell (by simp) _).setCell (by simp) _).setCell (by simp) _).setCell (by simp) _).setCell (by simp) _
      · have hq' : (nm.toList == s.toList) = false := by simpa using hq
        have HN := Lib.hid (find_more (p := fun t : TabD => sameS t.name s) hf.out hx.out hq')
        clear hq
        go_wp2
        exact ⟨⟨k + 1, by omega, by go_num, HN, CR, CB, hbl⟩, by simp [intOf]; omega⟩
    · have HF : Hid (R = none) := by
        show _ = _
        have := hf.out
        rw [List.take_of_length_le (by omega)] at this
        rw [← HR.out]; exact this
      go_wp2
      (try simp only [Exit.inBlock, Exit.then])
      refine bodyPost_ret (ret_tabB (b := w.heap.size + 1) rfl rfl (((((CR.out.set 0 (by simp) _).set 1 (by simp) _).set 2 (by simp) _).set 3 (by simp) _).set 4 (by simp) _)) rfl ?_
      unfold FindTPost
      rw [HF.out]
      exact ⟨_, rfl, ⟨_, _, rfl, Sl.nil, Sl.nil⟩, ((((hbl.setCell (by simp) _).setCell (by simp) _).setCell (by simp) _).setCell (by simp) _).setCell (by simp) _⟩

set_option maxRecDepth 100000 in
set_option maxHeartbeats 1000000 in
theorem ref_IsDomain (nm : ByteArray) (lo hi : Int) (w : World) (hs : nm.size ≤ 140737488355328) :
    Calls Tryz.prog 27 #[.agg #[.string nm, .int .i64 lo, .int .i64 hi]] w fun e w' => e = .returned (.bool (goodD (nm, lo, hi))) ∧ Below w.heap.size w w' := by
  have hw0 := below_alloc1 w (.cells #[.string nm, .int .i64 lo, .int .i64 hi] 69)
  have C0 := Lib.hid (Cs.new w [.string nm, .int .i64 lo, .int .i64 hi] 69)
  have c0 := C0.out.at 0 rfl
  have c1 := C0.out.at 1 rfl
  have c2 := C0.out.at 2 rfl
  have HE : Hid (goodD (nm, lo, hi) = (nameB nm && inBd lo && inBd hi && decide (lo ≤ hi))) := by
    show _ = _
    unfold goodD inBd
    cases nameB nm <;> simp
    by_cases h1 : -1000000 ≤ lo <;> by_cases h2 : lo ≤ hi <;> by_cases h3 : hi ≤ 1000000 <;> simp [h1, h2, h3] <;> omega
  generalize goodD (nm, lo, hi) = R at *
  go_enter Tryz.func27, Tryz.ntmps27
  go_wp2_with fail
  change Cs (w.alloc (.cells #[.string nm, .int .i64 lo, .int .i64 hi] 69)) _ _ at C0
  generalize w.alloc (.cells #[.string nm, .int .i64 lo, .int .i64 hi] 69) = w0 at *
  refine (ref_IsName nm _ hs).mono ?_
  rintro e w1 ⟨rfl, hb1⟩
  have C1 := Lib.hid (Cs.next C0 hb1)
  have d1 := C1.out.at 1 rfl
  have d2 := C1.out.at 2 rfl
  have B1 := Lib.hid (bx hw0 hb1)
  clear c0 c1 c2 hw0 hb1
  cases hN : nameB nm
  · have HE' : Hid (R = false) := by show R = false; rw [HE.out, hN]; rfl
    clear HE
    go_wp2
    go_ret
    exact ⟨ret_bool HE'.out.symm, B1.out⟩
  · rw [hN] at HE
    clear hN
    go_wp2_with fail
    refine (ref_isNumber lo _).mono ?_
    rintro e w2 ⟨rfl, rfl⟩
    rw [numB_eq]
    cases h1 : inBd lo
    · have HE' : Hid (R = false) := by show R = false; rw [HE.out, h1]; rfl
      clear HE h1
      go_wp2
      go_ret
      exact ⟨ret_bool HE'.out.symm, B1.out⟩
    · rw [h1] at HE
      clear h1
      go_wp2_with fail
      refine (ref_isNumber hi _).mono ?_
      rintro e w2 ⟨rfl, rfl⟩
      rw [numB_eq]
      cases h2 : inBd hi
      · have HE' : Hid (R = false) := by show R = false; rw [HE.out, h2]; rfl
        clear HE h2
        go_wp2
        go_ret
        exact ⟨ret_bool HE'.out.symm, B1.out⟩
      · rw [h2] at HE
        clear h2
        by_cases h3 : lo ≤ hi
        · have HE' : Hid (R = true) := by show R = true; rw [HE.out]; simp [h3]
          clear HE
          go_wp2
          go_ret
          exact ⟨ret_bool HE'.out.symm, B1.out⟩
        · have HE' : Hid (R = false) := by show R = false; rw [HE.out]; simp [h3]
          have h3' : hi < lo := by omega
          clear HE
          go_wp2
          go_ret
          exact ⟨ret_bool (by rw [HE'.out]; simp [h3]), B1.out⟩

set_option maxRecDepth 100000 in
set_option maxHeartbeats 2000000 in
theorem ref_boxOf (b : BookD) (t : TabD) (v vt : Value) (w : World) (h : BookAt w (Old w) b v) (ht : TabAt w (Old w) t vt) (hs : smallB b) (hl : t.ins.length ≤ 3) (hgd : ∀ t, t ∈ b.tabs → goodT t = true) :
    Calls Tryz.prog 30 #[v, vt] w (BothPost (boxV b t).1 (boxV b t).2 w) := by
  have HS := Lib.hid hs
  have HB := Lib.hid h
  have HGD := Lib.hid hgd
  clear hs hgd
  have HNO : Hid (∀ w', boxOk b t.ins = false → Below w.heap.size w w' → BothPost (boxV b t).1 (boxV b t).2 w (.returned (.tuple #[.slice none 0 0, .bool false])) w') := fun w' h1 h2 => BoxPost.no h1 h2
  have HYES : Hid (∀ w' v, boxOk b t.ins = true → Sl Enc.rng.slice w' (From w.heap.size w') (boxL b t.ins) v → Below w.heap.size w w' → BothPost (boxV b t).1 (boxV b t).2 w (.returned (.tuple #[v, .bool true])) w') := fun w' v h1 h2 h3 => BoxPost.yes h1 h2 h3
  generalize boxV b t = R at *
  obtain ⟨nm, pol, comp, ins, rules⟩ := t
  obtain ⟨vd, vtb, rfl, h1, h2⟩ := h
  obtain ⟨vi, vr, rfl, hi, hr⟩ := ht
  simp only at hi hr hl HNO HYES
  have HI := Lib.hid hi
  obtain ⟨A, c, rfl, hc1, hc2, -⟩ := h1
  obtain ⟨B, d, rfl, hd1, hd2, -⟩ := h2
  obtain ⟨Ai, ci, rfl, hi1, hi2, -⟩ := hi
  obtain ⟨Ar, cr, rfl, hr1, hr2, -⟩ := hr
  unfold maxLen at hc2 hd2 hi2
  have hb0 := below_alloc1 w (.cells #[.slice A b.doms.length c, .slice B b.tabs.length d] 25)
  have C0 := Lib.hid (Cs.new w [.slice A b.doms.length c, .slice B b.tabs.length d] 25)
  have hz0 : (w.alloc (.cells #[.slice A b.doms.length c, .slice B b.tabs.length d] 25)).heap.size = w.heap.size + 1 := by simp
  change Hid (Cs (w.alloc (.cells #[.slice A b.doms.length c, .slice B b.tabs.length d] 25)) _ _) at C0
  generalize hw0 : w.alloc (.cells #[.slice A b.doms.length c, .slice B b.tabs.length d] 25) = w0 at *
  have hb1 := below_alloc1 w0 (.cells #[.string nm, .int .i64 pol, .bool comp, .slice Ai ins.length ci, .slice Ar rules.length cr] 59)
  have C1 := Lib.hid (Cs.new w0 [.string nm, .int .i64 pol, .bool comp, .slice Ai ins.length ci, .slice Ar rules.length cr] 59)
  change Hid (Cs (w0.alloc (.cells #[.string nm, .int .i64 pol, .bool comp, .slice Ai ins.length ci, .slice Ar rules.length cr] 59)) _ _) at C1
  rw [hz0] at C1
  have C01 := Lib.hid (C0.out.next hb1)
  have hb01 := bx hb0 hb1
  generalize hw1 : w0.alloc (.cells #[.string nm, .int .i64 pol, .bool comp, .slice Ai ins.length ci, .slice Ar rules.length cr] 59) = w1 at *
  have k3 := C1.out.at 3 rfl
  go_enter Tryz.func30, Tryz.ntmps30
  go_wp2
  go_loopw [6, 17] (fun u i wr => ∃ k : Nat, k ≤ ins.length ∧ i = .int .i64 k ∧ Hid (OwnG Enc.rng.slice wr w1.heap.size w1.heap.size 77 u (boxL b (ins.take k))) ∧ Hid (boxOk b (ins.take k) = true) ∧ Hid (Cs wr w.heap.size [.slice A b.doms.length c, .slice B b.tabs.length d]) ∧ Below w1.heap.size w1 wr) (fun _ i _ => ins.length - (intOf i).toNat)
  case atStart => exact ⟨0, Nat.zero_le _, rfl, OwnG.nil, rfl, C01, Below.refl _ _⟩
  case round =>
    clear hw0 hw1 k3 hb0 hb1
    obtain ⟨k, hk, rfl, HO, HK, CB, hbl⟩ := hrel
    have hb := bx hb01 hbl
    have hsz1 := hbl.size
    by_cases hlt : k < ins.length
    · obtain ⟨bb, o, x, rfl, _, hx, c1⟩ := (HI.out.onOld hb).str_at hlt
      have HBk := Lib.hid (HB.out.onOld hb)
      have kB0 := CB.out.at 0 rfl
      have kB1 := CB.out.at 1 rfl
      have HRE := Lib.hid (rngO_eq b x)
      have hbr := below_alloc1 wr (.cells #[.int .i64 0, .int .i64 0] 107)
      have CR := Lib.hid (Cs.new wr [.int .i64 0, .int .i64 0] 107)
      change Hid (Cs (wr.alloc (.cells #[.int .i64 0, .int .i64 0] 107)) _ _) at CR
      have CBr := Lib.hid (CB.out.next hbr)
      have hb0r := bx hb hbr
      have HBr := Lib.hid (HBk.out.onOld hbr)
      clear kB0 kB1
      have kB0 := CBr.out.at 0 rfl
      have kB1 := CBr.out.at 1 rfl
      generalize hwr1 : wr.alloc (.cells #[.int .i64 0, .int .i64 0] 107) = wr1 at *
      go_wp2_with fail
      clear hwr1
      refine (ref_domainOf b x _ _ HBr.out).mono ?_
      rintro e w2 ⟨rfl, hb2⟩
      have hbq2 := bx hbr hb2
      have CR2 := Lib.hid (CR.out.next hb2)
      have CB2 := Lib.hid (CBr.out.next hb2)
      have HB2 := Lib.hid (HBr.out.onOld hb2)
      cases ha : findD b.doms x with
      | some dd =>
        obtain ⟨dn, lo, hi⟩ := dd
        have HRE2 : Hid (rngO b x = if inBd lo && inBd hi then some (lo, hi) else none) := by show _ = _; rw [HRE.out]; unfold allO; rw [ha]
        clear ha HRE
        simp only [Option.getD_some, Option.isSome_some, domV]
        have hbz := below_alloc1 w2 (.cells #[.string dn, .int .i64 lo, .int .i64 hi] 69)
        have CN := Lib.hid (Cs.new w2 [.string dn, .int .i64 lo, .int .i64 hi] 69)
        change Hid (Cs (w2.alloc (.cells #[.string dn, .int .i64 lo, .int .i64 hi] 69)) _ _) at CN
        have CRz := Lib.hid (CR2.out.next hbz)
        have hbqz := bx hbq2 hbz
        have q1 := CN.out.at 1 rfl
        have q2 := CN.out.at 2 rfl
        have r0 := CRz.out.at 0 rfl
        have r1 := CRz.out.at 1 rfl
        have f0 := CRz.out.2.2 0 (by decide)
        have f1 := CRz.out.2.2 1 (by decide)
        generalize hwa : w2.alloc (.cells #[.string dn, .int .i64 lo, .int .i64 hi] 69) = wa at *
        have CQ := Lib.hid ((CRz.out.set 0 (by simp) (.int .i64 lo)).set 1 (by simp) (.int .i64 hi))
        have hbq : Below wr.heap.size wr ((wa.setCell ⟨wr.heap.size, 0, none⟩ (.int .i64 lo)).setCell ⟨wr.heap.size, 1, none⟩ (.int .i64 hi)) := (hbqz.setCell (by simp) _).setCell (by simp) _
        have t0 := CQ.out.at 0 rfl
        have t1 := CQ.out.at 1 rfl
        generalize hwq : (wa.setCell ⟨wr.heap.size, 0, none⟩ (.int .i64 lo)).setCell ⟨wr.heap.size, 1, none⟩ (.int .i64 hi) = wq at *
        go_wp2_with fail
        clear hwa hwq q1 q2 r0 r1 f0 f1
        refine (ref_isNumber lo _).mono ?_
        rintro e w9 ⟨rfl, rfl⟩
        rw [numB_eq]
        have hb0q := bx hb hbq
        have hb1q := bx hbl hbq
        cases h3 : inBd lo
        · have HN : Hid (boxOk b ins = false) := box_no hx.out (by rw [HRE2.out, h3]; rfl)
          clear h3
          go_wp2
          go_ret2
          exact HNO.out _ HN.out hb0q
        · have HRE3 : Hid (rngO b x = if inBd hi then some (lo, hi) else none) := by show _ = _; rw [HRE2.out, h3]; rfl
          clear h3 HRE2
          go_wp2_with fail
          refine (ref_isNumber hi _).mono ?_
          rintro e w9 ⟨rfl, rfl⟩
          rw [numB_eq]
          cases h4 : inBd hi
          · have HN : Hid (boxOk b ins = false) := box_no hx.out (by rw [HRE3.out, h4]; rfl)
            clear h4
            go_wp2
            go_ret2
            exact HNO.out _ HN.out hb0q
          · have HM := Lib.hid (box_more (r := (lo, hi)) hx.out HK.out (by rw [HRE3.out, h4]; rfl))
            clear h4 HRE3
            have CB4 := Lib.hid (CB.out.next hbq)
            have HO4 := Lib.hid (HO.out.next hbq)
            have h5 := below_alloc1 wq (.cells #[.int .i64 lo, .int .i64 hi] 107)
            have S5 := Lib.hid (one_rng wq lo hi 107)
            have hz5 : (wq.alloc (.cells #[.int .i64 lo, .int .i64 hi] 107)).heap.size = wq.heap.size + 1 := by simp
            have h6 := below_alloc1 (wq.alloc (.cells #[.int .i64 lo, .int .i64 hi] 107)) (.cells #[.slice (some ⟨wq.heap.size, 0, none⟩) 1 1] 77)
            have h46 := bx h5 h6
            have HO6 := Lib.hid ((HO4.out.next h5).next h6)
            have CB6 := Lib.hid (CB4.out.next h46)
            have hb16 := bx hb1q h46
            have HY : Hid (Enc.rng.slice.rd ((wq.alloc (.cells #[.int .i64 lo, .int .i64 hi] 107)).alloc (.cells #[.slice (some ⟨wq.heap.size, 0, none⟩) 1 1] 77)) (Off w1.heap.size ((wq.alloc (.cells #[.int .i64 lo, .int .i64 hi] 107)).alloc (.cells #[.slice (some ⟨wq.heap.size, 0, none⟩) 1 1] 77)) u6) [(lo, hi)] [.slice (some ⟨wq.heap.size, 0, none⟩) 1 1]) :=
              ⟨_, rfl, (S5.out.on h6).more (off_new HO4.out hb1q.size (Nat.le_refl _))⟩
            have hk3 : (boxL b (ins.take k)).length ≤ 3 := by
              unfold boxL; rw [List.length_map, List.length_take]; omega
            have hsz16 := hb16.size
            have hcell := cell_one_new (wq.alloc (.cells #[.int .i64 lo, .int .i64 hi] 107)) (.slice (some ⟨wq.heap.size, 0, none⟩) 1 1) 77
            rw [hz5] at hcell
            have HC := Lib.hid hcell
            clear hcell
            go_wp2_with (at_builtin; refine wpList_append_one (E := Enc.rng.slice) _ rfl _ _ 63 rfl w1.heap.size w1.heap.size 77 24 (.slice none 0 0) under_box infoSet rfl (by decide) _ _ rfl HO6.out ⟨wq.heap.size + 1, 0, none⟩ [(lo, hi)] [.slice (some ⟨wq.heap.size, 0, none⟩) 1 1] rfl HY.out HC.out (by omega) (by unfold maxLen; omega) hsz16 ?_; intro v' w7 hown' hgrow7 hmv7)
            refine ⟨⟨k + 1, by omega, by go_num, ?_, HM.out.1, CB6.out.keep (hgrow7.block _ CB6.out.1 (fun e => by have := (HO6.out.lt _ e.symm).1; have := C1.out.1; omega)) hgrow7.size, hb16.grown hgrow7 hsz16 (fun _ hr => (HO6.out.lt _ hr).1)⟩, by simp [intOf]; omega⟩
            show OwnG _ _ _ _ _ _ _
            rw [HM.out.2]
            exact hown'
      | none =>
        have HRE1 : Hid (rngO b x = match (findT b.tabs x).map spanV with | some r => if inBd r.1 && inBd r.2 then some r else none | none => none) := by show _ = _; rw [HRE.out]; unfold allO; rw [ha]; rfl
        clear ha HRE
        simp only [Option.getD_none, Option.isSome_none, domV, zeroD]
        have hbz := below_alloc1 w2 (.cells #[.string ⟨#[]⟩, .int .i64 0, .int .i64 0] 69)
        have hbqz := bx hbq2 hbz
        have CRz := Lib.hid (CR2.out.next hbz)
        have CBz := Lib.hid (CB2.out.next hbz)
        have HBz := Lib.hid (HB2.out.onOld hbz)
        clear kB0 kB1
        have kB0 := CBz.out.at 0 rfl
        have kB1 := CBz.out.at 1 rfl
        go_wp2_with fail
        generalize hwa : w2.alloc (.cells #[.string ⟨#[]⟩, .int .i64 0, .int .i64 0] 69) = wa at *
        clear hwa
        refine (ref_tableNamed b x _ _ HBz.out).mono ?_
        rintro e w3 ⟨vt3, rfl, ht3, hb3⟩
        have HT := Lib.hid ht3
        obtain ⟨vi, vr, rfl, hi3, hr3⟩ := ht3
        obtain ⟨Ai3, ci3, rfl, -, -⟩ := hi3.form
        obtain ⟨Ar3, cr3, rfl, -, -⟩ := hr3.form
        clear hi3 hr3 kB0 kB1
        generalize hnt : (findT b.tabs x).getD zeroT = nt at *
        have hbz2 := below_alloc1 w3 (.cells #[.string nt.name, .int .i64 nt.pol, .bool nt.comp, .slice Ai3 nt.ins.length ci3, .slice Ar3 nt.rules.length cr3] 59)
        have CN := Lib.hid (Cs.new w3 [.string nt.name, .int .i64 nt.pol, .bool nt.comp, .slice Ai3 nt.ins.length ci3, .slice Ar3 nt.rules.length cr3] 59)
        change Hid (Cs (w3.alloc (.cells #[.string nt.name, .int .i64 nt.pol, .bool nt.comp, .slice Ai3 nt.ins.length ci3, .slice Ar3 nt.rules.length cr3] 59)) _ _) at CN
        have hbq3 := bx hbqz (bx hb3 hbz2)
        have CR3 := Lib.hid (CRz.out.next (bx hb3 hbz2))
        have HT4 := Lib.hid (HT.out.onOld hbz2)
        have q0 := CN.out.at 0 rfl
        have q1 := CN.out.at 1 rfl
        have q2 := CN.out.at 2 rfl
        have q3 := CN.out.at 3 rfl
        have q4 := CN.out.at 4 rfl
        generalize hwb : w3.alloc (.cells #[.string nt.name, .int .i64 nt.pol, .bool nt.comp, .slice Ai3 nt.ins.length ci3, .slice Ar3 nt.rules.length cr3] 59) = wb at *
        cases hf : findT b.tabs x with
        | none =>
          have HN : Hid (boxOk b ins = false) := box_no hx.out (by rw [HRE1.out, hf]; rfl)
          clear hf HRE1 hnt
          simp only [Option.isSome_none]
          go_wp2
          go_ret2
          exact HNO.out _ HN.out (bx hb hbq3)
        | some tt =>
          have hte : nt = tt := by rw [← hnt, hf]; rfl
          subst hte
          have HGT : Hid (goodT nt = true) := HGD.out nt (findT_some hf).1
          have HRE2' : Hid (rngO b x = if inBd (spanV nt).1 && inBd (spanV nt).2 then some (spanV nt) else none) := by show _ = _; rw [HRE1.out, hf]; rfl
          clear hf HRE1 hnt
          simp only [Option.isSome_some]
          go_wp2_with fail
          clear hwb
          refine (ref_SpanOf nt _ _ HT4.out HGT.out).mono ?_
          rintro e w5 ⟨rfl, hb5⟩
          obtain ⟨⟨lo, hi⟩, hsp⟩ : ∃ q, q = spanV nt := ⟨_, rfl⟩
          rw [← hsp] at HRE2' ⊢
          have HRE2 : Hid (rngO b x = if inBd lo && inBd hi then some (lo, hi) else none) := HRE2'
          clear hsp HRE2'
          simp only
          have hbq5 := bx hbq3 hb5
          have CR5 := Lib.hid (CR3.out.next hb5)
          have r0 := CR5.out.at 0 rfl
          have r1 := CR5.out.at 1 rfl
          have f0 := CR5.out.2.2 0 (by decide)
          have f1 := CR5.out.2.2 1 (by decide)
          have CQ := Lib.hid ((CR5.out.set 0 (by simp) (.int .i64 lo)).set 1 (by simp) (.int .i64 hi))
          have hbq : Below wr.heap.size wr ((w5.setCell ⟨wr.heap.size, 0, none⟩ (.int .i64 lo)).setCell ⟨wr.heap.size, 1, none⟩ (.int .i64 hi)) := (hbq5.setCell (by simp) _).setCell (by simp) _
          have t0 := CQ.out.at 0 rfl
          have t1 := CQ.out.at 1 rfl
          generalize hwq : (w5.setCell ⟨wr.heap.size, 0, none⟩ (.int .i64 lo)).setCell ⟨wr.heap.size, 1, none⟩ (.int .i64 hi) = wq at *
          go_wp2_with fail
          clear hwq r0 r1 f0 f1 q0 q1 q2 q3 q4
          refine (ref_isNumber lo _).mono ?_
          rintro e w9 ⟨rfl, rfl⟩
          rw [numB_eq]
          have hb0q := bx hb hbq
          have hb1q := bx hbl hbq
          cases h3 : inBd lo
          · have HN : Hid (boxOk b ins = false) := box_no hx.out (by rw [HRE2.out, h3]; rfl)
            clear h3
            go_wp2
            go_ret2
            exact HNO.out _ HN.out hb0q
          · have HRE3 : Hid (rngO b x = if inBd hi then some (lo, hi) else none) := by show _ = _; rw [HRE2.out, h3]; rfl
            clear h3 HRE2
            go_wp2_with fail
            refine (ref_isNumber hi _).mono ?_
            rintro e w9 ⟨rfl, rfl⟩
            rw [numB_eq]
            cases h4 : inBd hi
            · have HN : Hid (boxOk b ins = false) := box_no hx.out (by rw [HRE3.out, h4]; rfl)
              clear h4
              go_wp2
              go_ret2
              exact HNO.out _ HN.out hb0q
            · have HM := Lib.hid (box_more (r := (lo, hi)) hx.out HK.out (by rw [HRE3.out, h4]; rfl))
              clear h4 HRE3
              have CB4 := Lib.hid (CB.out.next hbq)
              have HO4 := Lib.hid (HO.out.next hbq)
              have h5 := below_alloc1 wq (.cells #[.int .i64 lo, .int .i64 hi] 107)
              have S5 := Lib.hid (one_rng wq lo hi 107)
              have hz5 : (wq.alloc (.cells #[.int .i64 lo, .int .i64 hi] 107)).heap.size = wq.heap.size + 1 := by simp
              have h6 := below_alloc1 (wq.alloc (.cells #[.int .i64 lo, .int .i64 hi] 107)) (.cells #[.slice (some ⟨wq.heap.size, 0, none⟩) 1 1] 77)
              have h46 := bx h5 h6
              have HO6 := Lib.hid ((HO4.out.next h5).next h6)
              have CB6 := Lib.hid (CB4.out.next h46)
              have hb16 := bx hb1q h46
              have HY : Hid (Enc.rng.slice.rd ((wq.alloc (.cells #[.int .i64 lo, .int .i64 hi] 107)).alloc (.cells #[.slice (some ⟨wq.heap.size, 0, none⟩) 1 1] 77)) (Off w1.heap.size ((wq.alloc (.cells #[.int .i64 lo, .int .i64 hi] 107)).alloc (.cells #[.slice (some ⟨wq.heap.size, 0, none⟩) 1 1] 77)) u6) [(lo, hi)] [.slice (some ⟨wq.heap.size, 0, none⟩) 1 1]) :=
                ⟨_, rfl, (S5.out.on h6).more (off_new HO4.out hb1q.size (Nat.le_refl _))⟩
              have hk3 : (boxL b (ins.take k)).length ≤ 3 := by
                unfold boxL; rw [List.length_map, List.length_take]; omega
              have hsz16 := hb16.size
              have hcell := cell_one_new (wq.alloc (.cells #[.int .i64 lo, .int .i64 hi] 107)) (.slice (some ⟨wq.heap.size, 0, none⟩) 1 1) 77
              rw [hz5] at hcell
              have HC := Lib.hid hcell
              clear hcell
              go_wp2_with (at_builtin; refine wpList_append_one (E := Enc.rng.slice) _ rfl _ _ 63 rfl w1.heap.size w1.heap.size 77 24 (.slice none 0 0) under_box infoSet rfl (by decide) _ _ rfl HO6.out ⟨wq.heap.size + 1, 0, none⟩ [(lo, hi)] [.slice (some ⟨wq.heap.size, 0, none⟩) 1 1] rfl HY.out HC.out (by omega) (by unfold maxLen; omega) hsz16 ?_; intro v' w7 hown' hgrow7 hmv7)
              refine ⟨⟨k + 1, by omega, by go_num, ?_, HM.out.1, CB6.out.keep (hgrow7.block _ CB6.out.1 (fun e => by have := (HO6.out.lt _ e.symm).1; have := C1.out.1; omega)) hgrow7.size, hb16.grown hgrow7 hsz16 (fun _ hr => (HO6.out.lt _ hr).1)⟩, by simp [intOf]; omega⟩
              show OwnG _ _ _ _ _ _ _
              rw [HM.out.2]
              exact hown'
    · have e : ins.take k = ins := List.take_of_length_le (by omega)
      rw [e] at HO HK
      go_wp2
      go_ret2
      exact HYES.out _ _ HK.out ((HO.out.sl (Nat.le_refl _)).more (fun k hk => ⟨Nat.le_trans hb01.size hk.1, hk.2⟩)) hb

end Go.Proofs.YtmdljknlbmlacabGreatDoor
namespace Go.Proofs.YtmdljknlbmlacabGreatDoor

def hangS (ts : List TabD) (f : ByteArray → Bool) (a : ByteArray) : Bool := ((findT ts a).getD zeroT).ins.any fun s => (findT ts s).isSome && f s
def hangsV (ts : List TabD) (on : ByteArray) : Nat → ByteArray → Bool
  | 0, a => hangS ts (fun s => sameS s on) a
  | n + 1, a => hangS ts (fun s => sameS s on || hangsV ts on n s) a

theorem hangS_iff {ts : List TabD} (hn : (namesT ts).Nodup) {f : ByteArray → Bool} {a : ByteArray} : hangS ts f a = true ↔ ∃ t s, t ∈ ts ∧ t.name = a ∧ s ∈ t.ins ∧ s ∈ namesT ts ∧ f s = true := by
  unfold hangS
  rw [List.any_eq_true]
  constructor
  · rintro ⟨s, h1, h2⟩
    rw [Bool.and_eq_true, findT_isSome] at h2
    cases hf : findT ts a with
    | none => rw [hf] at h1; simp [zeroT] at h1
    | some t => rw [hf] at h1; exact ⟨t, s, (findT_some hf).1, (findT_some hf).2, h1, h2.1, h2.2⟩
  · rintro ⟨t, s, h1, rfl, h3, h4, h5⟩
    rw [findT_mem hn h1]
    exact ⟨s, h3, by rw [Bool.and_eq_true, findT_isSome]; exact ⟨h4, h5⟩⟩
theorem hangs_before {ts : List TabD} (hn : (namesT ts).Nodup) {l : List ByteArray} (ho : orderO ts = some l) {on : ByteArray} : ∀ (n : Nat) {a : ByteArray}, hangsV ts on n a = true → ∃ i j : Nat, l[i]? = some a ∧ l[j]? = some on ∧ j < i := by
  have hu := order_nodup hn ho
  intro n
  induction n with
  | zero =>
    intro a h
    obtain ⟨t, s, h1, rfl, h3, h4, h5⟩ := (hangS_iff hn).1 h
    have := sameS_eq.1 h5
    subst this
    exact order_before hn ho h1 h3 h4
  | succ n ih =>
    intro a h
    obtain ⟨t, s, h1, rfl, h3, h4, h5⟩ := (hangS_iff hn).1 h
    obtain ⟨i, j, hi, hj, hlt⟩ := order_before hn ho h1 h3 h4
    rw [Bool.or_eq_true] at h5
    rcases h5 with h5 | h5
    · have := sameS_eq.1 h5
      subst this
      exact ⟨i, j, hi, hj, hlt⟩
    · obtain ⟨i', j', hi', hj', hlt'⟩ := ih h5
      have e : i' = j := by
        obtain ⟨h1, e1⟩ := List.getElem?_eq_some_iff.1 hi'
        obtain ⟨h2, e2⟩ := List.getElem?_eq_some_iff.1 hj
        rcases Nat.lt_trichotomy i' j with h | h | h
        · exact absurd (e1.trans e2.symm) ((List.pairwise_iff_getElem.1 hu) i' j h1 h2 h)
        · exact h
        · exact absurd (e2.trans e1.symm) ((List.pairwise_iff_getElem.1 hu) j i' h2 h1 h)
      subst e
      exact ⟨i, j', hi, hj', by omega⟩
theorem hangs_none {ts : List TabD} (hn : (namesT ts).Nodup) {l : List ByteArray} (ho : orderO ts = some l) (n : Nat) (a : ByteArray) : hangsV ts a n a = false := by
  cases h : hangsV ts a n a
  · rfl
  · obtain ⟨i, j, hi, hj, hlt⟩ := hangs_before hn ho n h
    obtain ⟨h1, e1⟩ := List.getElem?_eq_some_iff.1 hi
    obtain ⟨h2, e2⟩ := List.getElem?_eq_some_iff.1 hj
    exact absurd (e2.trans e1.symm) ((List.pairwise_iff_getElem.1 (order_nodup hn ho)) j i h2 h1 hlt)

/-- where no order is found, some names wait for one another -/
theorem order_stuck {ts : List TabD} : ∀ {n : Nat} {wait : List ByteArray}, wait.Nodup → wait.length = n → (∀ s, s ∈ wait → s ∈ namesT ts) → orderF ts n wait = none →
    ∃ w' : List ByteArray, w'.Nodup ∧ w' ≠ [] ∧ w'.length ≤ n ∧ (∀ s, s ∈ w' → s ∈ namesT ts) ∧ ts.find? (readyT w') = none := by
  intro n
  induction n with
  | zero => intro wait _ _ _ h; simp [orderF] at h
  | succ n ih =>
    intro wait hn hl hs h
    simp only [orderF] at h
    cases hf : ts.find? (readyT wait) with
    | none => exact ⟨wait, hn, by intro e; rw [e] at hl; simp at hl, by omega, hs, hf⟩
    | some t =>
      rw [hf] at h
      simp only [Option.map_eq_none_iff] at h
      have hd := dropN_length hn (ready_iff.1 (List.find?_some hf)).1
      obtain ⟨w', a1, a2, a3, a4, a5⟩ := ih (dropN_nodup t.name hn) (by omega) (fun s hs' => hs s (mem_dropN.1 hs').1) h
      exact ⟨w', a1, a2, by omega, a4, a5⟩
theorem nodup_le {l : List ByteArray} : ∀ {m : List ByteArray}, l.Nodup → m.Nodup → (∀ x, x ∈ l → x ∈ m) → l.length ≤ m.length := by
  induction l with
  | nil => intro m _ _ _; simp
  | cons a l ih =>
    intro m h1 h2 h3
    rw [List.nodup_cons] at h1
    have hd := dropN_length h2 (h3 a List.mem_cons_self)
    have := ih h1.2 (dropN_nodup a h2) (fun x hx => mem_dropN.2 ⟨h3 x (List.mem_cons_of_mem _ hx), fun e => h1.1 (e ▸ hx)⟩)
    simp; omega
def nextN (ts : List TabD) (wait : List ByteArray) (a : ByteArray) : ByteArray := (((findT ts a).getD zeroT).ins.find? (hasN wait)).getD a
def seqN (ts : List TabD) (wait : List ByteArray) (a : ByteArray) : Nat → ByteArray
  | 0 => a
  | n + 1 => nextN ts wait (seqN ts wait a n)
theorem next_facts {ts : List TabD} (hn : (namesT ts).Nodup) {wait : List ByteArray} (hs : ∀ s, s ∈ wait → s ∈ namesT ts) (hf : ts.find? (readyT wait) = none) {a : ByteArray} (ha : a ∈ wait) :
    nextN ts wait a ∈ wait ∧ ∃ t, t ∈ ts ∧ t.name = a ∧ nextN ts wait a ∈ t.ins := by
  obtain ⟨t, ht, rfl⟩ := List.mem_map.1 (hs a ha)
  have hr := List.find?_eq_none.1 hf t ht
  have hex : ∃ s, s ∈ t.ins ∧ s ∈ wait := by
    refine Classical.byContradiction fun hne => hr (ready_iff.2 ⟨ha, fun s hs' hw => hne ⟨s, hs', hw⟩⟩)
  obtain ⟨s, h1, h2⟩ := hex
  unfold nextN
  rw [findT_mem hn ht, Option.getD_some]
  cases hq : t.ins.find? (hasN wait) with
  | none => exact absurd (hasN_iff.2 h2) (by simpa using List.find?_eq_none.1 hq s h1)
  | some x => exact ⟨hasN_iff.1 (List.find?_some hq), t, ht, rfl, List.mem_of_find?_eq_some hq⟩
theorem hangs_seq {ts : List TabD} (hn : (namesT ts).Nodup) {wait : List ByteArray} (hs : ∀ s, s ∈ wait → s ∈ namesT ts) (hf : ts.find? (readyT wait) = none) {a : ByteArray} (ha : a ∈ wait) :
    (∀ i, seqN ts wait a i ∈ wait) ∧ ∀ m i, hangsV ts (seqN ts wait a (i + m + 1)) m (seqN ts wait a i) = true := by
  have h1 : ∀ i, seqN ts wait a i ∈ wait := by
    intro i
    induction i with
    | zero => exact ha
    | succ i ih => exact (next_facts hn hs hf ih).1
  refine ⟨h1, fun m => ?_⟩
  induction m with
  | zero =>
    intro i
    obtain ⟨h2, t, h3, h4, h5⟩ := next_facts hn hs hf (h1 i)
    exact (hangS_iff hn).2 ⟨t, _, h3, h4, h5, hs _ h2, sameS_refl _⟩
  | succ m ih =>
    intro i
    obtain ⟨h2, t, h3, h4, h5⟩ := next_facts hn hs hf (h1 i)
    refine (hangS_iff hn).2 ⟨t, _, h3, h4, h5, hs _ h2, ?_⟩
    have := ih (i + 1)
    rw [show i + (m + 1) + 1 = i + 1 + m + 1 from by omega, Bool.or_eq_true]
    exact .inr this
theorem hangs_more {ts : List TabD} (hn : (namesT ts).Nodup) {on : ByteArray} : ∀ (n : Nat) {a : ByteArray}, hangsV ts on n a = true → hangsV ts on (n + 1) a = true := by
  intro n
  induction n with
  | zero =>
    intro a h
    obtain ⟨t, s, h1, h2, h3, h4, h5⟩ := (hangS_iff hn).1 h
    exact (hangS_iff hn).2 ⟨t, s, h1, h2, h3, h4, by rw [Bool.or_eq_true]; exact .inl h5⟩
  | succ n ih =>
    intro a h
    obtain ⟨t, s, h1, h2, h3, h4, h5⟩ := (hangS_iff hn).1 h
    refine (hangS_iff hn).2 ⟨t, s, h1, h2, h3, h4, ?_⟩
    rw [Bool.or_eq_true] at h5 ⊢
    exact h5.imp id ih
theorem hangs_upto {ts : List TabD} (hn : (namesT ts).Nodup) {on a : ByteArray} {n : Nat} (h : hangsV ts on n a = true) : ∀ k, hangsV ts on (n + k) a = true
  | 0 => h
  | k + 1 => hangs_more hn (n + k) (hangs_upto hn h k)
theorem hangs_ring {ts : List TabD} (hn : (namesT ts).Nodup) (h4 : ts.length ≤ 4) (ho : orderO ts = none) : ∃ t, t ∈ ts ∧ hangsV ts t.name 4 t.name = true := by
  obtain ⟨wait, a1, a2, a3, a4, a5⟩ := order_stuck hn (by simp [namesT]) (fun _ h => h) ho
  cases hw : wait with
  | nil => exact absurd hw a2
  | cons a rest =>
    have ha : a ∈ wait := by rw [hw]; exact List.mem_cons_self
    obtain ⟨hm, hh⟩ := hangs_seq hn a4 a5 ha
    have hnd : ¬ ([seqN ts wait a 0, seqN ts wait a 1, seqN ts wait a 2, seqN ts wait a 3, seqN ts wait a 4] : List ByteArray).Nodup := by
      intro hnd
      have := nodup_le hnd a1 (by
        intro x hx
        simp only [List.mem_cons, List.not_mem_nil, or_false] at hx
        rcases hx with e | e | e | e | e <;> (rw [e]; exact hm _))
      simp at this; omega
    have key : ∀ i m, m ≤ 3 → seqN ts wait a i = seqN ts wait a (i + m + 1) → ∃ t, t ∈ ts ∧ hangsV ts t.name 4 t.name = true := by
      intro i m hm3 e
      obtain ⟨t, ht, hte⟩ := List.mem_map.1 (a4 _ (hm i))
      have h1 := hh m i
      rw [← e] at h1
      have h2 := hangs_upto hn h1 (4 - m)
      rw [show m + (4 - m) = 4 from by omega] at h2
      refine ⟨t, ht, ?_⟩
      rw [show t.name = seqN ts wait a i from hte]
      exact h2
    refine Classical.byContradiction fun hne => hnd ?_
    have k01 : seqN ts wait a 0 ≠ seqN ts wait a 1 := fun e => hne (key 0 0 (by omega) e)
    have k02 : seqN ts wait a 0 ≠ seqN ts wait a 2 := fun e => hne (key 0 1 (by omega) e)
    have k03 : seqN ts wait a 0 ≠ seqN ts wait a 3 := fun e => hne (key 0 2 (by omega) e)
    have k04 : seqN ts wait a 0 ≠ seqN ts wait a 4 := fun e => hne (key 0 3 (by omega) e)
    have k12 : seqN ts wait a 1 ≠ seqN ts wait a 2 := fun e => hne (key 1 0 (by omega) e)
    have k13 : seqN ts wait a 1 ≠ seqN ts wait a 3 := fun e => hne (key 1 1 (by omega) e)
    have k14 : seqN ts wait a 1 ≠ seqN ts wait a 4 := fun e => hne (key 1 2 (by omega) e)
    have k23 : seqN ts wait a 2 ≠ seqN ts wait a 3 := fun e => hne (key 2 0 (by omega) e)
    have k24 : seqN ts wait a 2 ≠ seqN ts wait a 4 := fun e => hne (key 2 1 (by omega) e)
    have k34 : seqN ts wait a 3 ≠ seqN ts wait a 4 := fun e => hne (key 3 0 (by omega) e)
    simp [k01, k02, k03, k04, k12, k13, k14, k23, k24, k34]

/-- the reference looks for a ring first, then places table by table: the order is the same -/
theorem ring_iff {ts : List TabD} (hn : (namesT ts).Nodup) (h4 : ts.length ≤ 4) : (ts.any fun t => hangsV ts t.name 4 t.name) = (orderO ts).isNone := by
  cases ho : orderO ts with
  | none =>
    obtain ⟨t, ht, hh⟩ := hangs_ring hn h4 ho
    exact List.any_eq_true.2 ⟨t, ht, hh⟩
  | some l =>
    have : (ts.any fun t => hangsV ts t.name 4 t.name) = false := by
      rw [List.any_eq_false]
      intro t _
      rw [hangs_none hn ho 4 t.name]; simp
    rw [this]; rfl

end Go.Proofs.YtmdljknlbmlacabGreatDoor
namespace Go.Proofs.YtmdljknlbmlacabGreatDoor
open Go.RowKit

set_option maxRecDepth 100000 in
set_option maxHeartbeats 2000000 in
theorem ref_hangs (b : BookD) (on : ByteArray) (hs : smallB b) : ∀ (n : Nat), n ≤ 4 → ∀ (a : ByteArray) (v : Value) (w : World), BookAt w (Old w) b v →
    Calls Tryz.prog 40 #[v, .string a, .string on, .int .i64 n] w fun e w' => e = .returned (.bool (hangsV b.tabs on n a)) ∧ Below w.heap.size w w' := by
  intro n
  induction n with
  | zero =>
    intro _
    intro a v w h
    have HB := Lib.hid h
    have HE : Hid (hangsV b.tabs on 0 a = ((findT b.tabs a).getD zeroT).ins.any fun s => (findT b.tabs s).isSome && (fun s => sameS s on) s) := rfl
    generalize hangsV b.tabs on 0 a = R at *
    have HTS := Lib.hid (findT_small hs a)
    obtain ⟨vd, vtb, rfl, h1, h2⟩ := h
    obtain ⟨A, c, rfl, hc1, hc2, -⟩ := h1
    obtain ⟨B, d, rfl, hd1, hd2, -⟩ := h2
    have hb0 := below_alloc1 w (.cells #[.slice A b.doms.length c, .slice B b.tabs.length d] 25)
    have C0 := Lib.hid (Cs.new w [.slice A b.doms.length c, .slice B b.tabs.length d] 25)
    change Hid (Cs (w.alloc (.cells #[.slice A b.doms.length c, .slice B b.tabs.length d] 25)) _ _) at C0
    generalize hw0 : w.alloc (.cells #[.slice A b.doms.length c, .slice B b.tabs.length d] 25) = w0 at *
    have HB0 := Lib.hid (HB.out.onOld hb0)
    have k0 := C0.out.at 0 rfl
    have k1 := C0.out.at 1 rfl
    go_enter Tryz.func40, Tryz.ntmps40
    go_wp2_with fail
    clear hw0
    refine (ref_tableNamed b a _ _ HB0.out).mono ?_
    rintro e w2 ⟨vt2, rfl, ht2, hb2⟩
    obtain ⟨vi, vr, rfl, hi2, hr2⟩ := ht2
    have HI2 := Lib.hid hi2
    obtain ⟨Ai, ci, rfl, hci, hcm⟩ := hi2.form
    obtain ⟨Ar, cr, rfl, -, -⟩ := hr2.form
    unfold maxLen at hcm
    clear hi2 hr2 k0 k1
    generalize (findT b.tabs a).getD zeroT = nt at *
    have hbz := below_alloc1 w2 (.cells #[.string nt.name, .int .i64 nt.pol, .bool nt.comp, .slice Ai nt.ins.length ci, .slice Ar nt.rules.length cr] 59)
    have CN := Lib.hid (Cs.new w2 [.string nt.name, .int .i64 nt.pol, .bool nt.comp, .slice Ai nt.ins.length ci, .slice Ar nt.rules.length cr] 59)
    change Hid (Cs (w2.alloc (.cells #[.string nt.name, .int .i64 nt.pol, .bool nt.comp, .slice Ai nt.ins.length ci, .slice Ar nt.rules.length cr] 59)) _ _) at CN
    have hb02 := bx hb0 (bx hb2 hbz)
    have C2 := Lib.hid (C0.out.next (bx hb2 hbz))
    have HIz := Lib.hid (HI2.out.onOld hbz)
    have q3 := CN.out.at 3 rfl
    generalize hwz : w2.alloc (.cells #[.string nt.name, .int .i64 nt.pol, .bool nt.comp, .slice Ai nt.ins.length ci, .slice Ar nt.rules.length cr] 59) = wz at *
    go_wp2
    go_loopw [24] (fun i wr => ∃ k : Nat, k ≤ nt.ins.length ∧ i = .int .i64 k ∧ Hid ((nt.ins.take k).any (fun s => (findT b.tabs s).isSome && (fun s => sameS s on) s) = false) ∧ Below wz.heap.size wz wr) (fun i _ => nt.ins.length - (intOf i).toNat)
    case atStart => exact ⟨0, Nat.zero_le _, rfl, rfl, Below.refl _ _⟩
    case round =>
      clear hwz q3
      obtain ⟨k, hk, rfl, hf, hbl⟩ := hrel
      have hb := bx hb02 hbl
      by_cases hlt : k < nt.ins.length
      · obtain ⟨bb, o, s, rfl, _, hx, c1⟩ := (HIz.out.onOld hbl).str_at hlt
        have HBr := Lib.hid (HB.out.onOld hb)
        have CBr := Lib.hid (C2.out.next hbl)
        have k0 := CBr.out.at 0 rfl
        have k1 := CBr.out.at 1 rfl
        go_wp2_with fail
        refine (ref_tableNamed b s _ _ HBr.out).mono ?_
        rintro e w3 ⟨vt3, rfl, ht3, hb3⟩
        obtain ⟨vi3, vr3, rfl, hi3, hr3⟩ := ht3
        obtain ⟨Ai3, ci3, rfl, -, -⟩ := hi3.form
        obtain ⟨Ar3, cr3, rfl, -, -⟩ := hr3.form
        clear hi3 hr3 k0 k1 c1
        generalize (findT b.tabs s).getD zeroT = ut at *
        have hbt := below_alloc1 w3 (.cells #[.string ut.name, .int .i64 ut.pol, .bool ut.comp, .slice Ai3 ut.ins.length ci3, .slice Ar3 ut.rules.length cr3] 59)
        have hblt := bx hbl (bx hb3 hbt)
        have hb0t := bx hb02 hblt
        have CBt := Lib.hid (C2.out.next hblt)
        have HBt := Lib.hid (HB.out.onOld hb0t)
        have k0 := CBt.out.at 0 rfl
        have k1 := CBt.out.at 1 rfl
        generalize hwt : w3.alloc (.cells #[.string ut.name, .int .i64 ut.pol, .bool ut.comp, .slice Ai3 ut.ins.length ci3, .slice Ar3 ut.rules.length cr3] 59) = wt at *
        have NO : Hid (((findT b.tabs s).isSome && (fun s => sameS s on) s) = false → (nt.ins.take (k + 1)).any (fun s => (findT b.tabs s).isSome && (fun s => sameS s on) s) = false) := fun hh => by rw [take_at hx.out, List.any_append, hf.out]; simpa using hh
        have YES : Hid (((findT b.tabs s).isSome && (fun s => sameS s on) s) = true → R = true) := fun hh => by rw [HE.out]; exact List.any_eq_true.2 ⟨s, List.mem_of_getElem? hx.out, hh⟩
        cases hfs : (findT b.tabs s).isSome
        · have HN := Lib.hid (NO.out (by rw [hfs]; rfl))
          clear hfs
          go_wp2
          exact ⟨⟨k + 1, by omega, by go_num, HN, hblt⟩, by simp [intOf]; omega⟩
        · by_cases hq : (s.toList == on.toList) = true
          · have HR : Hid (R = true) := YES.out (by rw [hfs]; have : sameS s on = true := hq; simp [this])
            clear hfs
            go_wp2
            go_ret
            exact ⟨ret_bool HR.out.symm, hb0t⟩
          · have hq' : (s.toList == on.toList) = false := by simpa using hq
            clear hq
            have HN := Lib.hid (NO.out (by rw [hfs]; have : sameS s on = false := hq'; simp [this]))
            clear hfs
            go_wp2
            exact ⟨⟨k + 1, by omega, by go_num, HN, hblt⟩, by simp [intOf]; omega⟩
      · have HR : Hid (R = false) := by
          show _ = _
          have := hf.out
          rw [List.take_of_length_le (by omega)] at this
          rw [HE.out]; exact this
        go_wp2
        go_ret
        exact ⟨ret_bool HR.out.symm, hb⟩
  | succ m ih =>
    intro hm4
    have IH := Lib.hid (ih (by omega))
    clear ih
    intro a v w h
    have HB := Lib.hid h
    have HE : Hid (hangsV b.tabs on (m + 1) a = ((findT b.tabs a).getD zeroT).ins.any fun s => (findT b.tabs s).isSome && (fun s => sameS s on || hangsV b.tabs on m s) s) := rfl
    generalize hangsV b.tabs on (m + 1) a = R at *
    have HTS := Lib.hid (findT_small hs a)
    obtain ⟨vd, vtb, rfl, h1, h2⟩ := h
    obtain ⟨A, c, rfl, hc1, hc2, -⟩ := h1
    obtain ⟨B, d, rfl, hd1, hd2, -⟩ := h2
    have hb0 := below_alloc1 w (.cells #[.slice A b.doms.length c, .slice B b.tabs.length d] 25)
    have C0 := Lib.hid (Cs.new w [.slice A b.doms.length c, .slice B b.tabs.length d] 25)
    change Hid (Cs (w.alloc (.cells #[.slice A b.doms.length c, .slice B b.tabs.length d] 25)) _ _) at C0
    generalize hw0 : w.alloc (.cells #[.slice A b.doms.length c, .slice B b.tabs.length d] 25) = w0 at *
    have HB0 := Lib.hid (HB.out.onOld hb0)
    have k0 := C0.out.at 0 rfl
    have k1 := C0.out.at 1 rfl
    go_enter Tryz.func40, Tryz.ntmps40
    go_wp2_with fail
    clear hw0
    refine (ref_tableNamed b a _ _ HB0.out).mono ?_
    rintro e w2 ⟨vt2, rfl, ht2, hb2⟩
    obtain ⟨vi, vr, rfl, hi2, hr2⟩ := ht2
    have HI2 := Lib.hid hi2
    obtain ⟨Ai, ci, rfl, hci, hcm⟩ := hi2.form
    obtain ⟨Ar, cr, rfl, -, -⟩ := hr2.form
    unfold maxLen at hcm
    clear hi2 hr2 k0 k1
    generalize (findT b.tabs a).getD zeroT = nt at *
    have hbz := below_alloc1 w2 (.cells #[.string nt.name, .int .i64 nt.pol, .bool nt.comp, .slice Ai nt.ins.length ci, .slice Ar nt.rules.length cr] 59)
    have CN := Lib.hid (Cs.new w2 [.string nt.name, .int .i64 nt.pol, .bool nt.comp, .slice Ai nt.ins.length ci, .slice Ar nt.rules.length cr] 59)
    change Hid (Cs (w2.alloc (.cells #[.string nt.name, .int .i64 nt.pol, .bool nt.comp, .slice Ai nt.ins.length ci, .slice Ar nt.rules.length cr] 59)) _ _) at CN
    have hb02 := bx hb0 (bx hb2 hbz)
    have C2 := Lib.hid (C0.out.next (bx hb2 hbz))
    have HIz := Lib.hid (HI2.out.onOld hbz)
    have q3 := CN.out.at 3 rfl
    generalize hwz : w2.alloc (.cells #[.string nt.name, .int .i64 nt.pol, .bool nt.comp, .slice Ai nt.ins.length ci, .slice Ar nt.rules.length cr] 59) = wz at *
    go_wp2
    go_loopw [24] (fun i wr => ∃ k : Nat, k ≤ nt.ins.length ∧ i = .int .i64 k ∧ Hid ((nt.ins.take k).any (fun s => (findT b.tabs s).isSome && (fun s => sameS s on || hangsV b.tabs on m s) s) = false) ∧ Below wz.heap.size wz wr) (fun i _ => nt.ins.length - (intOf i).toNat)
    case atStart => exact ⟨0, Nat.zero_le _, rfl, rfl, Below.refl _ _⟩
    case round =>
      clear hwz q3
      obtain ⟨k, hk, rfl, hf, hbl⟩ := hrel
      have hb := bx hb02 hbl
      by_cases hlt : k < nt.ins.length
      · obtain ⟨bb, o, s, rfl, _, hx, c1⟩ := (HIz.out.onOld hbl).str_at hlt
        have HBr := Lib.hid (HB.out.onOld hb)
        have CBr := Lib.hid (C2.out.next hbl)
        have k0 := CBr.out.at 0 rfl
        have k1 := CBr.out.at 1 rfl
        go_wp2_with fail
        refine (ref_tableNamed b s _ _ HBr.out).mono ?_
        rintro e w3 ⟨vt3, rfl, ht3, hb3⟩
        obtain ⟨vi3, vr3, rfl, hi3, hr3⟩ := ht3
        obtain ⟨Ai3, ci3, rfl, -, -⟩ := hi3.form
        obtain ⟨Ar3, cr3, rfl, -, -⟩ := hr3.form
        clear hi3 hr3 k0 k1 c1
        generalize (findT b.tabs s).getD zeroT = ut at *
        have hbt := below_alloc1 w3 (.cells #[.string ut.name, .int .i64 ut.pol, .bool ut.comp, .slice Ai3 ut.ins.length ci3, .slice Ar3 ut.rules.length cr3] 59)
        have hblt := bx hbl (bx hb3 hbt)
        have hb0t := bx hb02 hblt
        have CBt := Lib.hid (C2.out.next hblt)
        have HBt := Lib.hid (HB.out.onOld hb0t)
        have k0 := CBt.out.at 0 rfl
        have k1 := CBt.out.at 1 rfl
        generalize hwt : w3.alloc (.cells #[.string ut.name, .int .i64 ut.pol, .bool ut.comp, .slice Ai3 ut.ins.length ci3, .slice Ar3 ut.rules.length cr3] 59) = wt at *
        have NO : Hid (((findT b.tabs s).isSome && (fun s => sameS s on || hangsV b.tabs on m s) s) = false → (nt.ins.take (k + 1)).any (fun s => (findT b.tabs s).isSome && (fun s => sameS s on || hangsV b.tabs on m s) s) = false) := fun hh => by rw [take_at hx.out, List.any_append, hf.out]; simpa using hh
        have YES : Hid (((findT b.tabs s).isSome && (fun s => sameS s on || hangsV b.tabs on m s) s) = true → R = true) := fun hh => by rw [HE.out]; exact List.any_eq_true.2 ⟨s, List.mem_of_getElem? hx.out, hh⟩
        cases hfs : (findT b.tabs s).isSome
        · have HN := Lib.hid (NO.out (by rw [hfs]; rfl))
          clear hfs
          go_wp2
          exact ⟨⟨k + 1, by omega, by go_num, HN, hblt⟩, by simp [intOf]; omega⟩
        · by_cases hq : (s.toList == on.toList) = true
          · have HR : Hid (R = true) := YES.out (by rw [hfs]; have : sameS s on = true := hq; simp [this])
            clear hfs
            go_wp2
            go_ret
            exact ⟨ret_bool HR.out.symm, hb0t⟩
          · have hq' : (s.toList == on.toList) = false := by simpa using hq
            clear hq
            have hm1 : IntKind.i64.wrap (m : Int) = (m : Int) := IntWalk.i64_in _ (by omega)
            have hm2 : (0 : Int) < (m : Int) + 1 := by omega
            have HFS := Lib.hid hfs
            clear hfs
            go_wp2_with fail
            refine (IH.out s _ _ HBt.out).mono ?_
            rintro e w5 ⟨rfl, hb5⟩
            have hblt5 := bx hblt hb5
            cases hh : hangsV b.tabs on m s
            · have HN := Lib.hid (NO.out (by rw [HFS.out, hh]; have : sameS s on = false := hq'; simp [this]))
              clear hh
              go_wp2
              exact ⟨⟨k + 1, by omega, by go_num, HN, hblt5⟩, by simp [intOf]; omega⟩
            · have HR : Hid (R = true) := YES.out (by rw [HFS.out, hh]; simp)
              clear hh
              go_wp2
              go_ret
              exact ⟨ret_bool HR.out.symm, bx hb02 hblt5⟩
      · have HR : Hid (R = false) := by
          show _ = _
          have := hf.out
          rw [List.take_of_length_le (by omega)] at this
          rw [HE.out]; exact this
        go_wp2
        go_ret
        exact ⟨ret_bool HR.out.symm, hb⟩

end Go.Proofs.YtmdljknlbmlacabGreatDoor
namespace Go.Proofs.YtmdljknlbmlacabGreatDoor
open Go.RowKit Go.Shelf

/-- of the tables, the name of the first that is ready; no text, if there is none -/
def bestN (l : List TabD) (wait : List ByteArray) : ByteArray := ((l.find? (readyT wait)).map (·.name)).getD noS
theorem name_some {t : TabD} (h : goodT t = true) : (t.name.toList == noS.toList) = false := by
  have h1 := (goodT_iff.1 h).1
  unfold nameB at h1
  simp only [Bool.and_eq_true, decide_eq_true_eq] at h1
  rw [beq_eq_false_iff_ne]
  intro e
  have h2 := h1.1.1
  have : t.name = noS := sameS_eq.1 (by unfold sameS; rw [e]; simp)
  rw [this] at h2
  exact absurd h2 (by decide)
theorem best_at {l : List TabD} {wait : List ByteArray} {k : Nat} {t : TabD} (h : l[k]? = some t) : bestN (l.take (k + 1)) wait = match (l.take k).find? (readyT wait) with | some u => u.name | none => if readyT wait t then t.name else noS := by
  unfold bestN
  rw [take_at h, List.find?_append]
  cases hf : (l.take k).find? (readyT wait) with
  | some u => rfl
  | none =>
    cases hr : readyT wait t <;> simp [hr]
/-- an input that is no table, or is placed, is one that does not wait -/
def freeB (ts : List TabD) (done : List ByteArray) (s : ByteArray) : Bool := !(findT ts s).isSome || hasN done s
theorem ready_free {ts : List TabD} {wait done : List ByteArray} (hw : ∀ s, s ∈ namesT ts → (s ∈ wait ↔ s ∉ done)) (hs : ∀ s, s ∈ wait → s ∈ namesT ts) {t : TabD} (ht : t ∈ ts) : readyT wait t = (!hasN done t.name && t.ins.all (freeB ts done)) := by
  have h1 : hasN wait t.name = !hasN done t.name := by
    have := hw t.name (List.mem_map.2 ⟨t, ht, rfl⟩)
    cases hd : hasN done t.name
    · rw [hasN_false] at hd; rw [hasN_iff.2 (this.2 hd)]; rfl
    · rw [hasN_iff] at hd; rw [hasN_false.2 (fun hh => this.1 hh hd)]; rfl
  have h2 : ∀ s, freeB ts done s = !hasN wait s := by
    intro s
    unfold freeB
    cases hf : (findT ts s).isSome
    · have : s ∉ wait := fun hh => by
        have := findT_isSome.2 (hs s hh)
        rw [hf] at this; cases this
      rw [hasN_false.2 this]; rfl
    · have hm := hw s (findT_isSome.1 hf)
      cases hd : hasN done s
      · rw [hasN_false] at hd; rw [hasN_iff.2 (hm.2 hd)]; rfl
      · rw [hasN_iff] at hd; rw [hasN_false.2 (fun hh => hm.1 hh hd)]; rfl
  unfold readyT waitsB
  rw [h1]
  congr 1
  induction t.ins with
  | nil => rfl
  | cons s l ih => simp only [List.any_cons, List.all_cons, h2, Bool.not_or, ← ih]

theorem order_step {ts : List TabD} {wait : List ByteArray} {m : Nat} (hm : wait.length = m + 1) {done ol : List ByteArray} (h : some ol = (orderF ts wait.length wait).map (done ++ ·)) :
    ∃ t, ts.find? (readyT wait) = some t ∧ some ol = (orderF ts m (dropN wait t.name)).map ((done ++ [t.name]) ++ ·) := by
  rw [hm] at h
  simp only [orderF] at h
  cases hf : ts.find? (readyT wait) with
  | none => rw [hf] at h; cases h
  | some t =>
    rw [hf] at h
    refine ⟨t, rfl, ?_⟩
    rw [h, Option.map_map]
    congr 1
    funext x
    simp

set_option maxRecDepth 100000 in
set_option maxHeartbeats 4000000 in
theorem ref_OrderOf (b : BookD) (v : Value) (w : World) (h : BookAt w (Old w) b v) (hs : smallB b) (hn : (namesT b.tabs).Nodup) (h4 : b.tabs.length ≤ 4) (hg : ∀ t, t ∈ b.tabs → goodT t = true) :
    Calls Tryz.prog 16 #[v] w (OrderPost (orderO b.tabs) w) := by
  have HS := Lib.hid hs
  have HN := Lib.hid hn
  have HGD := Lib.hid hg
  have HB := Lib.hid h
  have HRI := Lib.hid (ring_iff hn h4)
  have HE : Hid (orderO b.tabs = (orderF b.tabs (namesT b.tabs).length (namesT b.tabs)).map ([] ++ ·)) := by
    show _ = _
    unfold orderO
    rw [show (namesT b.tabs).length = b.tabs.length by simp [namesT]]
    cases orderF b.tabs b.tabs.length (namesT b.tabs) <;> rfl
  generalize orderO b.tabs = R at *
  have HH := Lib.hid (fun a => ref_hangs b a hs 4 (Nat.le_refl _) a)
  clear hs hn hg
  obtain ⟨vd, vt, rfl, h1, h2⟩ := h
  have H := Lib.hid h2
  obtain ⟨A, c, rfl, hc1, hc2, -⟩ := h1
  obtain ⟨B, d, rfl, hd1, hd2, -⟩ := h2
  unfold maxLen at hc2 hd2
  have hb0 := below_alloc1 w (.cells #[.slice A b.doms.length c, .slice B b.tabs.length d] 25)
  have C0 := Lib.hid (Cs.new w [.slice A b.doms.length c, .slice B b.tabs.length d] 25)
  change Hid (Cs (w.alloc (.cells #[.slice A b.doms.length c, .slice B b.tabs.length d] 25)) _ _) at C0
  generalize hw0 : w.alloc (.cells #[.slice A b.doms.length c, .slice B b.tabs.length d] 25) = w0 at *
  have k1 := C0.out.at 1 rfl
  go_enter Tryz.func16, Tryz.ntmps16
  go_wp2
  go_loopw [19] (fun i wr => ∃ k : Nat, k ≤ b.tabs.length ∧ i = .int .i64 k ∧ Hid ((b.tabs.take k).any (fun t => hangsV b.tabs t.name 4 t.name) = false) ∧ Hid (Cs wr w.heap.size [.slice A b.doms.length c, .slice B b.tabs.length d]) ∧ Below w.heap.size w wr) (fun i _ => b.tabs.length - (intOf i).toNat)
  case atStart => exact ⟨0, Nat.zero_le _, rfl, rfl, C0, hb0⟩
  case round =>
    clear hw0 k1 hb0 C0
    obtain ⟨k, hk, rfl, hf, CB, hb⟩ := hrel
    by_cases hlt : k < b.tabs.length
    · obtain ⟨bb, o, nm, pol, comp, ins, rules, vi, vr, rfl, _, hx, c1, c2, c3, c4, c5, hi, hr⟩ := (H.out.onOld hb).tab_at hlt
      obtain ⟨Ai, ci, rfl, -, -⟩ := hi.form
      obtain ⟨Ar, cr, rfl, -, -⟩ := hr.form
      clear hi hr
      have hbz := below_alloc1 wr (.cells #[.string nm, .int .i64 pol, .bool comp, .slice Ai ins.length ci, .slice Ar rules.length cr] 59)
      have hb2 := bx hb hbz
      have CN := Lib.hid (Cs.new wr [.string nm, .int .i64 pol, .bool comp, .slice Ai ins.length ci, .slice Ar rules.length cr] 59)
      change Hid (Cs (wr.alloc (.cells #[.string nm, .int .i64 pol, .bool comp, .slice Ai ins.length ci, .slice Ar rules.length cr] 59)) _ _) at CN
      have CBa := Lib.hid (CB.out.next hbz)
      have HBa := Lib.hid (HB.out.onOld hb2)
      have q0 := CN.out.at 0 rfl
      have k0 := CBa.out.at 0 rfl
      have k1 := CBa.out.at 1 rfl
      generalize hwa : wr.alloc (.cells #[.string nm, .int .i64 pol, .bool comp, .slice Ai ins.length ci, .slice Ar rules.length cr] 59) = wa at *
      go_wp2_with fail
      clear hwa
      refine (HH.out nm _ _ HBa.out).mono ?_
      rintro e w3 ⟨rfl, hb3⟩
      have hb03 := bx hb2 hb3
      have CB3 := Lib.hid (CBa.out.next hb3)
      cases hh : hangsV b.tabs nm 4 nm
      · have HN1 : Hid ((b.tabs.take (k + 1)).any (fun t => hangsV b.tabs t.name 4 t.name) = false) := by
          show _ = _
          rw [take_at hx.out, List.any_append, hf.out]; simp [hh]
        clear hh
        go_wp2
        exact ⟨⟨k + 1, by omega, by go_num, HN1, CB3, hb03⟩, by simp [intOf]; omega⟩
      · have HR : Hid (R = none) := by
          have ha : (b.tabs.any fun t => hangsV b.tabs t.name 4 t.name) = true := List.any_eq_true.2 ⟨_, List.mem_of_getElem? hx.out, hh⟩
          have := HRI.out
          rw [ha] at this
          exact Option.isNone_iff_eq_none.1 this.symm
        clear hh
        go_wp2
        go_ret2
        rw [HR.out]
        exact ⟨_, rfl, Sl.nil, hb03⟩
    · have hRs : ∃ ol, R = some ol := by
        have := hf.out
        rw [List.take_of_length_le (by omega)] at this
        have h2 := HRI.out
        rw [this] at h2
        cases R with
        | none => cases h2
        | some ol => exact ⟨ol, rfl⟩
      obtain ⟨ol, rfl⟩ := hRs
      clear HRI hf HH
      have hbm := below_alloc1 wr (.map #[] 0)
      have M4 := Lib.hid ((MapS.made Tryz.prog 9 wr).congr boolF_nil)
      have hmk := b_make wr
      have CM := Lib.hid (CB.out.next hbm)
      have hb0m := bx hb hbm
      have hzm : (wr.alloc (.map #[] 0)).heap.size = wr.heap.size + 1 := by simp
      have hwlt : w.heap.size < wr.heap.size := CB.out.1
      generalize hwm : wr.alloc (.map #[] 0) = wm at *
      go_wp2
      go_loopw [6] (fun u wq => ∃ (wait done : List ByteArray) (cc : Nat), Hid (MapS Tryz.prog 9 wq wr.heap.size done.length cc (boolF done)) ∧ Hid wait.Nodup ∧ Hid (∀ s, s ∈ wait → s ∈ namesT b.tabs) ∧ Hid (∀ s, s ∈ namesT b.tabs → (s ∈ wait ↔ s ∉ done)) ∧ Hid (done.length + wait.length = b.tabs.length) ∧ Hid (some ol = (orderF b.tabs wait.length wait).map (done ++ ·)) ∧ Hid (OwnG Enc.str wq wm.heap.size wm.heap.size 9 u done) ∧ Hid (Cs wq w.heap.size [.slice A b.doms.length c, .slice B b.tabs.length d]) ∧ wm.heap.size ≤ wq.heap.size ∧ Below w.heap.size w wq) (fun u _ => b.tabs.length - lenV u)
      case atStart => exact ⟨namesT b.tabs, [], 0, M4, HN, fun _ h => h, fun s hs => by simp [hs], by show 0 + (namesT b.tabs).length = _; simp [namesT], HE, OwnG.nil, CM, Nat.le_refl _, hb0m⟩
      case round =>
        clear hmk hwm hbm M4 CM hb0m HE
        rename World => wq
        obtain ⟨wait, done, cc, HM, HND, HSUB, HWD, HSUM, HO, HOW, CQ, hmq, hbq⟩ := hrel
        obtain ⟨Au, cu, rfl, hu1, hu2, -⟩ := HOW.out.form
        have k1 := CQ.out.at 1 rfl
        have hsum := HSUM.out
        by_cases hw0 : wait.length = 0
        · have hwe : wait = [] := List.length_eq_zero_iff.1 hw0
          subst hwe
          have hge : (b.tabs.length : Int) ≤ done.length := by simp at hsum; omega
          have HR : Hid (ol = done) := by
            have := HO.out
            simp [orderF] at this
            exact this
          clear hsum
          go_wp2
          go_ret2
          have e := HR.out
          subst e
          exact ⟨_, rfl, (HOW.out.sl (Nat.le_refl _)).more (fun k hk => ⟨by have := hk.1; omega, hk.2⟩), hbq⟩
        · have hlt2 : (done.length : Int) < b.tabs.length := by omega
          obtain ⟨m, hm⟩ : ∃ m, wait.length = m + 1 := ⟨wait.length - 1, by omega⟩
          obtain ⟨bt, hbt, hbo⟩ := order_step hm HO.out
          have HBT := Lib.hid hbt
          have HBO := Lib.hid hbo
          have HMM := Lib.hid hm
          have HRF : Hid (∀ t, t ∈ b.tabs → readyT wait t = (!hasN done t.name && t.ins.all (freeB b.tabs done))) := fun t ht => ready_free HWD.out HSUB.out ht
          clear hm hbt hbo HO hw0
          go_wp2
          go_loopw [8, 40] (fun u i wj => ∃ (k : Nat), k ≤ b.tabs.length ∧ i = .int .i64 k ∧ u = .string (bestN (b.tabs.take k) wait) ∧ Below wq.heap.size wq wj) (fun _ i _ => b.tabs.length - (intOf i).toNat)
          case atStart => exact ⟨0, Nat.zero_le _, rfl, rfl, Below.refl _ _⟩
          case round =>
            clear k1
            rename World => wj
            obtain ⟨k, hk, rfl, rfl, hbj⟩ := hrel
            have hb0j := bx hbq hbj
            by_cases hlt : k < b.tabs.length
            · obtain ⟨bb, o, nm, pol, comp, ins, rules, vi, vr, rfl, _, hx, c1, c2, c3, c4, c5, hi, hr⟩ := (H.out.onOld hb0j).tab_at hlt
              have HI := Lib.hid hi
              obtain ⟨Ai, ci, rfl, hi1, hi2⟩ := hi.form
              obtain ⟨Ar, cr, rfl, -, -⟩ := hr.form
              unfold maxLen at hi2
              clear hi hr
              have hmem := List.mem_of_getElem? hx.out
              have HSM := Lib.hid (HS.out.2 _ hmem)
              have HNM : Hid (nm.size ≤ maxLen) := small_name HSM.out
              have HSI : Hid (∀ s, s ∈ ins → s.size ≤ maxLen) := small_ins HSM.out
              have HRD : Hid (readyT wait ⟨nm, pol, comp, ins, rules⟩ = (!hasN done nm && ins.all (freeB b.tabs done))) := HRF.out _ hmem
              have HBA := Lib.hid (best_at (wait := wait) hx.out)
              have HBK : Hid (bestN (b.tabs.take k) wait = match (b.tabs.take k).find? (readyT wait) with | some u => u.name | none => noS) := by show _ = _; unfold bestN; cases (b.tabs.take k).find? (readyT wait) <;> rfl
              have HGF : Hid (∀ u, (b.tabs.take k).find? (readyT wait) = some u → (u.name.toList == noS.toList) = false) := fun u hu => name_some (HGD.out u (List.mem_of_mem_take (List.mem_of_find?_eq_some hu)))
              clear hmem
              have hbz := below_alloc1 wj (.cells #[.string nm, .int .i64 pol, .bool comp, .slice Ai ins.length ci, .slice Ar rules.length cr] 59)
              have CN := Lib.hid (Cs.new wj [.string nm, .int .i64 pol, .bool comp, .slice Ai ins.length ci, .slice Ar rules.length cr] 59)
              change Hid (Cs (wj.alloc (.cells #[.string nm, .int .i64 pol, .bool comp, .slice Ai ins.length ci, .slice Ar rules.length cr] 59)) _ _) at CN
              have hbjz := bx hbj hbz
              have HIz := Lib.hid (HI.out.onOld hbz)
              have hl := wait_look (HM.out.below hbjz) nm HNM.out
              have q0 := CN.out.at 0 rfl
              have q3 := CN.out.at 3 rfl
              generalize hwz : wj.alloc (.cells #[.string nm, .int .i64 pol, .bool comp, .slice Ai ins.length ci, .slice Ar rules.length cr] 59) = wz at *
              generalize bestN (b.tabs.take k) wait = bn at *
              go_wp2
              go_loopw [11, 52] (fun u i wi => ∃ (j : Nat) (ok : Bool), j ≤ ins.length ∧ i = .int .i64 j ∧ u = .bool ok ∧ Hid (ok = (!hasN done nm && (ins.take j).all (freeB b.tabs done))) ∧ Below wz.heap.size wz wi) (fun _ i _ => ins.length - (intOf i).toNat)
              case atStart => exact ⟨0, !hasN done nm, Nat.zero_le _, rfl, rfl, by show _ = _; simp, Below.refl _ _⟩
              case round =>
                clear hwz hl q0 q3 c1 c2 c3 c4 c5
                rename World => wi
                obtain ⟨j, ok, hj, rfl, rfl, HOK, hbi⟩ := hrel
                have hbzi := bx hbjz hbi
                have hb0i := bx hbq hbzi
                by_cases hjlt : j < ins.length
                · obtain ⟨bs, os, s, rfl, _, hxs, cs⟩ := (HIz.out.onOld hbi).str_at hjlt
                  have HBi := Lib.hid (HB.out.onOld hb0i)
                  have CBi := Lib.hid (CQ.out.next hbzi)
                  have k0 := CBi.out.at 0 rfl
                  have k1 := CBi.out.at 1 rfl
                  have HSS := Lib.hid (HSI.out s (List.mem_of_getElem? hxs.out))
                  have HTK : Hid ((ins.take (j + 1)).all (freeB b.tabs done) = ((ins.take j).all (freeB b.tabs done) && freeB b.tabs done s)) := by show _ = _; rw [take_at hxs.out, List.all_append]; simp
                  have HFE : Hid (freeB b.tabs done s = (!(findT b.tabs s).isSome || hasN done s)) := rfl
                  go_wp2_with fail
                  refine (ref_tableNamed b s _ _ HBi.out).mono ?_
                  rintro e w9 ⟨vt9, rfl, ht9, hb9⟩
                  obtain ⟨vi9, vr9, rfl, hi9, hr9⟩ := ht9
                  obtain ⟨Ai9, ci9, rfl, -, -⟩ := hi9.form
                  obtain ⟨Ar9, cr9, rfl, -, -⟩ := hr9.form
                  clear hi9 hr9 k0 k1 cs
                  generalize (findT b.tabs s).getD zeroT = nt at *
                  have hbt := below_alloc1 w9 (.cells #[.string nt.name, .int .i64 nt.pol, .bool nt.comp, .slice Ai9 nt.ins.length ci9, .slice Ar9 nt.rules.length cr9] 59)
                  have hbzt := bx hbi (bx hb9 hbt)
                  have hlk := wait_look (HM.out.below (bx hbjz hbzt)) s HSS.out
                  generalize hwt : w9.alloc (.cells #[.string nt.name, .int .i64 nt.pol, .bool nt.comp, .slice Ai9 nt.ins.length ci9, .slice Ar9 nt.rules.length cr9] 59) = wt at *
                  generalize hasN done s = hd at *
                  cases ok
                  · have HOK2 : Hid (false = (!hasN done nm && (ins.take (j + 1)).all (freeB b.tabs done))) := by show _ = _; rw [HTK.out, ← Bool.and_assoc, ← HOK.out]; rfl
                    go_wp2
                    exact ⟨⟨j + 1, false, by omega, by go_num, rfl, HOK2, hbzt⟩, by simp [intOf]; omega⟩
                  · cases hfs : (findT b.tabs s).isSome
                    · have HOK2 : Hid (true = (!hasN done nm && (ins.take (j + 1)).all (freeB b.tabs done))) := by show _ = _; rw [HTK.out, ← Bool.and_assoc, ← HOK.out, HFE.out, hfs]; rfl
                      clear hfs
                      go_wp2
                      exact ⟨⟨j + 1, true, by omega, by go_num, rfl, HOK2, hbzt⟩, by simp [intOf]; omega⟩
                    · have HOK2 : Hid (hd = (!hasN done nm && (ins.take (j + 1)).all (freeB b.tabs done))) := by show _ = _; rw [HTK.out, ← Bool.and_assoc, ← HOK.out, HFE.out, hfs]; rfl
                      clear hfs
                      go_wp2
                      exact ⟨⟨j + 1, hd, by omega, by go_num, rfl, HOK2, hbzt⟩, by simp [intOf]; omega⟩
                · have e : ins.take j = ins := List.take_of_length_le (by omega)
                  rw [e, ← HRD.out] at HOK
                  clear e
                  have CNi := Lib.hid (CN.out.next hbi)
                  have q0 := CNi.out.at 0 rfl
                  cases hfk : (b.tabs.take k).find? (readyT wait) with
                  | some u =>
                    have hne := HGF.out u hfk
                    have HB1 : Hid (bn = u.name) := by show _ = _; rw [HBK.out, hfk]
                    have HB2 : Hid (bestN (b.tabs.take (k + 1)) wait = bn) := by show _ = _; rw [HBA.out, hfk, HB1.out]
                    rw [← HB1.out] at hne
                    have hne' : bn.toList.isEmpty = false := by
                      cases hb : bn.toList with
                      | nil => rw [hb, ByteArray.toList_eq] at hne; exact absurd hne (by decide)
                      | cons _ _ => rfl
                    clear hfk hne
                    cases ok
                    · go_wp2
                      exact ⟨⟨k + 1, by omega, by go_num, by rw [HB2.out], hbzi⟩, by simp [intOf]; omega⟩
                    · go_wp2
                      exact ⟨⟨k + 1, by omega, by go_num, by rw [HB2.out], hbzi⟩, by simp [intOf]; omega⟩
                  | none =>
                    have HB1 : bn = ⟨#[]⟩ := by rw [HBK.out, hfk]; rfl
                    have HB2 : Hid (bestN (b.tabs.take (k + 1)) wait = if readyT wait ⟨nm, pol, comp, ins, rules⟩ then nm else noS) := by show _ = _; rw [HBA.out, hfk]
                    rw [← HOK.out] at HB2
                    clear hfk
                    subst HB1
                    cases ok
                    · go_wp2
                      exact ⟨⟨k + 1, by omega, by go_num, by rw [HB2.out]; rfl, hbzi⟩, by simp [intOf]; omega⟩
                    · go_wp2
                      exact ⟨⟨k + 1, by omega, by go_num, by rw [HB2.out]; rfl, hbzi⟩, by simp [intOf]; omega⟩
            · have e : b.tabs.take k = b.tabs := List.take_of_length_le (by omega)
              have hbe : bestN (b.tabs.take k) wait = bt.name := by rw [e]; unfold bestN; rw [HBT.out]; rfl
              rw [hbe]
              clear e hbe
              have hbmem := List.mem_of_find?_eq_some HBT.out
              have HBN : Hid (bt.name.size ≤ maxLen) := small_name (HS.out.2 _ hbmem)
              have HIN := Lib.hid ((ready_iff.1 (List.find?_some HBT.out)).1)
              have HMj := Lib.hid (HM.out.below hbj)
              have HOj := Lib.hid (HOW.out.next hbj)
              have CQj := Lib.hid (CQ.out.next hbj)
              have hszj := hbj.size
              have hdm : done.length < maxLen := by unfold maxLen; omega
              generalize bt.name = bn at *
              have hbd : (done.length + 1) * 16 ≤ 140737488355328 := by omega
              have hbm2 : done.length + 1 ≤ maxLen := by unfold maxLen; omega
              go_wp2_with (first | (at_mapUpdate; refine wpList_putS _ rfl _ _ _ 91 rfl 9 4 Tryz.underlying9 b_under wr.heap.size done.length cc _ rfl HMj.out bn rfl HBN.out hdm (.bool true) rfl ?_; intro w4 hm4 hg4; have HO4 := Lib.hid (HOj.out.aside hg4 (by omega) (by omega)); have hbz4 := below_alloc1 w4 (.cells #[.string bn] 9); have HO5 := Lib.hid (HO4.out.next hbz4); have hs4 := hg4.size; have hs5 : wm.heap.size ≤ (w4.alloc (.cells #[.string bn] 9)).heap.size := by have := hbz4.size; omega) | (at_builtin; refine wpList_append_one (E := Enc.str) _ rfl _ _ 39 rfl wm.heap.size wm.heap.size 9 16 (.string ⟨#[]⟩) str_under str_info rfl (by decide) _ _ rfl HO5.out ⟨w4.heap.size, 0, none⟩ bn [.string bn] rfl rfl (cell_one_newS _ _ _) hbd hbm2 hs5 ?_; intro v6 w6 ho6 hg6 hmv6))
              have hb0j' := bx hbq hbj
              have hb4 : Below w.heap.size w w4 := hb0j'.grown hg4 hb0j'.size (fun _ hj => by injection hj with hj; omega)
              have hb5 := bx hb4 hbz4
              have hlt5 := HO5.out.lt
              have hb6 : Below w.heap.size w w6 := hb5.grown hg6 hb5.size (fun _ hj => by have := (hlt5 _ hj).1; omega)
              have CQ5 := (CQj.out.grown hg4 (by omega)).next hbz4
              have CQ6 := CQ5.keep (hg6.block _ CQ5.1 (fun e => by have := (hlt5 _ e.symm).1; omega)) hg6.size
              have HM4 := (hm4.congr (fun x => boolF_put done bn x)).below hbz4
              have HM6 := HM4.kept hg6 (fun e => by have := (hlt5 _ e.symm).1; omega)
              have hdl := dropN_length HND.out HIN.out
              obtain ⟨A6, c6, e6, -, -, -⟩ := ho6.form
              refine ⟨⟨dropN wait bn, done ++ [bn], (if (boolF done bn).isSome then cc else cc + 1), ?_, dropN_nodup _ HND.out, fun s hs => HSUB.out s (mem_dropN.1 hs).1, ?_, ?_, ?_, ho6, CQ6, by have := hg6.size; omega, hb6⟩, ?_⟩
              · show MapS _ _ _ _ _ _ _
                rw [List.length_append]
                exact HM6
              · intro s hs
                rw [mem_dropN, HWD.out s hs]
                simp
              · show (done ++ [bn]).length + _ = _
                rw [List.length_append]
                show done.length + 1 + _ = _
                omega
              · show some ol = _
                rw [show (dropN wait bn).length = m by have := HMM.out; omega]
                exact HBO.out
              · subst e6
                show b.tabs.length - (done ++ [bn]).length < b.tabs.length - done.length
                rw [List.length_append]
                show b.tabs.length - (done.length + 1) < _
                omega

end Go.Proofs.YtmdljknlbmlacabGreatDoor
