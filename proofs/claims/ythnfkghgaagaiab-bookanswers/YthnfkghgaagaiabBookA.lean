/- book.FindDomain, FindTable, All and bounded, each as a Lean function of what its arguments read as. Conditions: the book reads as lists in old memory; names and lists fit into 2^47 bytes. -/
import Derived.Test.YthnfkghgaagaiabTableF
import Derived.Test.YthnfkghgaagaiabBookW
namespace Go.Proofs.Ythnfkghgaagaiab
open Go.RowKit

def BookAt (w : World) (S : Nat → Prop) (b : BookD) (v : Value) : Prop := ∃ vd vt, v = .agg #[vd, vt] ∧ Sl Enc.dom w S b.doms vd ∧ Sl Enc.tab w S b.tabs vt
theorem BookAt.onOld {w w' : World} {b : BookD} {v : Value} (h : BookAt w (Old w) b v) (hb : Below w.heap.size w w') : BookAt w' (Old w') b v := by
  obtain ⟨vd, vt, e, h1, h2⟩ := h
  exact ⟨vd, vt, e, h1.onOld hb, h2.onOld hb⟩
def smallB (b : BookD) : Prop := (∀ d, d ∈ b.doms → d.1.size ≤ 140737488355328) ∧ ∀ t, t ∈ b.tabs → smallT t

theorem find_at {α : Type} {p : α → Bool} {l : List α} {k : Nat} {x : α} (h0 : (l.take k).find? p = none) (h : l[k]? = some x) (hp : p x = true) : l.find? p = some x := by
  have e : l = l.take k ++ x :: l.drop (k + 1) := by rw [← drop_at h, List.take_append_drop]
  rw [e, List.find?_append, h0]; simp [hp]
theorem find_more {α : Type} {p : α → Bool} {l : List α} {k : Nat} {x : α} (h0 : (l.take k).find? p = none) (h : l[k]? = some x) (hp : p x = false) : (l.take (k + 1)).find? p = none := by
  rw [take_at h, List.find?_append, h0]; simp [hp]

theorem ret_domB {fn : Func} {p r : Tmp} {tmps : Array Value} {W : World} {b : Nat} {x y z : Value} (h : fn.results = #[.cell p 57, .tmp r]) (hp : tmps.getD p undef = .pointer (some ⟨b, 0, none⟩)) (ht : Cs W b [x, y, z]) :
    (results fn tmps).run Try.prog W = .ok (.tuple #[.agg #[x, y, z], tmps.getD r undef]) W := by
  have q0 := ht.at 0 rfl
  have q1 := ht.at 1 rfl
  have q2 := ht.at 2 rfl
  have hp' : tmps[p]?.getD undef = .pointer (some ⟨b, 0, none⟩) := by simpa using hp
  simp [results, h, hp', go_sem, q0, q1, q2]
theorem ret_tabB {fn : Func} {p r : Tmp} {tmps : Array Value} {W : World} {b : Nat} {x y z u v : Value} (h : fn.results = #[.cell p 25, .tmp r]) (hp : tmps.getD p undef = .pointer (some ⟨b, 0, none⟩)) (ht : Cs W b [x, y, z, u, v]) :
    (results fn tmps).run Try.prog W = .ok (.tuple #[.agg #[x, y, z, u, v], tmps.getD r undef]) W := by
  have q0 := ht.at 0 rfl
  have q1 := ht.at 1 rfl
  have q2 := ht.at 2 rfl
  have q3 := ht.at 3 rfl
  have q4 := ht.at 4 rfl
  have hp' : tmps[p]?.getD undef = .pointer (some ⟨b, 0, none⟩) := by simpa using hp
  simp [results, h, hp', go_sem, q0, q1, q2, q3, q4]
theorem ret_rngB {fn : Func} {p r : Tmp} {tmps : Array Value} {W : World} {b : Nat} {x y : Value} (h : fn.results = #[.cell p 75, .tmp r]) (hp : tmps.getD p undef = .pointer (some ⟨b, 0, none⟩)) (ht : Cs W b [x, y]) :
    (results fn tmps).run Try.prog W = .ok (.tuple #[.agg #[x, y], tmps.getD r undef]) W := by
  have q0 := ht.at 0 rfl
  have q1 := ht.at 1 rfl
  have hp' : tmps[p]?.getD undef = .pointer (some ⟨b, 0, none⟩) := by simpa using hp
  simp [results, h, hp', go_sem, q0, q1]

def FindDPost (R : Option DomD) (w : World) (e : Ending) (w' : World) : Prop := e = .returned (.tuple #[domV (R.getD zeroD), .bool R.isSome]) ∧ Below w.heap.size w w'

set_option maxHeartbeats 1000000 in
theorem book_FindDomain (b : BookD) (s : ByteArray) (v : Value) (w : World) (h : BookAt w (Old w) b v) :
    Calls Try.prog 57 #[v, .string s] w (FindDPost (findD b.doms s) w) := by
  obtain ⟨doms, tabs⟩ := b
  obtain ⟨vd, vt, rfl, h1, h2⟩ := h
  simp only at h1 h2 ⊢
  have H := Lib.hid h1
  obtain ⟨A, c, rfl, hc1, hc2, -⟩ := h1
  obtain ⟨B, d, rfl, hd1, hd2, -⟩ := h2
  unfold maxLen at hc2 hd2
  have hb0 := below_alloc1 w (.cells #[.slice A doms.length c, .slice B tabs.length d] 48)
  have C0 := Lib.hid (Cs.new w [.slice A doms.length c, .slice B tabs.length d] 48)
  have hz0 : (w.alloc (.cells #[.slice A doms.length c, .slice B tabs.length d] 48)).heap.size = w.heap.size + 1 := by simp
  change Hid (Cs (w.alloc (.cells #[.slice A doms.length c, .slice B tabs.length d] 48)) _ _) at C0
  generalize hw0 : w.alloc (.cells #[.slice A doms.length c, .slice B tabs.length d] 48) = w0 at *
  have hb1 := below_alloc1 w0 (.cells #[.string ⟨#[]⟩, .int .i64 0, .int .i64 0] 57)
  have C1 := Lib.hid (Cs.new w0 [.string ⟨#[]⟩, .int .i64 0, .int .i64 0] 57)
  change Hid (Cs (w0.alloc (.cells #[.string ⟨#[]⟩, .int .i64 0, .int .i64 0] 57)) _ _) at C1
  rw [hz0] at C1
  have C0' := Lib.hid (C0.out.next hb1)
  have k0 := C0'.out.at 0 rfl
  have hb01 := bx hb0 hb1
  generalize hw1 : w0.alloc (.cells #[.string ⟨#[]⟩, .int .i64 0, .int .i64 0] 57) = w1 at *
  generalize hR : findD doms s = R
  have HR := Lib.hid hR
  clear hR
  go_enter Try.func57, Try.ntmps57
  go_wp2
  go_loopw [11] (fun i wr => ∃ k : Nat, k ≤ doms.length ∧ i = .int .i64 k ∧ Hid ((doms.take k).find? (fun d => sameS d.1 s) = none) ∧ Hid (Cs wr (w.heap.size + 1) [.string ⟨#[]⟩, .int .i64 0, .int .i64 0]) ∧ Below w.heap.size w wr) (fun i _ => doms.length - (intOf i).toNat)
  case atStart => exact ⟨0, Nat.zero_le _, rfl, rfl, C1, hb01⟩
  case round =>
    clear hw0 hw1 hb0 hb1 hb01 k0
    obtain ⟨k, hk, rfl, hf, CR, hbl⟩ := hrel
    by_cases hlt : k < doms.length
    · obtain ⟨b, o, nm, lo, hi, rfl, _, hx, c1, c2, c3⟩ := (H.out.below (fun _ h => h) hbl).dom_at hlt
      have hbz := below_alloc1 wr (.cells #[.string nm, .int .i64 lo, .int .i64 hi] 57)
      have hbl2 := bx hbl hbz
      have CN := Lib.hid (Cs.new wr [.string nm, .int .i64 lo, .int .i64 hi] 57)
      change Hid (Cs (wr.alloc (.cells #[.string nm, .int .i64 lo, .int .i64 hi] 57)) _ _) at CN
      have CR2 := Lib.hid (CR.out.next hbz)
      have q0 := CN.out.at 0 rfl
      have q1 := CN.out.at 1 rfl
      have q2 := CN.out.at 2 rfl
      have r0 := CR2.out.at 0 rfl
      have r1 := CR2.out.at 1 rfl
      have r2 := CR2.out.at 2 rfl
      have f0 := CR2.out.2.2 0 (by decide)
      have f1 := CR2.out.2.2 1 (by decide)
      have f2 := CR2.out.2.2 2 (by decide)
      generalize hwa : wr.alloc (.cells #[.string nm, .int .i64 lo, .int .i64 hi] 57) = wa at *
      by_cases hq : (nm.toList == s.toList) = true
      · have HF : Hid (R = some (nm, lo, hi)) := by show _ = _; rw [← HR.out]; exact find_at hf.out hx.out hq
        go_wp2
        (try simp only [Exit.inBlock, Exit.then])
        refine bodyPost_ret (ret_domB (b := w.heap.size + 1) rfl rfl (((CR2.out.set 0 (by simp) _).set 1 (by simp) _).set 2 (by simp) _)) rfl ⟨?_, ((hbl2.setCell (by simp) _).setCell (by simp) _).setCell (by simp) _⟩
        rw [HF.out]; rfl
      · have hq' : (nm.toList == s.toList) = false := by simpa using hq
        have HN := Lib.hid (find_more (p := fun d : DomD => sameS d.1 s) hf.out hx.out hq')
        clear hq
        go_wp2
        exact ⟨⟨k + 1, by omega, by go_num, HN, CR2, hbl2⟩, by simp [intOf]; omega⟩
    · have HF : Hid (R = none) := by
        show _ = _
        have := hf.out
        rw [List.take_of_length_le (by omega)] at this
        rw [← HR.out]; exact this
      have r0 := CR.out.at 0 rfl
      have r1 := CR.out.at 1 rfl
      have r2 := CR.out.at 2 rfl
      have f0 := CR.out.2.2 0 (by decide)
      have f1 := CR.out.2.2 1 (by decide)
      have f2 := CR.out.2.2 2 (by decide)
      go_wp2
      (try simp only [Exit.inBlock, Exit.then])
      refine bodyPost_ret (ret_domB (b := w.heap.size + 1) rfl rfl (((CR.out.set 0 (by simp) _).set 1 (by simp) _).set 2 (by simp) _)) rfl ⟨?_, ((hbl.setCell (by simp) _).setCell (by simp) _).setCell (by simp) _⟩
      rw [HF.out]; rfl

def FindTPost (R : Option TabD) (w : World) (e : Ending) (w' : World) : Prop := ∃ v, e = .returned (.tuple #[v, .bool R.isSome]) ∧ TabAt w' (Old w') (R.getD zeroT) v ∧ Below w.heap.size w w'

set_option maxHeartbeats 1000000 in
theorem book_FindTable (b : BookD) (s : ByteArray) (v : Value) (w : World) (h : BookAt w (Old w) b v) :
    Calls Try.prog 21 #[v, .string s] w (FindTPost (findT b.tabs s) w) := by
  obtain ⟨doms, tabs⟩ := b
  obtain ⟨vd, vt, rfl, h1, h2⟩ := h
  simp only at h1 h2 ⊢
  have H := Lib.hid h2
  obtain ⟨A, c, rfl, hc1, hc2, -⟩ := h1
  obtain ⟨B, d, rfl, hd1, hd2, -⟩ := h2
  unfold maxLen at hc2 hd2
  have hb0 := below_alloc1 w (.cells #[.slice A doms.length c, .slice B tabs.length d] 48)
  have C0 := Lib.hid (Cs.new w [.slice A doms.length c, .slice B tabs.length d] 48)
  have hz0 : (w.alloc (.cells #[.slice A doms.length c, .slice B tabs.length d] 48)).heap.size = w.heap.size + 1 := by simp
  change Hid (Cs (w.alloc (.cells #[.slice A doms.length c, .slice B tabs.length d] 48)) _ _) at C0
  generalize hw0 : w.alloc (.cells #[.slice A doms.length c, .slice B tabs.length d] 48) = w0 at *
  have hb1 := below_alloc1 w0 (.cells #[.string ⟨#[]⟩, .int .i64 0, .bool false, .slice none 0 0, .slice none 0 0] 25)
  have C1 := Lib.hid (Cs.new w0 [.string ⟨#[]⟩, .int .i64 0, .bool false, .slice none 0 0, .slice none 0 0] 25)
  change Hid (Cs (w0.alloc (.cells #[.string ⟨#[]⟩, .int .i64 0, .bool false, .slice none 0 0, .slice none 0 0] 25)) _ _) at C1
  rw [hz0] at C1
  have C0' := Lib.hid (C0.out.next hb1)
  have k1 := C0'.out.at 1 rfl
  have hb01 := bx hb0 hb1
  generalize hw1 : w0.alloc (.cells #[.string ⟨#[]⟩, .int .i64 0, .bool false, .slice none 0 0, .slice none 0 0] 25) = w1 at *
  generalize hR : findT tabs s = R
  have HR := Lib.hid hR
  clear hR
  go_enter Try.func21, Try.ntmps21
  go_wp2
  go_loopw [11] (fun i wr => ∃ k : Nat, k ≤ tabs.length ∧ i = .int .i64 k ∧ Hid ((tabs.take k).find? (fun t => sameS t.name s) = none) ∧ Hid (Cs wr (w.heap.size + 1) [.string ⟨#[]⟩, .int .i64 0, .bool false, .slice none 0 0, .slice none 0 0]) ∧ Below w.heap.size w wr) (fun i _ => tabs.length - (intOf i).toNat)
  case atStart => exact ⟨0, Nat.zero_le _, rfl, rfl, C1, hb01⟩
  case round =>
    clear hw0 hw1 hb0 hb1 hb01 k1
    obtain ⟨k, hk, rfl, hf, CR, hbl⟩ := hrel
    by_cases hlt : k < tabs.length
    · obtain ⟨b, o, nm, pol, comp, ins, rules, vi, vr, rfl, _, hx, c1, c2, c3, c4, c5, hi, hr⟩ := (H.out.onOld hbl).tab_at hlt
      have HI := Lib.hid hi
      have HU := Lib.hid hr
      obtain ⟨Ai, ci, rfl, -, -⟩ := hi.form
      obtain ⟨Ar, cr, rfl, -, -⟩ := hr.form
      clear hi hr
      have hbz := below_alloc1 wr (.cells #[.string nm, .int .i64 pol, .bool comp, .slice Ai ins.length ci, .slice Ar rules.length cr] 25)
      have hbl2 := bx hbl hbz
      have CN := Lib.hid (Cs.new wr [.string nm, .int .i64 pol, .bool comp, .slice Ai ins.length ci, .slice Ar rules.length cr] 25)
      change Hid (Cs (wr.alloc (.cells #[.string nm, .int .i64 pol, .bool comp, .slice Ai ins.length ci, .slice Ar rules.length cr] 25)) _ _) at CN
      have CR2 := Lib.hid (CR.out.next hbz)
      have q0 := CN.out.at 0 rfl
      have q1 := CN.out.at 1 rfl
      have q2 := CN.out.at 2 rfl
      have q3 := CN.out.at 3 rfl
      have q4 := CN.out.at 4 rfl
      have r0 := CR2.out.at 0 rfl
      have r1 := CR2.out.at 1 rfl
      have r2 := CR2.out.at 2 rfl
      have r3 := CR2.out.at 3 rfl
      have r4 := CR2.out.at 4 rfl
      have f0 := CR2.out.2.2 0 (by decide)
      have f1 := CR2.out.2.2 1 (by decide)
      have f2 := CR2.out.2.2 2 (by decide)
      have f3 := CR2.out.2.2 3 (by decide)
      have f4 := CR2.out.2.2 4 (by decide)
      have HT : Hid (TabAt w (Old w) ⟨nm, pol, comp, ins, rules⟩ (.agg #[.string nm, .int .i64 pol, .bool comp, .slice Ai ins.length ci, .slice Ar rules.length cr])) := by
        obtain ⟨b', o', nm', pol', comp', ins', rules', vi', vr', e', _, hx', d1, d2, d3, d4, d5, hi', hr'⟩ := H.out.tab_at hlt
        obtain ⟨rfl, rfl⟩ := some_addr e'
        have e := hx.out.symm.trans hx'.out
        injection e with e
        injection e with e1 e2 e3 e4 e5
        subst e1 e2 e3 e4 e5
        have g4 := (hbl.cell (p := ⟨b, o + k * 5 + 3, none⟩) (by assumption)).trans d4
        have g5 := (hbl.cell (p := ⟨b, o + k * 5 + 4, none⟩) (by assumption)).trans d5
        rw [c4] at g4
        rw [c5] at g5
        injection g4 with g4
        injection g5 with g5
        subst g4 g5
        exact ⟨_, _, rfl, hi', hr'⟩
      generalize hwa : wr.alloc (.cells #[.string nm, .int .i64 pol, .bool comp, .slice Ai ins.length ci, .slice Ar rules.length cr] 25) = wa at *
      by_cases hq : (nm.toList == s.toList) = true
      · have HF : Hid (R = some ⟨nm, pol, comp, ins, rules⟩) := by show _ = _; rw [← HR.out]; exact find_at hf.out hx.out hq
        go_wp2
        (try simp only [Exit.inBlock, Exit.then])
        refine bodyPost_ret (ret_tabB (b := w.heap.size + 1) rfl rfl (((((CR2.out.set 0 (by simp) _).set 1 (by simp) _).set 2 (by simp) _).set 3 (by simp) _).set 4 (by simp) _)) rfl ?_
        unfold FindTPost
        rw [HF.out]
        refine ⟨_, rfl, HT.out.onOld ?_, ?_⟩ <;> exact ((((hbl2.setCell (by simp) _).setCell (by simp) _).setCell (by simp) _).setCell (by simp) _).setCell (by simp) _
      · have hq' : (nm.toList == s.toList) = false := by simpa using hq
        have HN := Lib.hid (find_more (p := fun t : TabD => sameS t.name s) hf.out hx.out hq')
        clear hq
        go_wp2
        exact ⟨⟨k + 1, by omega, by go_num, HN, CR2, hbl2⟩, by simp [intOf]; omega⟩
    · have HF : Hid (R = none) := by
        show _ = _
        have := hf.out
        rw [List.take_of_length_le (by omega)] at this
        rw [← HR.out]; exact this
      have r0 := CR.out.at 0 rfl
      have r1 := CR.out.at 1 rfl
      have r2 := CR.out.at 2 rfl
      have r3 := CR.out.at 3 rfl
      have r4 := CR.out.at 4 rfl
      have f0 := CR.out.2.2 0 (by decide)
      have f1 := CR.out.2.2 1 (by decide)
      have f2 := CR.out.2.2 2 (by decide)
      have f3 := CR.out.2.2 3 (by decide)
      have f4 := CR.out.2.2 4 (by decide)
      go_wp2
      (try simp only [Exit.inBlock, Exit.then])
      refine bodyPost_ret (ret_tabB (b := w.heap.size + 1) rfl rfl (((((CR.out.set 0 (by simp) _).set 1 (by simp) _).set 2 (by simp) _).set 3 (by simp) _).set 4 (by simp) _)) rfl ?_
      unfold FindTPost
      rw [HF.out]
      exact ⟨_, rfl, ⟨_, _, rfl, Sl.nil, Sl.nil⟩, ((((hbl.setCell (by simp) _).setCell (by simp) _).setCell (by simp) _).setCell (by simp) _).setCell (by simp) _⟩

set_option maxHeartbeats 400000 in
theorem book_bounded (n : Int) (w : World) : Calls Try.prog 59 #[.int .i64 n] w fun e w' => e = .returned (.bool (inBd n)) ∧ Below w.heap.size w w' := by
  have HE : Hid (inBd n = (decide (-1000000 ≤ n) && decide (n ≤ 1000000))) := rfl
  generalize inBd n = R at *
  by_cases h1 : -1000000 ≤ n
  · by_cases h2 : n ≤ 1000000
    · have HR : Hid (R = true) := by show _ = _; rw [HE.out]; simp [h1, h2]
      clear HE
      go_enter Try.func59, Try.ntmps59
      go_wp2
      go_ret
      exact ⟨ret_bool HR.out.symm, Below.refl _ _⟩
    · have HR : Hid (R = false) := by show _ = _; rw [HE.out]; simp [h2]
      have h2' : 1000000 < n := by omega
      clear HE
      go_enter Try.func59, Try.ntmps59
      go_wp2
      go_ret
      exact ⟨ret_bool HR.out.symm, Below.refl _ _⟩
  · have HR : Hid (R = false) := by show _ = _; rw [HE.out]; simp [h1]
    have h1' : n < -1000000 := by omega
    clear HE
    go_enter Try.func59, Try.ntmps59
    go_wp2
    go_ret
    exact ⟨ret_bool HR.out.symm, Below.refl _ _⟩

end Go.Proofs.Ythnfkghgaagaiab
