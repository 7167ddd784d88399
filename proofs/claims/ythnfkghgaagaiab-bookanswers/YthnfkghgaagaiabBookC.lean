/- book.waitsFor, the closures of Order and slices.IndexFunc and ContainsFunc over them, each as a Lean function of what its arguments read as. Conditions: the table reads as lists in old memory; the map of waiting names is read as a list of names. -/
import Derived.Test.YthnfkghgaagaiabBookA
import Derived.Test.YthnfkghgaagaiabBMap
import Derived.Shelf.Abstract
namespace Go.Proofs.Ythnfkghgaagaiab
open Go.RowKit Go.Shelf

theorem b_under : Try.prog.underlying 61 = some (.map 9 4) := by kernel_rfl
theorem b_zero (w : World) : (zeroValue 4).run Try.prog w = .ok (.bool false) w := by kernel_rfl
theorem b_make (w : World) : (Instr.makeMap 61 none).run Try.prog w = .ok (.map (some w.heap.size)) (w.alloc (.map #[] 0)) := rfl
theorem wait_look {w : World} {b n c : Nat} {l : List ByteArray} (h : MapS Try.prog 9 w b n c (boolF l)) (s : ByteArray) (hs : s.size ≤ maxLen) :
    (Instr.lookup 61 (.map (some b)) (.string s) false).run Try.prog w = .ok (.bool (hasN l s)) w := by
  rw [h.look Try.underlying9 b_under (b_zero w) hs, boolF_get]

/-- a cell that holds the map of waiting names -/
structure WaitAt (w : World) (M mb n c : Nat) (wait : List ByteArray) : Prop where
  cell : w.cell? ⟨M, 0, none⟩ = some (.map (some mb))
  lt : M < w.heap.size
  map : MapS Try.prog 9 w mb n c (boolF wait)
theorem WaitAt.next {w w' : World} {M mb n c : Nat} {wait : List ByteArray} (h : WaitAt w M mb n c wait) (hb : Below w.heap.size w w') : WaitAt w' M mb n c wait :=
  ⟨(hb.cell (p := ⟨M, 0, none⟩) h.lt).trans h.cell, Nat.lt_of_lt_of_le h.lt hb.size, h.map.below hb⟩

set_option maxHeartbeats 400000 in
theorem waits_fn (wait : List ByteArray) (s : ByteArray) (w : World) (M mb n c : Nat) (h : WaitAt w M mb n c wait) (hs : s.size ≤ maxLen) :
    Calls Try.prog 61 #[.string s, .pointer (some ⟨M, 0, none⟩)] w fun e w' => e = .returned (.bool (hasN wait s)) ∧ Below w.heap.size w w' := by
  have c1 := h.cell
  have hl := wait_look h.map s hs
  generalize hasN wait s = R at *
  go_enter Try.func61, Try.ntmps61
  go_wp2
  go_ret
  exact ⟨rfl, Below.refl _ _⟩

set_option maxHeartbeats 1000000 in
theorem index_waits (wait : List ByteArray) (l : List ByteArray) (v : Value) (w : World) (M mb n c : Nat) (h : WaitAt w M mb n c wait) (hl : Sl Enc.str w (Old w) l v) (hs : ∀ s, s ∈ l → s.size ≤ maxLen) :
    Calls Try.prog 72 #[v, .func (.func 61) #[] #[.pointer (some ⟨M, 0, none⟩)]] w fun e w' => (∃ j : Int, e = .returned (.int .i64 j) ∧ (0 ≤ j) = (l.any (hasN wait) = true) ∧ -1 ≤ j) ∧ Below w.heap.size w w' := by
  have H := Lib.hid hl
  have HW := Lib.hid h
  have HS := Lib.hid hs
  obtain ⟨A, cp, rfl, hc1, hc2, -⟩ := hl
  unfold maxLen at hc2
  clear h hs
  have eg : ∀ args w, (callFunc 61 args).run Try.prog w = .ok (.enter 61 args) w := enters_of Try.func61 (by kernel_rfl) rfl
  go_enter Try.func72, Try.ntmps72
  go_wp2
  go_loopw [8] (fun i wr => ∃ k : Nat, k ≤ l.length ∧ i = .int .i64 k ∧ Hid ((l.take k).any (hasN wait) = false) ∧ Below w.heap.size w wr) (fun i _ => l.length - (intOf i).toNat)
  case atStart => exact ⟨0, Nat.zero_le _, rfl, rfl, Below.refl _ _⟩
  case round =>
    obtain ⟨k, hk, rfl, hf, hb⟩ := hrel
    by_cases hlt : k < l.length
    · obtain ⟨b, o, x, rfl, _, hx, c1⟩ := (H.out.below (fun _ h => h) hb).str_at hlt
      have HX := Lib.hid (HS.out x (List.mem_of_getElem? hx.out))
      have HW1 := Lib.hid (HW.out.next hb)
      go_wp2_with fail
      refine (waits_fn wait x _ M mb n c HW1.out HX.out).mono ?_
      rintro e w1 ⟨rfl, hb1⟩
      have hb01 := bx hb hb1
      cases hq : hasN wait x
      · have HQ := Lib.hid hq
        clear hq
        go_wp2
        refine ⟨⟨k + 1, by omega, by go_num, ?_, hb01⟩, by simp [intOf]; omega⟩
        show (l.take (k + 1)).any (hasN wait) = false
        rw [take_at hx.out, List.any_append, hf.out]
        simp only [List.any_cons, List.any_nil, Bool.or_false, Bool.false_or]
        exact HQ.out
      · have HQ := Lib.hid hq
        clear hq
        go_wp2
        go_ret
        refine ⟨⟨_, rfl, ?_, by omega⟩, hb01⟩
        have : l.any (hasN wait) = true := List.any_eq_true.2 ⟨x, List.mem_of_getElem? hx.out, HQ.out⟩
        simp [this]
    · go_wp2
      go_ret
      have e : l.take k = l := List.take_of_length_le (by omega)
      have hf' := hf.out
      rw [e] at hf'
      exact ⟨⟨_, rfl, by rw [hf']; simp, by omega⟩, hb⟩

set_option maxHeartbeats 400000 in
theorem contains_waits (wait : List ByteArray) (l : List ByteArray) (v : Value) (w : World) (M mb n c : Nat) (h : WaitAt w M mb n c wait) (hl : Sl Enc.str w (Old w) l v) (hs : ∀ s, s ∈ l → s.size ≤ maxLen) :
    Calls Try.prog 60 #[v, .func (.func 61) #[] #[.pointer (some ⟨M, 0, none⟩)]] w fun e w' => e = .returned (.bool (l.any (hasN wait))) ∧ Below w.heap.size w w' := by
  have H := Lib.hid hl
  have HW := Lib.hid h
  have HS := Lib.hid hs
  obtain ⟨A, cp, rfl, hc1, hc2, -⟩ := hl
  clear h hs
  go_enter Try.func60, Try.ntmps60
  go_wp2_with fail
  refine (index_waits wait l _ _ M mb n c HW.out H.out HS.out).mono ?_
  rintro e w1 ⟨⟨j, rfl, hj, hj1⟩, hb1⟩
  have HJ := Lib.hid hj
  clear hj
  go_wp2
  go_ret
  refine ⟨ret_bool ?_, hb1⟩
  have := HJ.out
  by_cases h0 : 0 ≤ j
  · rw [this] at h0; rw [h0]; simpa using (this ▸ h0 : 0 ≤ j)
  · have h1 : ¬ l.any (hasN wait) = true := by rw [← this]; exact h0
    rw [Bool.eq_false_iff.2 h1]; simpa using h0

theorem small_ins {t : TabD} (h : smallT t) : ∀ s, s ∈ t.ins → s.size ≤ maxLen := fun s hs => by have := h.2.1 s hs; unfold maxLen; omega
theorem small_name {t : TabD} (h : smallT t) : t.name.size ≤ maxLen := by have := h.1; unfold maxLen; omega

set_option maxHeartbeats 400000 in
theorem book_waitsFor (wait : List ByteArray) (t : TabD) (v : Value) (w : World) (mb n c : Nat) (h : MapS Try.prog 9 w mb n c (boolF wait)) (ht : TabAt w (Old w) t v) (hs : smallT t) :
    Calls Try.prog 43 #[v, .map (some mb)] w fun e w' => e = .returned (.bool (waitsB wait t)) ∧ Below w.heap.size w w' := by
  have HS := Lib.hid (small_ins hs)
  have HM := Lib.hid h
  clear hs h
  obtain ⟨nm, pol, comp, ins, rules⟩ := t
  obtain ⟨vi, vr, rfl, hi, hr⟩ := ht
  simp only at hi hr HS
  have HE : Hid (waitsB wait ⟨nm, pol, comp, ins, rules⟩ = ins.any (hasN wait)) := rfl
  generalize waitsB wait ⟨nm, pol, comp, ins, rules⟩ = R at *
  have HI := Lib.hid hi
  obtain ⟨Ai, ci, rfl, hi1, hi2, -⟩ := hi
  obtain ⟨Ar, cr, rfl, hr1, hr2, -⟩ := hr
  have hb0 := below_alloc1 w (.cells #[.string nm, .int .i64 pol, .bool comp, .slice Ai ins.length ci, .slice Ar rules.length cr] 25)
  have C0 := Lib.hid (Cs.new w [.string nm, .int .i64 pol, .bool comp, .slice Ai ins.length ci, .slice Ar rules.length cr] 25)
  have hz0 : (w.alloc (.cells #[.string nm, .int .i64 pol, .bool comp, .slice Ai ins.length ci, .slice Ar rules.length cr] 25)).heap.size = w.heap.size + 1 := by simp
  change Hid (Cs (w.alloc (.cells #[.string nm, .int .i64 pol, .bool comp, .slice Ai ins.length ci, .slice Ar rules.length cr] 25)) _ _) at C0
  generalize hw0 : w.alloc (.cells #[.string nm, .int .i64 pol, .bool comp, .slice Ai ins.length ci, .slice Ar rules.length cr] 25) = w0 at *
  have hb1 := below_alloc1 w0 (.cells #[.map (some mb)] 61)
  have C1 := Lib.hid (Cs.new w0 [.map (some mb)] 61)
  change Hid (Cs (w0.alloc (.cells #[.map (some mb)] 61)) _ _) at C1
  rw [hz0] at C1
  have C01 := Lib.hid (C0.out.next hb1)
  have k3 := C01.out.at 3 rfl
  have hb01 := bx hb0 hb1
  have HW : Hid (WaitAt (w0.alloc (.cells #[.map (some mb)] 61)) (w.heap.size + 1) mb n c wait) := ⟨C1.out.at 0 rfl, C1.out.1, HM.out.below hb01⟩
  have HI1 := Lib.hid (HI.out.onOld hb01)
  generalize hw1 : w0.alloc (.cells #[.map (some mb)] 61) = w1 at *
  go_enter Try.func43, Try.ntmps43
  go_wp2_with fail
  clear hw0 hw1
  refine (contains_waits wait ins _ _ (w.heap.size + 1) mb n c HW.out HI1.out HS.out).mono ?_
  rintro e w2 ⟨rfl, hb2⟩
  go_wp2
  go_ret
  exact ⟨ret_bool HE.out.symm, bx hb01 hb2⟩

set_option maxHeartbeats 1000000 in
theorem order_fn (wait : List ByteArray) (t : TabD) (v : Value) (w : World) (M mb n c : Nat) (h : WaitAt w M mb n c wait) (ht : TabAt w (Old w) t v) (hs : smallT t) :
    Calls Try.prog 42 #[v, .pointer (some ⟨M, 0, none⟩)] w fun e w' => e = .returned (.bool (readyT wait t)) ∧ Below w.heap.size w w' := by
  have HS := Lib.hid hs
  have HNM := Lib.hid (small_name hs)
  have HW := Lib.hid h
  have HT := Lib.hid ht
  clear hs h
  have HE : Hid (readyT wait t = (hasN wait t.name && !waitsB wait t)) := rfl
  generalize readyT wait t = R at *
  obtain ⟨vi, vr, rfl, hi, hr⟩ := ht
  obtain ⟨Ai, ci, rfl, hi1, hi2, -⟩ := hi
  obtain ⟨Ar, cr, rfl, hr1, hr2, -⟩ := hr
  have hb0 := below_alloc1 w (.cells #[.string t.name, .int .i64 t.pol, .bool t.comp, .slice Ai t.ins.length ci, .slice Ar t.rules.length cr] 25)
  have C0 := Lib.hid (Cs.new w [.string t.name, .int .i64 t.pol, .bool t.comp, .slice Ai t.ins.length ci, .slice Ar t.rules.length cr] 25)
  change Hid (Cs (w.alloc (.cells #[.string t.name, .int .i64 t.pol, .bool t.comp, .slice Ai t.ins.length ci, .slice Ar t.rules.length cr] 25)) _ _) at C0
  generalize hw0 : w.alloc (.cells #[.string t.name, .int .i64 t.pol, .bool t.comp, .slice Ai t.ins.length ci, .slice Ar t.rules.length cr] 25) = w0 at *
  have k0 := C0.out.at 0 rfl
  have k1 := C0.out.at 1 rfl
  have k2 := C0.out.at 2 rfl
  have k3 := C0.out.at 3 rfl
  have k4 := C0.out.at 4 rfl
  have HW0 := Lib.hid (HW.out.next hb0)
  have HT0 := Lib.hid (HT.out.onOld hb0)
  have cM := HW0.out.cell
  have hl := wait_look HW0.out.map t.name HNM.out
  generalize hnn : hasN wait t.name = nn at *
  have HNN := Lib.hid hnn
  clear hnn
  cases nn
  · have HR : Hid (R = false) := by show _ = _; rw [HE.out]; rfl
    go_enter Try.func42, Try.ntmps42
    go_wp2
    go_ret
    exact ⟨ret_bool HR.out.symm, hb0⟩
  · go_enter Try.func42, Try.ntmps42
    go_wp2_with fail
    refine (book_waitsFor wait t _ _ mb n c HW0.out.map HT0.out HS.out).mono ?_
    rintro e w2 ⟨rfl, hb2⟩
    have HE2 : Hid (R = !waitsB wait t) := by show _ = _; rw [HE.out]; rfl
    clear HE
    generalize waitsB wait t = q at *
    cases q
    · go_wp2
      go_ret
      exact ⟨ret_bool HE2.out.symm, bx hb0 hb2⟩
    · go_wp2
      go_ret
      exact ⟨ret_bool HE2.out.symm, bx hb0 hb2⟩

end Go.Proofs.Ythnfkghgaagaiab
