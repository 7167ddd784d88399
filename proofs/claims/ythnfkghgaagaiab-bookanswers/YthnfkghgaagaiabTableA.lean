/- table.Named, slices.Index, slices.Contains, goodInputs, goodCell, goodRule, goodRules and Good, each as a Lean function of the data that its arguments read as. Conditions: argument slices read as lists in old memory. -/
import Derived.Test.YthnfkghgaagaiabSpan
import Derived.Test.YthnfkghgaagaiabBox
import Derived.Test.YthnfkghgaagaiabTabs
namespace Go.Proofs.Ythnfkghgaagaiab
open Go.RowKit

theorem letters_at {s : ByteArray} {k : Nat} {b : UInt8} (h : s.data.toList[k]? = some b) : (s.data.toList.drop k).all letterB = (letterB b && (s.data.toList.drop (k + 1)).all letterB) := all_at h

set_option maxHeartbeats 400000 in
theorem table_Named (s : ByteArray) (w : World) (hs : s.size ≤ 140737488355328) :
    Calls Try.prog 22 #[.string s] w fun e w' => e = .returned (.bool (nameB s)) ∧ Below w.heap.size w w' := by
  by_cases h0 : s.size = 0
  · have HE : Hid (nameB s = false) := by simp [nameB, h0, Hid]
    have h0' : (s.size : Int) = 0 := by omega
    go_enter Try.func22, Try.ntmps22
    go_wp2
    go_ret
    exact ⟨ret_bool HE.out.symm, Below.refl _ _⟩
  · by_cases h8 : s.size ≤ 8
    · have HE : Hid (nameB s = s.data.toList.all letterB) := by simp [nameB, h8, Hid]; omega
      have h0' : ((s.size : Int) == 0) = false := beq_eq_false_iff_ne.2 (by omega)
      have h8' : (s.size : Int) ≤ 8 := by omega
      go_enter Try.func22, Try.ntmps22
      go_wp2
      go_loopw [14] (fun i wr => ∃ k : Nat, k ≤ s.size ∧ i = .int .i64 k ∧ Hid (s.data.toList.all letterB = (s.data.toList.drop k).all letterB) ∧ Below w.heap.size w wr) (fun i _ => s.size - (intOf i).toNat)
      case atStart => exact ⟨0, Nat.zero_le _, rfl, rfl, Below.refl _ _⟩
      case round =>
        obtain ⟨k, hk, rfl, hf, hb⟩ := hrel
        by_cases hlt : k < s.size
        · have HX := Lib.hid (letters_at (s := s) (k := k) (b := s[k]) (by rw [List.getElem?_eq_getElem (by simpa using hlt)]; rfl))
          by_cases h1 : s[k].toNat < 97
          · have h1' : (s[k].toNat : Int) < 97 := by omega
            have HL : Hid (letterB s[k] = false) := by simp [letterB, Hid]; omega
            go_wp2
            go_ret
            exact ⟨ret_bool (by rw [HE.out, hf.out, HX.out, HL.out]; rfl), hb⟩
          · by_cases h2 : 122 < s[k].toNat
            · have h1' : 97 ≤ (s[k].toNat : Int) := by omega
              have h2' : 122 < (s[k].toNat : Int) := by omega
              have HL : Hid (letterB s[k] = false) := by simp [letterB, Hid]; omega
              go_wp2
              go_ret
              exact ⟨ret_bool (by rw [HE.out, hf.out, HX.out, HL.out]; rfl), hb⟩
            · have h1' : 97 ≤ (s[k].toNat : Int) := by omega
              have h2' : (s[k].toNat : Int) ≤ 122 := by omega
              have HL : Hid (letterB s[k] = true) := by simp [letterB, Hid]; omega
              go_wp2
              refine ⟨⟨k + 1, by omega, by go_num, ?_, hb⟩, by simp [intOf]; omega⟩
              show s.data.toList.all letterB = _
              rw [hf.out, HX.out, HL.out]; rfl
        · go_wp2
          go_ret
          have hf' := hf.out
          rw [List.drop_of_length_le (by have : s.data.toList.length = s.size := rfl; omega)] at hf'
          exact ⟨ret_bool (by rw [HE.out, hf']; rfl), hb⟩
    · have HE : Hid (nameB s = false) := by simp [nameB, h8, Hid]
      go_enter Try.func22, Try.ntmps22
      go_wp2
      go_ret
      exact ⟨ret_bool HE.out.symm, Below.refl _ _⟩

set_option maxHeartbeats 400000 in
/-- the first place at which a text stands; -1, if nowhere -/
theorem slices_Index (l : List ByteArray) (v : Value) (s : ByteArray) (w : World) (h : Sl Enc.str w (Old w) l v) :
    Calls Try.prog 62 #[v, .string s] w fun e w' => (∃ j : Int, e = .returned (.int .i64 j) ∧ (0 ≤ j) = (l.any (sameS s) = true) ∧ -1 ≤ j) ∧ Below w.heap.size w w' := by
  have H := Lib.hid h
  obtain ⟨A, c, rfl, hc1, hc2, -⟩ := h
  unfold maxLen at hc2
  go_enter Try.func62, Try.ntmps62
  go_wp2
  go_loopw [8] (fun i wr => ∃ k : Nat, k ≤ l.length ∧ i = .int .i64 k ∧ Hid ((l.take k).any (sameS s) = false) ∧ Below w.heap.size w wr) (fun i _ => l.length - (intOf i).toNat)
  case atStart => exact ⟨0, Nat.zero_le _, rfl, rfl, Below.refl _ _⟩
  case round =>
    obtain ⟨k, hk, rfl, hf, hb⟩ := hrel
    by_cases hlt : k < l.length
    · obtain ⟨b, o, x, rfl, _, hx, c1⟩ := (H.out.below (fun _ h => h) hb).str_at hlt
      by_cases hq : (s.toList == x.toList) = true
      · have HQ := Lib.hid hq
        go_wp2
        go_ret
        refine ⟨⟨_, rfl, ?_, by omega⟩, hb⟩
        have : l.any (sameS s) = true := List.any_eq_true.2 ⟨x, List.mem_of_getElem? hx.out, HQ.out⟩
        simp [this]
      · have hq' : (s.toList == x.toList) = false := by simpa using hq
        have HQ := Lib.hid hq'
        clear hq
        go_wp2
        refine ⟨⟨k + 1, by omega, by go_num, ?_, hb⟩, by simp [intOf]; omega⟩
        show (l.take (k + 1)).any (sameS s) = false
        rw [take_at hx.out, List.any_append, hf.out]
        simp only [List.any_cons, List.any_nil, Bool.or_false, Bool.false_or]
        exact HQ.out
    · go_wp2
      go_ret
      have e : l.take k = l := List.take_of_length_le (by omega)
      have hf' := hf.out
      rw [e] at hf'
      exact ⟨⟨_, rfl, by rw [hf']; simp, by omega⟩, hb⟩

set_option maxHeartbeats 400000 in
theorem slices_Contains (l : List ByteArray) (v : Value) (s : ByteArray) (w : World) (h : Sl Enc.str w (Old w) l v) :
    Calls Try.prog 44 #[v, .string s] w fun e w' => e = .returned (.bool (l.any (sameS s))) ∧ Below w.heap.size w w' := by
  have H := Lib.hid h
  obtain ⟨A, c, rfl, hc1, hc2, -⟩ := h
  go_enter Try.func44, Try.ntmps44
  go_wp2_with fail
  refine (slices_Index l _ s _ H.out).mono ?_
  rintro e w1 ⟨⟨j, rfl, hj, hj1⟩, hb1⟩
  have HJ := Lib.hid hj
  clear hj
  go_wp2
  go_ret
  refine ⟨ret_bool ?_, hb1⟩
  have := HJ.out
  by_cases h0 : 0 ≤ j
  · rw [this] at h0; rw [h0]; simpa using (this ▸ h0 : 0 ≤ j)
  · have h1 : ¬ l.any (sameS s) = true := by rw [← this]; exact h0
    rw [Bool.eq_false_iff.2 h1]; simpa using h0

end Go.Proofs.Ythnfkghgaagaiab
