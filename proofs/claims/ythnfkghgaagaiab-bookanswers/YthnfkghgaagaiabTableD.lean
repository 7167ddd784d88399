/- table.forbids, conflict, sum, slices.Min, slices.Max, combine and Says, each as a Lean function of the data that its arguments read as. Conditions: argument slices read as lists in old memory; numbers that are added are bounded as those of good tables are. -/
import Derived.Test.YthnfkghgaagaiabTableC
namespace Go.Proofs.Ythnfkghgaagaiab
open Go.RowKit

theorem table_forbids (p a b : Int) (w : World) :
    Calls Try.prog 31 #[.int .i64 p, .int .i64 a, .int .i64 b] w fun e w' => e = .returned (.bool (forbidsB p a b)) ∧ Below w.heap.size w w' := by
  by_cases h1 : p = 1
  · subst h1
    have HE : Hid (forbidsB 1 a b = true) := by simp [forbidsB, Hid]
    go_enter Try.func31, Try.ntmps31
    go_wp2
    go_ret
    exact ⟨ret_bool HE.out.symm, Below.refl _ _⟩
  · by_cases h2 : p = 2
    · subst h2
      have HE : Hid (forbidsB 2 a b = decide (a ≠ b)) := by simp [forbidsB, Hid]
      go_enter Try.func31, Try.ntmps31
      go_wp2
      go_ret
      refine ⟨ret_bool ?_, Below.refl _ _⟩
      rw [HE.out]
      by_cases hab : a = b <;> simp [hab]
    · have h1' : (p == 1) = false := beq_eq_false_iff_ne.2 h1
      have h2' : (p == 2) = false := beq_eq_false_iff_ne.2 h2
      have HE : Hid (forbidsB p a b = false) := by simp [forbidsB, h1, h2, Hid]
      go_enter Try.func31, Try.ntmps31
      go_wp2
      go_ret
      exact ⟨ret_bool HE.out.symm, Below.refl _ _⟩

theorem any_at {α : Type} {f : α → Bool} {l : List α} {k : Nat} {x : α} (h : l[k]? = some x) : (l.drop k).any f = (f x || (l.drop (k + 1)).any f) := by
  rw [drop_at h]; rfl

set_option maxHeartbeats 1000000 in
theorem table_conflict (p : Int) (l : List Int) (v : Value) (w : World) (h : Sl Enc.int w (Old w) l v) :
    Calls Try.prog 34 #[.int .i64 p, v] w fun e w' => e = .returned (.bool (conflictB p l)) ∧ Below w.heap.size w w' := by
  have H := Lib.hid h
  obtain ⟨A, c, rfl, hc1, hc2, -⟩ := h
  unfold maxLen at hc2
  by_cases h0 : l.length = 0
  · have HE : Hid (conflictB p l = false) := by rw [List.length_eq_zero_iff.1 h0]; rfl
    have h0' : (l.length : Int) = 0 := by omega
    go_enter Try.func34, Try.ntmps34
    go_wp2
    go_loopw [5] (fun i wr => i = .int .i64 1 ∧ Below w.heap.size w wr) (fun _ _ => 0)
    case atStart => exact ⟨rfl, Below.refl _ _⟩
    case round =>
      obtain ⟨rfl, hb⟩ := hrel
      go_wp2
      go_ret
      exact ⟨ret_bool HE.out.symm, hb⟩
  · obtain ⟨b0, o0, a, e0, hS0, ha, c0⟩ := H.out.num_at (k := 0) (by omega)
    subst e0
    have HE : Hid (conflictB p l = (l.drop 1).any (forbidsB p a)) := by
      have := ha.out
      cases l with
      | nil => simp at this
      | cons z l => simp at this; subst this; rfl
    have hb0 : b0 < w.heap.size := hS0
    have c0' : w.cell? ⟨b0, o0, none⟩ = some (.int .i64 a) := by simpa using c0
    clear c0 hS0
    generalize hN : l.length = N at *
    have HN := Lib.hid hN
    clear hN
    have hl0 : (0 : Int) < N := by omega
    have hn0 : 0 < N := by omega
    have hn1 : ¬ N = 0 := by omega
    go_enter Try.func34, Try.ntmps34
    go_wp2
    go_loopw [5] (fun i wr => ∃ k : Nat, 1 ≤ k ∧ k ≤ N ∧ i = .int .i64 k ∧ Hid ((l.drop 1).any (forbidsB p a) = (l.drop k).any (forbidsB p a)) ∧ Below w.heap.size w wr) (fun i _ => N - (intOf i).toNat)
    case atStart => exact ⟨1, by omega, by omega, rfl, rfl, Below.refl _ _⟩
    case round =>
      obtain ⟨k, hk1, hk, rfl, hf, hb⟩ := hrel
      have hsz := hb.size
      by_cases hlt : k < N
      · obtain ⟨b1, o1, x, e1, hS1, hx, c1⟩ := (H.out.onOld hb).num_at (show k < l.length by rw [HN.out]; exact hlt)
        obtain ⟨rfl, rfl⟩ := some_addr e1
        have k0 := (hb.cell (p := ⟨b0, o0, none⟩) hb0).trans c0'
        have hb0' : b0 < wr.heap.size := by omega
        have HX := Lib.hid (any_at (f := forbidsB p a) hx.out)
        have hk' : (k : Int) < N := by omega
        have hk0' : (0 : Int) ≤ k := by omega
        go_wp2_with fail
        go_region_held3 (fun w' => w'.cell? ⟨b0, o0, none⟩ = some (.int .i64 a) ∧ w'.cell? ⟨b0, o0 + k, none⟩ = some (.int .i64 x)) (first | exact ⟨k0, c1⟩ | exact ⟨j0, j1⟩)
          (first
           | (go_at_call 31; refine (table_forbids p a x _).mono ?_; rintro e w1 ⟨rfl, hb1⟩; have j0 := (hb1.cell (p := ⟨b0, o0, none⟩) hb0').trans k0; have j1 := (hb1.cell (p := ⟨b0, o0 + k, none⟩) hb0').trans c1; have hb01 := bx hb (undrew hb1); clear hb1))
        cases hg : forbidsB p a x
        · have HG := Lib.hid hg
          clear hg
          go_wp2
          refine ⟨⟨k + 1, by omega, by omega, by go_num, ?_, hb01⟩, by simp [intOf]; omega⟩
          show (l.drop 1).any (forbidsB p a) = _
          rw [hf.out, HX.out, HG.out]; rfl
        · have HG := Lib.hid hg
          clear hg
          go_wp2
          go_ret
          exact ⟨ret_bool (by rw [HE.out, hf.out, HX.out, HG.out]; rfl), hb01⟩
      · go_wp2
        go_ret
        have hf' := hf.out
        rw [List.drop_of_length_le (show l.length ≤ k by rw [HN.out]; omega)] at hf'
        exact ⟨ret_bool (by rw [HE.out, hf']; rfl), hb⟩

theorem sum_take {l : List Int} {k : Nat} {x : Int} (h : l[k]? = some x) : (l.take (k + 1)).sum = (l.take k).sum + x := by
  rw [take_at h]; simp
theorem sum_take_bound {l : List Int} (hb : ∀ x, x ∈ l → -1000000 ≤ x ∧ x ≤ 1000000) (k : Nat) : -1000000 * (k : Int) ≤ (l.take k).sum ∧ (l.take k).sum ≤ 1000000 * (k : Int) := by
  induction k with
  | zero => simp
  | succ k ih =>
    by_cases hk : k < l.length
    · have hx : l[k]? = some l[k] := List.getElem?_eq_getElem hk
      rw [sum_take hx]
      have := hb _ (List.getElem_mem hk)
      push_cast
      omega
    · rw [List.take_of_length_le (by omega)]
      rw [List.take_of_length_le (by omega)] at ih
      push_cast
      omega

set_option maxHeartbeats 400000 in
theorem table_sum (l : List Int) (v : Value) (w : World) (h : Sl Enc.int w (Old w) l v) (hb : ∀ x, x ∈ l → -1000000 ≤ x ∧ x ≤ 1000000) (hl : l.length ≤ 6) :
    Calls Try.prog 55 #[v] w fun e w' => e = .returned (.int .i64 l.sum) ∧ Below w.heap.size w w' := by
  have H := Lib.hid h
  have HB := Lib.hid hb
  clear hb
  obtain ⟨A, c, rfl, hc1, hc2, -⟩ := h
  unfold maxLen at hc2
  go_enter Try.func55, Try.ntmps55
  go_wp2
  go_loopw [3, 8] (fun s i wr => ∃ k : Nat, k ≤ l.length ∧ i = .int .i64 k ∧ s = .int .i64 (l.take k).sum ∧ Below w.heap.size w wr) (fun _ i _ => l.length - (intOf i).toNat)
  case atStart => exact ⟨0, Nat.zero_le _, rfl, rfl, Below.refl _ _⟩
  case round =>
    obtain ⟨k, hk, rfl, rfl, hbl⟩ := hrel
    by_cases hlt : k < l.length
    · obtain ⟨b, o, x, rfl, _, hx, c1⟩ := (H.out.onOld hbl).num_at hlt
      have h1 := sum_take_bound HB.out k
      have h2 := HB.out x (List.mem_of_getElem? hx.out)
      have HT := Lib.hid (sum_take hx.out)
      generalize (l.take k).sum = T at *
      have w1 : IntKind.i64.wrap (T + x) = T + x := IntWalk.i64_in _ (by omega)
      go_wp2
      exact ⟨⟨k + 1, by omega, by go_num, by rw [HT.out], hbl⟩, by simp [intOf]; omega⟩
    · go_wp2
      go_ret
      have e : l.take k = l := List.take_of_length_le (by omega)
      exact ⟨ret_int (by rw [e]), hbl⟩

theorem minL_take {l : List Int} {k : Nat} {x : Int} (h : l[k]? = some x) (h0 : 0 < k) : minL (l.take (k + 1)) = min (minL (l.take k)) x := by
  rw [take_at h]
  cases l with
  | nil => simp at h
  | cons a l =>
    cases k with
    | zero => omega
    | succ k => simp [minL, List.foldl_append]
theorem maxL_take {l : List Int} {k : Nat} {x : Int} (h : l[k]? = some x) (h0 : 0 < k) : maxL (l.take (k + 1)) = max (maxL (l.take k)) x := by
  rw [take_at h]
  cases l with
  | nil => simp at h
  | cons a l =>
    cases k with
    | zero => omega
    | succ k => simp [maxL, List.foldl_append]

set_option maxHeartbeats 400000 in
theorem slices_Min (l : List Int) (v : Value) (w : World) (h : Sl Enc.int w (Old w) l v) (h0 : 0 < l.length) :
    Calls Try.prog 53 #[v] w fun e w' => e = .returned (.int .i64 (minL l)) ∧ Below w.heap.size w w' := by
  have H := Lib.hid h
  obtain ⟨A, c, rfl, hc1, hc2, -⟩ := h
  unfold maxLen at hc2
  obtain ⟨b0, o0, a, e0, hS0, ha, c0⟩ := H.out.num_at (k := 0) h0
  subst e0
  have c0' : w.cell? ⟨b0, o0, none⟩ = some (.int .i64 a) := by simpa using c0
  have HA : Hid (minL (l.take 1) = a) := by
    have := ha.out
    cases l with
    | nil => simp at this
    | cons z l => simp at this; subst this; rfl
  have hl0 : (0 : Int) < l.length := by omega
  have hl1 : 1 ≤ (l.length : Int) := by omega
  clear c0
  go_enter Try.func53, Try.ntmps53
  go_wp2
  go_loopw [3, 4] (fun m i wr => ∃ k : Nat, 1 ≤ k ∧ k ≤ l.length ∧ i = .int .i64 k ∧ m = .int .i64 (minL (l.take k)) ∧ Below w.heap.size w wr) (fun _ i _ => l.length - (intOf i).toNat)
  case atStart => exact ⟨1, by omega, by omega, rfl, by rw [HA.out], Below.refl _ _⟩
  case round =>
    obtain ⟨k, hk1, hk, rfl, rfl, hbl⟩ := hrel
    by_cases hlt : k < l.length
    · obtain ⟨b1, o1, x, e1, _, hx, c1⟩ := (H.out.onOld hbl).num_at hlt
      obtain ⟨rfl, rfl⟩ := some_addr e1
      have HT := Lib.hid (minL_take hx.out hk1)
      generalize minL (l.take k) = T at *
      go_wp2
      refine ⟨⟨k + 1, by omega, by omega, by go_num, ?_, hbl⟩, by simp [intOf]; omega⟩
      rw [HT.out]
      congr 1
      split <;> omega
    · go_wp2
      go_ret
      have e : l.take k = l := List.take_of_length_le (by omega)
      exact ⟨ret_int (by rw [e]), hbl⟩

set_option maxHeartbeats 400000 in
theorem slices_Max (l : List Int) (v : Value) (w : World) (h : Sl Enc.int w (Old w) l v) (h0 : 0 < l.length) :
    Calls Try.prog 54 #[v] w fun e w' => e = .returned (.int .i64 (maxL l)) ∧ Below w.heap.size w w' := by
  have H := Lib.hid h
  obtain ⟨A, c, rfl, hc1, hc2, -⟩ := h
  unfold maxLen at hc2
  obtain ⟨b0, o0, a, e0, hS0, ha, c0⟩ := H.out.num_at (k := 0) h0
  subst e0
  have c0' : w.cell? ⟨b0, o0, none⟩ = some (.int .i64 a) := by simpa using c0
  have HA : Hid (maxL (l.take 1) = a) := by
    have := ha.out
    cases l with
    | nil => simp at this
    | cons z l => simp at this; subst this; rfl
  have hl0 : (0 : Int) < l.length := by omega
  have hl1 : 1 ≤ (l.length : Int) := by omega
  clear c0
  go_enter Try.func54, Try.ntmps54
  go_wp2
  go_loopw [3, 4] (fun m i wr => ∃ k : Nat, 1 ≤ k ∧ k ≤ l.length ∧ i = .int .i64 k ∧ m = .int .i64 (maxL (l.take k)) ∧ Below w.heap.size w wr) (fun _ i _ => l.length - (intOf i).toNat)
  case atStart => exact ⟨1, by omega, by omega, rfl, by rw [HA.out], Below.refl _ _⟩
  case round =>
    obtain ⟨k, hk1, hk, rfl, rfl, hbl⟩ := hrel
    by_cases hlt : k < l.length
    · obtain ⟨b1, o1, x, e1, _, hx, c1⟩ := (H.out.onOld hbl).num_at hlt
      obtain ⟨rfl, rfl⟩ := some_addr e1
      have HT := Lib.hid (maxL_take hx.out hk1)
      generalize maxL (l.take k) = T at *
      go_wp2
      refine ⟨⟨k + 1, by omega, by omega, by go_num, ?_, hbl⟩, by simp [intOf]; omega⟩
      rw [HT.out]
      congr 1
      split <;> omega
    · go_wp2
      go_ret
      have e : l.take k = l := List.take_of_length_le (by omega)
      exact ⟨ret_int (by rw [e]), hbl⟩

end Go.Proofs.Ythnfkghgaagaiab
