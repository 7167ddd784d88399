/- ratebookref.isNumber, IsSet and InSet, ratebooklaw.ranges. Conditions: argument slices read as lists of pairs in old memory; what is copied takes at most 2^47 bytes. -/
import Derived.Test.YtmdljknlbmlacabGreatDoorSpanNorm
import Derived.Laws.AppendOwnNone
namespace Go.Proofs.YtmdljknlbmlacabGreatDoor
open Go.RowKit

def numB (n : Int) : Bool := decide (-1000000 ≤ n) && decide (n ≤ 1000000)
theorem numB_true {n : Int} (h1 : -1000000 ≤ n) (h2 : n ≤ 1000000) : numB n = true := by simp [numB, h1, h2]
theorem numB_false {n : Int} (h : ¬ (-1000000 ≤ n ∧ n ≤ 1000000)) : numB n = false := by
  cases h' : numB n with
  | false => rfl
  | true => simp [numB] at h'; exact absurd h' h

set_option maxHeartbeats 400000 in
theorem ref_isNumber (n : Int) (w : World) :
    Calls Tryz.prog 58 #[.int .i64 n] w fun e w' => e = .returned (.bool (numB n)) ∧ w = w' := by
  by_cases h1 : -1000000 ≤ n
  · by_cases h2 : n ≤ 1000000
    · go_enter Tryz.func58, Tryz.ntmps58
      go_wp2
      go_ret
      exact ⟨ret_bool (by simp [numB, h1, h2]), rfl⟩
    · go_enter Tryz.func58, Tryz.ntmps58
      go_wp2
      go_ret
      exact ⟨ret_bool (numB_false (by omega)).symm, rfl⟩
  · go_enter Tryz.func58, Tryz.ntmps58
    go_wp2
    go_ret
    exact ⟨ret_bool (by rw [numB_false (by omega)]), rfl⟩

set_option maxHeartbeats 400000 in
theorem ref_IsSet (l : List (Int × Int)) (v : Value) (w : World) (h : Sl Enc.rng w (Old w) l v) :
    Calls Tryz.prog 59 #[v] w fun e w' => e = .returned (.bool (goodB l)) ∧ Below w.heap.size w w' := by
  have H := Lib.hid h
  obtain ⟨A, c, rfl, hc1, hc2, -⟩ := h
  unfold maxLen at hc2
  go_enter Tryz.func59, Tryz.ntmps59
  go_wp2
  go_loopw [3, 8] (fun u i wr => ∃ (k : Nat) (last : Int), k ≤ l.length ∧ i = .int .i64 k ∧ u = .int .i64 last ∧ (Hid (goodB l = goodFrom last (l.drop k))) ∧ -1000002 ≤ last ∧ last ≤ 1000000 ∧ Below w.heap.size w wr) (fun _ i _ => l.length - (intOf i).toNat)
  case atStart => exact ⟨0, -1000002, Nat.zero_le _, rfl, rfl, rfl, by omega, by omega, Below.refl _ _⟩
  case round =>
    obtain ⟨k, last, hk, rfl, rfl, hf, hl1, hl2, hb⟩ := hrel
    have hsz := hb.size
    by_cases hlt : k < l.length
    · obtain ⟨b, o, x, y, rfl, _, hx, h1, h2⟩ := (H.out.below (fun _ h => h) hb).rng_at hlt
      by_cases i1 : -1000000 ≤ x ∧ x ≤ 1000000
      · have n1 := Lib.hid (numB_true i1.1 i1.2)
        by_cases i2 : -1000000 ≤ y ∧ y ≤ 1000000
        · have n2 := Lib.hid (numB_true i2.1 i2.2)
          obtain ⟨i3, i4⟩ := i1
          obtain ⟨i5, i6⟩ := i2
          go_wp2_with fail
          refine (ref_isNumber x _).mono ?_
          rintro e w1 ⟨rfl, rfl⟩
          rw [n1.out]
          go_wp2_with fail
          refine (ref_isNumber y _).mono ?_
          rintro e w1 ⟨rfl, rfl⟩
          rw [n2.out]
          go_wp2
          all_goals first
            | (go_ret; exact ⟨ret_bool (by rw [hf.out, goodFrom_at hx.out]; simp; omega), hb.alloc hsz _⟩)
            | (refine ⟨⟨k + 1, y, by omega, by go_num, rfl, ?_, by omega, by omega, hb.alloc hsz _⟩, by simp [intOf]; omega⟩; (show goodB l = _); rw [hf.out, goodFrom_at hx.out]; simp; omega)
        · have n2 := Lib.hid (numB_false i2)
          go_wp2_with fail
          refine (ref_isNumber x _).mono ?_
          rintro e w1 ⟨rfl, rfl⟩
          rw [n1.out]
          go_wp2_with fail
          refine (ref_isNumber y _).mono ?_
          rintro e w1 ⟨rfl, rfl⟩
          rw [n2.out]
          go_wp2
          go_ret
          exact ⟨ret_bool (by rw [hf.out, goodFrom_at hx.out]; simp; omega), hb.alloc hsz _⟩
      · have n1 := Lib.hid (numB_false i1)
        go_wp2_with fail
        refine (ref_isNumber x _).mono ?_
        rintro e w1 ⟨rfl, rfl⟩
        rw [n1.out]
        go_wp2
        go_ret
        exact ⟨ret_bool (by rw [hf.out, goodFrom_at hx.out]; simp; omega), hb.alloc hsz _⟩
    · go_wp2
      go_ret
      have hf' := hf.out
      rw [List.drop_of_length_le (by omega)] at hf'
      exact ⟨ret_bool hf'.symm, hb⟩

set_option maxHeartbeats 400000 in
theorem ref_InSet (l : List (Int × Int)) (v : Value) (n : Int) (w : World) (h : Sl Enc.rng w (Old w) l v) :
    Calls Tryz.prog 96 #[v, .int .i64 n] w fun e w' => e = .returned (.bool (hasB l n)) ∧ Below w.heap.size w w' := by
  have H := Lib.hid h
  obtain ⟨A, c, rfl, hc1, hc2, -⟩ := h
  unfold maxLen at hc2
  go_enter Tryz.func96, Tryz.ntmps96
  go_wp2
  go_loopw [5, 10] (fun u i wr => ∃ (k : Nat) (is : Bool), k ≤ l.length ∧ i = .int .i64 k ∧ u = .bool is ∧ Hid (hasB (l.take k) n = is) ∧ Below w.heap.size w wr) (fun _ i _ => l.length - (intOf i).toNat)
  case atStart => exact ⟨0, false, Nat.zero_le _, rfl, rfl, rfl, Below.refl _ _⟩
  case round =>
    obtain ⟨k, is, hk, rfl, rfl, hf, hb⟩ := hrel
    have hsz := hb.size
    by_cases hlt : k < l.length
    · obtain ⟨b, o, x, y, rfl, _, hx, h1, h2⟩ := (H.out.below (fun _ h => h) hb).rng_at hlt
      cases is
      · by_cases hx1 : x ≤ n
        · go_wp2
          refine ⟨⟨k + 1, _, by omega, by go_num, rfl, ?_, hb.alloc hsz _⟩, by simp [intOf]; omega⟩
          show hasB _ n = _
          rw [hasB_take l hx.out, hf.out]; simp [hx1]
        · go_wp2
          refine ⟨⟨k + 1, _, by omega, by go_num, rfl, ?_, hb.alloc hsz _⟩, by simp [intOf]; omega⟩
          show hasB _ n = _
          rw [hasB_take l hx.out, hf.out]; simp; omega
      · go_wp2
        refine ⟨⟨k + 1, _, by omega, by go_num, rfl, ?_, hb.alloc hsz _⟩, by simp [intOf]; omega⟩
        show hasB _ n = _
        rw [hasB_take l hx.out, hf.out]; simp
    · go_wp2
      go_ret
      have hf' := hf.out
      rw [List.take_of_length_le (by omega)] at hf'
      exact ⟨ret_bool hf'.symm, hb⟩

theorem oneCell_cellsR (l : List (Int × Int)) : ∀ u ∈ cellsR l, u.oneCell' = true := by
  intro u hu
  simp only [cellsR, List.mem_flatMap] at hu
  obtain ⟨x, _, h⟩ := hu
  simp at h
  rcases h with rfl | rfl <;> rfl
theorem cellsR_at {w : World} {S : Nat → Prop} {l : List (Int × Int)} {a : Addr} {n c : Nat} (h : Sl Enc.rng w S l (.slice (some a) n c)) : ∀ j u, (cellsR l)[j]? = some u → w.cell? (a.add j) = some u := by
  intro j u hj
  have hlt : j < l.length * 2 := by
    have := (List.getElem?_eq_some_iff.1 hj).1
    rwa [cellsR_length] at this
  obtain ⟨b, o, x, y, e, _, hx, c0, c1⟩ := h.rng_at (k := j / 2) (by omega)
  injection e with e
  subst e
  obtain ⟨g0, g1⟩ := cellsR_get l (j / 2) (x, y) hx.out
  have ea : ∀ i, (⟨b, o, none⟩ : Addr).add i = ⟨b, o + i, none⟩ := fun i => by unfold Addr.add; split <;> simp_all
  rw [ea]
  rcases Nat.mod_two_eq_zero_or_one j with hm | hm
  · rw [show j / 2 * 2 = j from by omega] at g0 c0
    rw [hj] at g0; injection g0 with g0; subst g0; exact c0
  · rw [show j / 2 * 2 + 1 = j from by omega] at g1
    rw [hj] at g1; injection g1 with g1; subst g1
    rw [← c1]; congr 2; omega

end Go.Proofs.YtmdljknlbmlacabGreatDoor
