/- ratebookref.IsBox, InBox, SameBox, CopyBox, BothBoxes and BoxSize. Conditions: argument slices read as lists in old memory; what is copied fits into 2^47 bytes. -/
import Derived.Test.YtmdljknlbmlacabGreatDoorBoxRest
import Derived.Test.YtmdljknlbmlacabGreatDoorRefSets2
namespace Go.Proofs.YtmdljknlbmlacabGreatDoor
open Go.RowKit

theorem setsB_snoc {b : List (List (Int × Int))} {k : Nat} {s : List (Int × Int)} (h : b[k]? = some s) : setsB (b.take (k + 1)) = (setsB (b.take k) && (decide (0 < s.length) && goodB s)) := by
  rw [take_at h]; simp [setsB, List.all_append]

set_option maxRecDepth 100000 in
set_option maxHeartbeats 400000 in
theorem ref_IsBox (b : List (List (Int × Int))) (v : Value) (n : Int) (w : World) (h : Sl Enc.rng.slice w (Old w) b v) :
    Calls Tryz.prog 61 #[v, .int .i64 n] w fun e w' => e = .returned (.bool (goodBox b n)) ∧ Below w.heap.size w w' := by
  have H := Lib.hid h
  obtain ⟨A, c, rfl, hc1, hc2, -⟩ := h
  unfold maxLen at hc2
  have key : ∀ t : Bool, Hid (t = (decide ((b.length : Int) = n) && decide (n < 4))) → Hid (goodBox b n = (t && setsB b)) := by
    intro t ht
    show goodBox b n = _
    rw [ht.out, goodBox]
    congr 2
    rw [Bool.eq_iff_iff]; simp; omega
  by_cases hn : (b.length : Int) = n
  · have hne : ((b.length : Int) == n) = true := by simp [hn]
    by_cases h4 : n < 4
    · have HT := key true (by simp [Hid, hn, h4])
      have HN := Lib.hid hn
      clear hn key
      go_enter Tryz.func61, Tryz.ntmps61
      go_wp2
      go_loopw [5, 18] (fun q i wr => ∃ k : Nat, k ≤ b.length ∧ i = .int .i64 k ∧ q = .bool (setsB (b.take k)) ∧ Below w.heap.size w wr) (fun _ i _ => b.length - (intOf i).toNat)
      case atStart => exact ⟨0, Nat.zero_le _, rfl, rfl, Below.refl _ _⟩
      case round =>
        obtain ⟨k, hk, rfl, rfl, hb⟩ := hrel
        have hsz := hb.size
        by_cases hlt : k < b.length
        · obtain ⟨bb, o, s, us, rfl, _, hs, h1, h2⟩ := (H.out.below (fun _ h => h) hb).sl_at hlt
          have HS := Lib.hid (h2.more (S' := Old wr) fun _ h => Nat.lt_of_lt_of_le h hsz)
          have HX := Lib.hid (setsB_snoc hs.out)
          obtain ⟨As, cs, rfl, hs1, hs2, -⟩ := h2
          cases hq : setsB (b.take k)
          · have HQ := Lib.hid hq
            clear hq
            rw [HQ.out] at HX
            go_wp2
            exact ⟨⟨k + 1, by omega, by go_num, by rw [HX.out]; rfl, hb⟩, by simp [intOf]; omega⟩
          · have HQ := Lib.hid hq
            clear hq
            rw [HQ.out] at HX
            by_cases h0 : s.length = 0
            · have h0' : (s.length : Int) = 0 := by omega
              have hd : decide ((0 : Int) < s.length) = false := decide_eq_false (by omega)
              have HD : Hid (decide (0 < s.length) = false) := decide_eq_false (by omega)
              rw [HD.out] at HX
              go_wp2
              exact ⟨⟨k + 1, by omega, by go_num, by rw [HX.out]; rfl, hb⟩, by simp [intOf]; omega⟩
            · have h0' : (0 : Int) < s.length := by omega
              have HD : Hid (decide (0 < s.length) = true) := decide_eq_true (by omega)
              rw [HD.out] at HX
              go_wp2_with fail
              refine (ref_IsSet s _ _ HS.out).mono ?_
              rintro e w1 ⟨rfl, hb1⟩
              go_wp2
              exact ⟨⟨k + 1, by omega, by go_num, by rw [HX.out]; rfl, bx hb hb1⟩, by simp [intOf]; omega⟩
        · go_wp2
          go_ret
          have e : b.take k = b := List.take_of_length_le (by omega)
          exact ⟨ret_bool (by rw [HT.out, e]; rfl), hb⟩
    · have HT := key false (by simp [Hid, h4])
      have h4' : decide (n < 4) = false := decide_eq_false h4
      have HN := Lib.hid hn
      clear hn key
      go_enter Tryz.func61, Tryz.ntmps61
      go_wp2
      go_loopw [5, 18] (fun q i wr => ∃ k : Nat, k ≤ b.length ∧ i = .int .i64 k ∧ q = .bool false ∧ Below w.heap.size w wr) (fun _ i _ => b.length - (intOf i).toNat)
      case atStart => exact ⟨0, Nat.zero_le _, rfl, rfl, Below.refl _ _⟩
      case round =>
        obtain ⟨k, hk, rfl, rfl, hb⟩ := hrel
        by_cases hlt : k < b.length
        · obtain ⟨bb, o, s, us, rfl, _, hs, h1, h2⟩ := (H.out.below (fun _ h => h) hb).sl_at hlt
          clear h2
          go_wp2
          exact ⟨⟨k + 1, by omega, by go_num, rfl, hb⟩, by simp [intOf]; omega⟩
        · go_wp2
          go_ret
          exact ⟨ret_bool (by rw [HT.out]; rfl), hb⟩
  · have HT := key false (by simp [Hid, hn])
    have hne : ((b.length : Int) == n) = false := beq_eq_false_iff_ne.2 hn
    clear hn key
    go_enter Tryz.func61, Tryz.ntmps61
    go_wp2
    go_loopw [5, 18] (fun q i wr => ∃ k : Nat, k ≤ b.length ∧ i = .int .i64 k ∧ q = .bool false ∧ Below w.heap.size w wr) (fun _ i _ => b.length - (intOf i).toNat)
    case atStart => exact ⟨0, Nat.zero_le _, rfl, rfl, Below.refl _ _⟩
    case round =>
      obtain ⟨k, hk, rfl, rfl, hb⟩ := hrel
      by_cases hlt : k < b.length
      · obtain ⟨bb, o, s, us, rfl, _, hs, h1, h2⟩ := (H.out.below (fun _ h => h) hb).sl_at hlt
        clear h2
        go_wp2
        exact ⟨⟨k + 1, by omega, by go_num, rfl, hb⟩, by simp [intOf]; omega⟩
      · go_wp2
        go_ret
        exact ⟨ret_bool (by rw [HT.out]; rfl), hb⟩

theorem box_ne_len {a b : List (List (Int × Int))} (h : a.length ≠ b.length) : decide (a = b) = false := decide_eq_false fun e => h (by rw [e])
theorem box_take_ne {a b : List (List (Int × Int))} {k : Nat} {s t : List (Int × Int)} (hs : a[k]? = some s) (ht : b[k]? = some t) (h : decide (s = t) = false) : decide (a = b) = false := by
  refine decide_eq_false fun e => ?_
  subst e
  rw [hs] at ht
  injection ht with ht
  exact absurd ht (of_decide_eq_false h)

end Go.Proofs.YtmdljknlbmlacabGreatDoor
