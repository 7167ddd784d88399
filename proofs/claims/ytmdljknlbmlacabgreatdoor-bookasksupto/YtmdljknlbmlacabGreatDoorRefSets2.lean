/- ratebookref.BothOf, LessOf, SizeOf and SameSet, ratebooklaw.spans. Conditions: argument slices read as lists of pairs in old memory; for BothOf and LessOf both are sets. -/
import Derived.Test.YtmdljknlbmlacabGreatDoorRefSets
import Derived.Test.YtmdljknlbmlacabGreatDoorKeepSpans
namespace Go.Proofs.YtmdljknlbmlacabGreatDoor
open Go.RowKit

theorem heap_alloc_size (w : World) (o : Obj) : (w.alloc o).heap.size = w.heap.size + 1 := by simp
theorem cell_box (w : World) (g : Nat) (x : Value) (t : TypeId) (hg : g = w.heap.size) : (w.alloc (.cells #[x] t)).cell? ⟨g, 0, none⟩ = some x := by subst hg; simp
theorem loIn_of_good {l : List (Int × Int)} (h : goodB l = true) : loIn l := fun r hr => by have := good_allIn h r hr; omega

set_option maxHeartbeats 400000 in
theorem ref_SameSet (a b : List (Int × Int)) (va vb : Value) (w : World) (ha : Sl Enc.rng w (Old w) a va) (hb : Sl Enc.rng w (Old w) b vb) :
    Calls Tryz.prog 67 #[va, vb] w fun e w' => e = .returned (.bool (decide (a = b))) ∧ Below w.heap.size w w' := by
  have HA := Lib.hid ha
  have HB := Lib.hid hb
  obtain ⟨A, c, rfl, hc1, hc2, -⟩ := ha
  obtain ⟨B, d, rfl, hd1, hd2, -⟩ := hb
  unfold maxLen at hc2 hd2
  by_cases hlen : a.length = b.length
  · have hne : ((a.length : Int) != (b.length : Int)) = false := by simp [hlen]
    have HL := Lib.hid hlen
    clear hlen
    go_enter Tryz.func67, Tryz.ntmps67
    go_wp2
    go_loopw [13] (fun i wr => ∃ k : Nat, k ≤ a.length ∧ i = .int .i64 k ∧ Hid (a.take k = b.take k) ∧ Below w.heap.size w wr) (fun i _ => a.length - (intOf i).toNat)
    case atStart => exact ⟨0, Nat.zero_le _, rfl, rfl, Below.refl _ _⟩
    case round =>
      obtain ⟨k, hk, rfl, hT, hbl⟩ := hrel
      by_cases hka : k < a.length
      · have hkb : k < b.length := by have := HL.out; omega
        obtain ⟨ba, oa, x, y, rfl, hba, hx, a1, a2⟩ := (HA.out.below (fun _ h => h) hbl).rng_at hka
        obtain ⟨bb, ob, p, q, rfl, hbb, hq, b1, b2⟩ := (HB.out.below (fun _ h => h) hbl).rng_at hkb
        have heq := fun w => eqRange x y p q w
        by_cases hxy : x = p ∧ y = q
        · have hb1 : (x == p) = true := by simp [hxy.1]
          have hb2 : (y == q) = true := by simp [hxy.2]
          have HXY := Lib.hid hxy
          clear hxy
          go_wp2_with fail
          go_quiet (fail)
          clear heq
          go_wp2
          refine ⟨⟨k + 1, by omega, by go_num, ?_, below_drewN hbl _⟩, by simp [intOf]; omega⟩
          show a.take (k + 1) = b.take (k + 1)
          rw [take_at hx.out, take_at hq.out, hT.out, HXY.out.1, HXY.out.2]
        · have hb1 : (x == p && y == q) = false := by
            cases h1 : (x == p) <;> cases h2 : (y == q) <;> simp_all
          have HXY := Lib.hid (take_ne hx.out hq.out hxy)
          clear hxy
          go_wp2_with fail
          go_quiet (fail)
          clear heq
          go_wp2
          go_ret
          exact ⟨ret_bool HXY.out.symm, below_drewN hbl _⟩
      · go_wp2
        go_ret
        refine ⟨ret_bool ?_, hbl⟩
        have e := hT.out
        have := HL.out
        rw [List.take_of_length_le (by omega), List.take_of_length_le (by omega)] at e
        simp [e]
  · have HD := Lib.hid (ne_len hlen)
    have hne : ((a.length : Int) != (b.length : Int)) = true := by simp; omega
    go_enter Tryz.func67, Tryz.ntmps67
    go_wp2
    go_ret
    exact ⟨ret_bool HD.out.symm, Below.refl _ _⟩

end Go.Proofs.YtmdljknlbmlacabGreatDoor
