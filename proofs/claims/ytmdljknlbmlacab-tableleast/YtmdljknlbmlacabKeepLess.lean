/- ratebookkeep.less, as a Lean function of the lists that its arguments read as. Condition: both read as lists in old memory. -/
import Derived.Test.YtmdljknlbmlacabTableI
import Derived.Test.YtmdljknlbmlacabTabsSays
import Derived.Test.YtmdljknlbmlacabKeepTab
import Derived.BigQuiet
namespace Go.Proofs.Ytmdljknlbmlacab
open Go.RowKit

theorem lessK_at {a b : List Int} {k : Nat} {x y : Int} (h : a[k]? = some x) (h' : b[k]? = some y) : lessK (a.drop k) (b.drop k) = if x = y then lessK (a.drop (k + 1)) (b.drop (k + 1)) else decide (x < y) := by
  rw [drop_at h, drop_at h']; rfl

set_option maxHeartbeats 1000000 in
theorem keep_less (a b : List Int) (va vb : Value) (w : World) (ha : Sl Enc.int w (Old w) a va) (hb : Sl Enc.int w (Old w) b vb) :
    Calls Try.prog 14 #[va, vb] w fun e w' => e = .returned (.bool (lessK a b)) ∧ Below w.heap.size w w' := by
  have HA := Lib.hid ha
  have HB := Lib.hid hb
  obtain ⟨A, c, rfl, hc1, hc2, -⟩ := ha
  obtain ⟨B, d, rfl, hd1, hd2, -⟩ := hb
  unfold maxLen at hc2 hd2
  go_enter Try.func14, Try.ntmps14
  go_wp2
  go_loopw [8] (fun i wr => ∃ k : Nat, k ≤ a.length ∧ k ≤ b.length ∧ i = .int .i64 k ∧ Hid (lessK a b = lessK (a.drop k) (b.drop k)) ∧ Below w.heap.size w wr) (fun i _ => a.length - (intOf i).toNat)
  case atStart => exact ⟨0, Nat.zero_le _, Nat.zero_le _, rfl, rfl, Below.refl _ _⟩
  case round =>
    obtain ⟨k, hk, hk2, rfl, hf, hbl⟩ := hrel
    by_cases hlt : k < a.length
    · obtain ⟨ba, oa, x, rfl, _, hx, c1⟩ := (HA.out.onOld hbl).num_at hlt
      have hka : (k : Int) < a.length := by omega
      have hk0 : (0 : Int) ≤ k := by omega
      by_cases hlb : k < b.length
      · obtain ⟨bb, ob, y, rfl, _, hy, c2⟩ := (HB.out.onOld hbl).num_at hlb
        have HC := Lib.hid (lessK_at hx.out hy.out)
        have hkb : (k : Int) < b.length := by omega
        have hd1' : decide (b.length ≤ k) = false := by simp; omega
        have hd2' : decide ((b.length : Int) ≤ (k : Int)) = false := by simp; omega
        have hd3' : decide (k < b.length) = true := by simp; omega
        by_cases h1 : x = y
        · have HV : Hid (lessK a b = lessK (a.drop (k + 1)) (b.drop (k + 1))) := by show _ = _; rw [hf.out, HC.out, if_pos h1]
          have h1' : (x != y) = false := by simp [h1]
          have H1 := Lib.hid h1
          clear h1
          go_wp2_with fail
          go_quiet (fail)
          go_wp2
          exact ⟨⟨k + 1, by omega, by omega, by go_num, HV, below_drewN hbl _⟩, by simp [intOf]; omega⟩
        · have HV : Hid (lessK a b = decide (x < y)) := by show _ = _; rw [hf.out, HC.out, if_neg h1]
          have h1' : (x != y) = true := by simpa using h1
          go_wp2_with fail
          go_quiet (fail)
          go_wp2_with fail
          go_quiet (fail)
          go_wp2
          go_ret
          exact ⟨ret_bool HV.out.symm, below_drewN (below_drewN hbl _) _⟩
      · have HV : Hid (lessK a b = false) := by
          show _ = _
          rw [hf.out, drop_at hx.out, List.drop_of_length_le (show b.length ≤ k by omega)]; rfl
        have hkb : (b.length : Int) ≤ k := by omega
        have hd1' : decide (b.length ≤ k) = true := by simp; omega
        have hd2' : decide ((b.length : Int) ≤ (k : Int)) = true := by simp; omega
        have hd3' : decide (k < b.length) = false := by simp; omega
        go_wp2_with fail
        go_quiet (fail)
        go_wp2_with fail
        go_quiet (fail)
        go_wp2
        go_ret
        exact ⟨ret_bool HV.out.symm, below_drewN (below_drewN hbl _) _⟩
    · have hf' := hf.out
      rw [List.drop_of_length_le (show a.length ≤ k by omega)] at hf'
      have HV : Hid (lessK a b = false) := by show _ = _; rw [hf']; rfl
      go_wp2
      go_ret
      exact ⟨ret_bool HV.out.symm, hbl⟩

end Go.Proofs.Ytmdljknlbmlacab
