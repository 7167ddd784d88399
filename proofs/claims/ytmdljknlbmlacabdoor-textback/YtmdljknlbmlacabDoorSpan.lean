/- The functions of package span, each as a Lean function of the lists that its arguments read as. Conditions: an argument slice reads as a list of pairs in old memory; where a result is appended to, it fits into 2^47 bytes. span.add and span.clipped: what they return, over rows that the caller has made. Conditions: what is appended to is the caller's own new row and fits into 2^47 bytes. span.clipped: what of each range is within bounds, in a new row. Condition: the argument takes at most 2^47 bytes. span.merge: the merged ranges, in a new row. Conditions: all upper ends are within the bounds, and the argument takes at most 2^47 bytes. span.Both: the intersection of two lists of ranges, in a new row. Condition: the result fits into 2^47 bytes. span.Less: the difference of two lists of ranges, in a new row. Conditions: the second one's ends are within the bounds; the result fits into 2^47 bytes. -/
import Derived.Test.YtmdljknlbmlacabDoorProg
import Derived.Test.YtmdljknlbmlacabDoorMem
import Derived.Test.YtmdljknlbmlacabDoorSets
import Derived.WalkLawsBesides
import Derived.BigQuiet
import Derived.Deep.QuietTactic
import Derived.StillTailTactics
namespace Go.Proofs.YtmdljknlbmlacabDoor
open Go.RowKit

theorem infoRange : (Tryd.prog.info? 77).map (fun i => (i.zero, i.size, i.bytes)) = some (some (.agg #[.int .i64 0, .int .i64 0]), 2, 16) := by kernel_rfl

set_option maxHeartbeats 400000 in
theorem span_empty (a b : Int) (w : World) :
    Calls Tryd.prog 76 #[.agg #[.int .i64 a, .int .i64 b]] w fun e w' => e = .returned (.bool (decide (b < a))) ∧ Below w.heap.size w w' := by
  go_enter Tryd.func76, Tryd.ntmps76
  go_wp2
  go_ret
  exact ⟨rfl, (Below.refl _ _).alloc (Nat.le_refl _) _⟩

set_option maxHeartbeats 400000 in
theorem span_Good (l : List (Int × Int)) (v : Value) (w : World) (h : Sl Enc.rng w (Old w) l v) :
    Calls Tryd.prog 62 #[v] w fun e w' => e = .returned (.bool (goodB l)) ∧ Below w.heap.size w w' := by
  have H := Lib.hid h
  obtain ⟨A, c, rfl, hc1, hc2, -⟩ := h
  unfold maxLen at hc2
  go_enter Tryd.func62, Tryd.ntmps62
  go_wp2
  go_loopw [7] (fun i wr => ∃ k : Nat, k ≤ l.length ∧ i = .int .i64 k ∧ (Hid (goodB l = goodFrom (lastHi l k) (l.drop k))) ∧ -1000002 ≤ lastHi l k ∧ lastHi l k ≤ 1000000 ∧ Below w.heap.size w wr) (fun i _ => l.length - (intOf i).toNat)
  case atStart => exact ⟨0, Nat.zero_le _, rfl, rfl, by simp [lastHi], by simp [lastHi], Below.refl _ _⟩
  case round =>
    obtain ⟨k, hk, rfl, hf, hl1, hl2, hb⟩ := hrel
    have hsz := hb.size
    by_cases hlt : k < l.length
    · obtain ⟨b, o, x, y, rfl, _, hx, h1, h2⟩ := (H.out.below (fun _ h => h) hb).rng_at hlt
      by_cases hin : -1000000 ≤ x ∧ y ≤ 1000000 ∧ x ≤ y
      · obtain ⟨i1, i2, i3⟩ := hin
        by_cases h0 : 0 < k
        · go_wp2_with (go_at_call 76; refine (span_empty _ _ _).mono ?_; rintro e w' ⟨rfl, hb'⟩)
          have hb2 : Below w.heap.size w w' := below_next (hb.alloc hsz _) (by simp; omega) hb'
          have q0 : w'.cell? ⟨wr.heap.size, 0, none⟩ = some (.int .i64 x) := (hb'.cell (p := ⟨wr.heap.size, 0, none⟩) (by simp)).trans (by simp)
          obtain ⟨b2, o2, x2, y2, e, _, hx2, _, p2⟩ := (H.out.below (fun _ h => h) hb2).rng_at (k := k - 1) (by omega)
          obtain ⟨rfl, rfl⟩ := some_addr e
          have HP := Lib.hid (lastHi_pred h0 hx2.out)
          have hp1 : -1000002 ≤ y2 := by rw [← HP.out]; exact hl1
          have hp2 : y2 ≤ 1000000 := by rw [← HP.out]; exact hl2
          clear hl1 hl2 hb' hb h1 h2 e
          have w1 : IntKind.i64.wrap ((k : Int) - 1) = (k : Int) - 1 := IntWalk.i64_in _ (by omega)
          have w2 : IntKind.i64.wrap (y2 + 1) = y2 + 1 := IntWalk.i64_in _ (by omega)
          have w3 : 0 ≤ (k : Int) - 1 := by omega
          have w4 : ((k : Int) - 1).toNat = k - 1 := by omega
          have w5 : (k : Int) - 1 < l.length := by omega
          go_quiet (fail)
          clear w1 w2 w4
          go_wp2
          · go_ret
            exact ⟨ret_bool (by rw [hf.out, goodFrom_at hx.out, HP.out]; simp; omega), below_drewN hb2 _⟩
          · refine ⟨⟨k + 1, by omega, by go_num, ?_, ?_, ?_, below_drewN hb2 _⟩, by simp [intOf]; omega⟩
            · show goodB l = _
              rw [hf.out, goodFrom_at hx.out, lastHi_succ hx.out, HP.out]; simp; omega
            · rw [lastHi_succ hx.out]; omega
            · rw [lastHi_succ hx.out]; omega
        · go_wp2_with (go_at_call 76; refine (span_empty _ _ _).mono ?_; rintro e w' ⟨rfl, hb'⟩)
          have hb2 : Below w.heap.size w w' := below_next (hb.alloc hsz _) (by simp; omega) hb'
          have hd : decide (0 < k) = false := by simpa using h0
          have HP : Hid (lastHi l k = -1000002) := by simp [lastHi, show k = 0 from by omega, Hid]
          go_quiet (fail)
          go_wp2
          refine ⟨⟨k + 1, by omega, by go_num, ?_, ?_, ?_, below_drewN hb2 _⟩, by simp [intOf]; omega⟩
          · show goodB l = _
            rw [hf.out, goodFrom_at hx.out, lastHi_succ hx.out, HP.out]; simp; omega
          · rw [lastHi_succ hx.out]; omega
          · rw [lastHi_succ hx.out]; omega
      · go_wp2_with (go_at_call 76; refine (span_empty _ _ _).mono ?_; rintro e w' ⟨rfl, hb'⟩)
        all_goals go_ret
        · exact ⟨ret_bool (by rw [hf.out, goodFrom_at hx.out]; simp; omega), below_next (hb.alloc hsz _) (by simp; omega) hb'⟩
        · exact ⟨ret_bool (by rw [hf.out, goodFrom_at hx.out]; simp; omega), hb.alloc hsz _⟩
        · exact ⟨ret_bool (by rw [hf.out, goodFrom_at hx.out]; simp; omega), hb.alloc hsz _⟩
    · go_wp2
      go_ret
      have hf' := hf.out
      rw [List.drop_of_length_le (by omega)] at hf'
      exact ⟨ret_bool hf'.symm, hb⟩

end Go.Proofs.YtmdljknlbmlacabDoor
namespace Go.Proofs.YtmdljknlbmlacabDoor
open Go.RowKit

theorem under_rs : Tryd.prog.underlying 53 = some (.slice 77) := by kernel_rfl

/-- the new row reads as l; of what was there only the old row's block may have turned -/
def AddPost (base : Nat) (v : Value) (l : List (Int × Int)) (w : World) (e : Ending) (w' : World) : Prop :=
  ∃ v', e = .returned v' ∧ OwnR w' base 77 v' l ∧ w.grownBy w' v.ownBlock ∧ Moved w v v'

/-- of a row that began empty in this call -/
theorem AddPost.mk {w w' : World} {v' : Value} {l : List (Int × Int)} (ho : OwnR w' w.heap.size 77 v' l) (hb : Below w.heap.size w w') : AddPost w.heap.size (.slice none 0 0) l w (.returned v') w' :=
  ⟨v', rfl, ho, grown_of_below hb, fun _ hg => .inr (ho.lt _ hg).1⟩

end Go.Proofs.YtmdljknlbmlacabDoor
namespace Go.Proofs.YtmdljknlbmlacabDoor
open Go.RowKit

end Go.Proofs.YtmdljknlbmlacabDoor
namespace Go.Proofs.YtmdljknlbmlacabDoor
open Go.RowKit

theorem OwnR.form' {w : World} {base e : Nat} {v : Value} {l : List (Int × Int)} (h : OwnR w base e v l) : ∃ A c, v = .slice A l.length c ∧ l.length ≤ c ∧ c ≤ maxLen := by
  rcases h.form with ⟨rfl, rfl⟩ | ⟨g, c, rfl, _, _, h4, h5⟩
  · exact ⟨none, 0, rfl, Nat.le_refl _, by unfold maxLen; omega⟩
  · exact ⟨_, c, rfl, h4, h5⟩

theorem cell_two_at (w : World) (g : Nat) (hg : g = w.heap.size) (a b : Value) (t : TypeId) : ∀ j u, [a, b][j]? = some u → (w.alloc (.cells #[a, b] t)).cell? ((⟨g, 0, none⟩ : Addr).add j) = some u := by
  subst hg; exact cell_two_new _ _ _ _

end Go.Proofs.YtmdljknlbmlacabDoor
namespace Go.Proofs.YtmdljknlbmlacabDoor
open Go.RowKit

end Go.Proofs.YtmdljknlbmlacabDoor
namespace Go.Proofs.YtmdljknlbmlacabDoor
open Go.RowKit

end Go.Proofs.YtmdljknlbmlacabDoor
