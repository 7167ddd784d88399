/- span.clipped: what of each range is within bounds, in a new row. Condition: the argument takes at most 2^47 bytes. -/
import Derived.Test.YtadbdpgcdpjgmaaDoorSpanAdd
namespace Go.Proofs.YtadbdpgcdpjgmaaDoor
open Go.RowKit

set_option maxHeartbeats 400000 in
theorem span_clipped (l : List (Int × Int)) (v : Value) (w : World) (h : Sl Enc.rng w (Old w) l v) (hl : l.length * 16 ≤ 140737488355328) :
    Calls Tryd.prog 76 #[v] w (AddPost w.heap.size (.slice none 0 0) (clipL l) w) := by
  have H := Lib.hid h
  obtain ⟨A, c, rfl, hc1, hc2, -⟩ := h
  unfold maxLen at hc2
  go_enter Tryd.func76, Tryd.ntmps76
  go_wp2
  go_loopw [3, 8] (fun u i wr => ∃ k : Nat, k ≤ l.length ∧ i = .int .i64 k ∧ OwnR wr w.heap.size 43 u (clipL (l.take k)) ∧ Below w.heap.size w wr) (fun _ i _ => l.length - (intOf i).toNat)
  case atStart => exact ⟨0, Nat.zero_le _, rfl, OwnR.nil, Below.refl _ _⟩
  case round =>
    obtain ⟨k, hk, rfl, hown, hb⟩ := hrel
    have hsz := hb.size
    have hcl := clipL_take_length l k
    by_cases hlt : k < l.length
    · obtain ⟨b, o, x, y, rfl, _, hx, h1, h2⟩ := (H.out.below (fun _ h => h) hb).rng_at hlt
      go_wp2_with fail
      all_goals
        refine (span_add w.heap.size _ (clipL (l.take k)) _ _ _ (hown.alloc _) (by simp; omega) (by omega)).mono ?_
        rintro e w' ⟨v', rfl, ho, hg, _⟩
        rw [addL_congr (x' := max x (-1000000)) (y' := min y 1000000) (by omega) (by omega), ← clipL_at hx.out] at ho
        have hb2 : Below w.heap.size w w' := (hb.alloc hsz _).grown hg (by simp; omega) (fun _ hr => (hown.lt _ hr).1)
        go_wp2
        exact ⟨⟨k + 1, by omega, by go_num, ho, hb2⟩, by simp [intOf]; omega⟩
    · go_wp2
      go_ret
      rw [List.take_of_length_le (by omega)] at hown
      exact AddPost.mk hown hb

end Go.Proofs.YtadbdpgcdpjgmaaDoor
