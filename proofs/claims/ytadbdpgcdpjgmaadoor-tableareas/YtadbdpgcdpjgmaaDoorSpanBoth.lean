/- span.Both: the intersection of two lists of ranges, in a new row. Condition: the result fits into 2^47 bytes. -/
import Derived.Test.YtadbdpgcdpjgmaaDoorSpanAdd
import Derived.Test.YtadbdpgcdpjgmaaDoorSetsBoth
import Derived.StillTailTactics
namespace Go.Proofs.YtadbdpgcdpjgmaaDoor
open Go.RowKit

set_option maxRecDepth 100000 in
set_option maxHeartbeats 400000 in
theorem span_Both (a b : List (Int × Int)) (va vb : Value) (w : World) (ha : Sl Enc.rng w (Old w) a va) (hb : Sl Enc.rng w (Old w) b vb) (hl : (a.length + b.length) * 16 ≤ 140737488355328) :
    Calls Tryd.prog 65 #[va, vb] w (AddPost w.heap.size (.slice none 0 0) (bothF a b) w) := by
  have HA := Lib.hid ha
  have HB := Lib.hid hb
  obtain ⟨A, c, rfl, hc1, hc2, -⟩ := ha
  obtain ⟨B, d, rfl, hd1, hd2, -⟩ := hb
  unfold maxLen at hc2 hd2
  go_enter Tryd.func65, Tryd.ntmps65
  go_wp2
  go_loopw [5, 6, 7] (fun u i j wr => ∃ (k m : Nat) (O : List (Int × Int)), k ≤ a.length ∧ m ≤ b.length ∧ i = .int .i64 k ∧ j = .int .i64 m ∧ Hid (bothF a b = O ++ bothF (a.drop k) (b.drop m)) ∧ O.length ≤ k + m ∧ OwnR wr w.heap.size 43 u O ∧ Below w.heap.size w wr) (fun _ i j _ => (a.length - (intOf i).toNat) + (b.length - (intOf j).toNat))
  case atStart => exact ⟨0, 0, [], Nat.zero_le _, Nat.zero_le _, rfl, rfl, rfl, Nat.zero_le _, OwnR.nil, Below.refl _ _⟩
  case round =>
    obtain ⟨k, m, O, hk, hm, rfl, rfl, hF, hO, hown, hbl⟩ := hrel
    have hsz := hbl.size
    by_cases hlt : k < a.length ∧ m < b.length
    · obtain ⟨hka, hmb⟩ := hlt
      obtain ⟨ba, oa, x, y, rfl, hba, hx, a1, a2⟩ := (HA.out.below (fun _ h => h) hbl).rng_at hka
      obtain ⟨bb, ob, p, q, rfl, hbb, hq, b1, b2⟩ := (HB.out.below (fun _ h => h) hbl).rng_at hmb
      go_wp2_with fail
      go_still_tail 24, (by kernel_rfl)
      go_wp2_with fail
      all_goals
        refine (span_add w.heap.size _ O _ _ _ (by exact hown) (by exact hsz) (by omega)).mono ?_
        rintro e w' ⟨v', rfl, ho, hg, _⟩
        rw [addL_congr (x' := max x p) (y' := min y q) (by omega) (by omega)] at ho
        have hb3 : Below w.heap.size wr w' := (Below.refl _ _).drew.grown hg (by exact hsz) (fun _ hr => (hown.lt _ hr).1)
        have hb2 : Below w.heap.size w w' := hbl.trans hb3
        have a2' := (hb3.cell (p := ⟨ba, oa + k * 2 + 1, none⟩) hba).trans a2
        have b2' := (hb3.cell (p := ⟨bb, ob + m * 2 + 1, none⟩) hbb).trans b2
        have HL := Lib.hid (addL_length (max x p) (min y q))
        have HO := Lib.hid ho
        have HX := Lib.hid (bothF_at hx.out hq.out)
        clear ho hown hg a1 a2 b1 b2
        by_cases hyq : y < q
        · go_wp2_with fail
          go_quiet (fail)
          go_wp2
          refine ⟨⟨k + 1, m, _, by omega, by omega, by go_num, rfl, ?_, ?_, HO.out, below_drewN hb2 _⟩, by simp [intOf]; omega⟩
          · show bothF a b = _
            rw [hF.out, HX.out, if_pos hyq, List.append_assoc]
          · have := HL.out
            rw [List.length_append]; omega
        · go_wp2_with fail
          go_quiet (fail)
          go_wp2
          refine ⟨⟨k, m + 1, _, by omega, by omega, rfl, by go_num, ?_, ?_, HO.out, below_drewN hb2 _⟩, by simp [intOf]; omega⟩
          · show bothF a b = _
            rw [hF.out, HX.out, if_neg (show ¬ y < q from by omega), List.append_assoc]
          · have := HL.out
            rw [List.length_append]; omega
    · have HD := Lib.hid (bothF_done (a := a) (b := b) (i := k) (j := m) (by omega))
      by_cases hka : k < a.length
      · have hmb : ¬ m < b.length := by omega
        go_wp2
        go_ret
        exact AddPost.mk (by rw [hF.out, HD.out, List.append_nil]; exact hown) hbl
      · go_wp2
        go_ret
        exact AddPost.mk (by rw [hF.out, HD.out, List.append_nil]; exact hown) hbl

end Go.Proofs.YtadbdpgcdpjgmaaDoor
