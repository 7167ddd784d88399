/- span.Less: the difference of two lists of ranges, in a new row. Conditions: the second one's ends are within the bounds; the result fits into 2^47 bytes. -/
import Derived.Test.YtadbdpgcdpjgmaaDoorSpanAdd
import Derived.Test.YtadbdpgcdpjgmaaDoorSetsLess
import Derived.StillTailTactics
namespace Go.Proofs.YtadbdpgcdpjgmaaDoor
open Go.RowKit

set_option maxRecDepth 100000 in
set_option maxHeartbeats 1000000 in
theorem span_Less (a b : List (Int × Int)) (va vb : Value) (w : World) (ha : Sl Enc.rng w (Old w) a va) (hb : Sl Enc.rng w (Old w) b vb) (hl : (a.length + b.length) * 16 ≤ 140737488355328) (hin : allIn b) :
    Calls Tryd.prog 64 #[va, vb] w (AddPost w.heap.size (.slice none 0 0) (lessF a b) w) := by
  have HA := Lib.hid ha
  have HB := Lib.hid hb
  have HI := Lib.hid hin
  clear hin
  obtain ⟨A, c, rfl, hc1, hc2, -⟩ := ha
  obtain ⟨B, d, rfl, hd1, hd2, -⟩ := hb
  unfold maxLen at hc2 hd2
  go_enter Tryd.func64, Tryd.ntmps64
  go_wp2
  go_loopw [5, 6, 11] (fun u j i wr => ∃ (k m : Nat) (O : List (Int × Int)), k ≤ a.length ∧ m ≤ b.length ∧ i = .int .i64 k ∧ j = .int .i64 m ∧ Hid (lessF a b = O ++ lessF (a.drop k) (b.drop m)) ∧ O.length ≤ k + m ∧ OwnR wr w.heap.size 43 u O ∧ Below w.heap.size w wr) (fun _ _ i _ => a.length - (intOf i).toNat)
  case atStart => exact ⟨0, 0, [], Nat.zero_le _, Nat.zero_le _, rfl, rfl, rfl, Nat.zero_le _, OwnR.nil, Below.refl _ _⟩
  case round =>
    rename World => wo
    obtain ⟨k, m, O, hk, hm, rfl, rfl, hF, hO, hown, hbl⟩ := hrel
    have hsz := hbl.size
    by_cases hka : k < a.length
    · obtain ⟨ba, oa, x, y, rfl, hba, hx, a1, a2⟩ := (HA.out.below (fun _ h => h) hbl).rng_at hka
      have HX := Lib.hid (drop_at hx.out)
      go_wp2
      go_loopw [5, 6] (fun u j wi => ∃ (m : Nat) (O : List (Int × Int)) (x' : Int), m ≤ b.length ∧ j = .int .i64 m ∧ Hid (lessF a b = O ++ lessF ((x', y) :: a.drop (k + 1)) (b.drop m)) ∧ O.length ≤ k + m ∧ OwnR wi w.heap.size 43 u O ∧ Hid (u.ownBlock ≠ some wo.heap.size) ∧ wo.heap.size < wi.heap.size ∧ wi.cell? ⟨wo.heap.size, 0, none⟩ = some (.int .i64 x') ∧ wi.cell? ⟨wo.heap.size, 1, none⟩ = some (.int .i64 y) ∧ wi.frozen? ⟨wo.heap.size, 0, none⟩ = false ∧ wi.frozen? ⟨wo.heap.size, 1, none⟩ = false ∧ Below w.heap.size w wi) (fun _ j _ => b.length - (intOf j).toNat)
      case atStart =>
        refine ⟨m, O, x, hm, rfl, ?_, hO, hown.alloc _, ?_, by simp, by simp, by simp, by simp, by simp, hbl.alloc hsz _⟩
        · show lessF a b = _
          rw [hF.out, HX.out]
        · intro e
          have := hown.lt _ e
          omega
      case round =>
        clear hown
        rename World => wi
        obtain ⟨m, O, x', hm, rfl, hF, hO, hown, hne, hlt, r0, r1, f0, f1, hbl⟩ := hrel
        by_cases hmb : m < b.length
        · obtain ⟨bb, ob, p, q, rfl, hbb, hq, b1, b2⟩ := (HB.out.below (fun _ h => h) hbl).rng_at hmb
          obtain ⟨i1, i2, i3, i4⟩ := allIn_at HI.out hq.out
          by_cases hqy : q < y
          · go_wp2_with fail
            go_quiet (fail)
            obtain ⟨w2, hw2⟩ : ∃ w2, wi.drewN nq = w2 := ⟨_, rfl⟩
            have r0 : w2.cell? ⟨wo.heap.size, 0, none⟩ = some (.int .i64 x') := by subst hw2; exact r0
            have r1 : w2.cell? ⟨wo.heap.size, 1, none⟩ = some (.int .i64 y) := by subst hw2; exact r1
            have f0 : w2.frozen? ⟨wo.heap.size, 0, none⟩ = false := by subst hw2; exact f0
            have f1 : w2.frozen? ⟨wo.heap.size, 1, none⟩ = false := by subst hw2; exact f1
            have b1 : w2.cell? ⟨bb, ob + m * 2, none⟩ = some (.int .i64 p) := by subst hw2; exact b1
            have b2 : w2.cell? ⟨bb, ob + m * 2 + 1, none⟩ = some (.int .i64 q) := by subst hw2; exact b2
            have hbl : Below w.heap.size w w2 := by subst hw2; exact below_drewN hbl _
            have hown : OwnR w2 w.heap.size 43 u5 O := by subst hw2; exact hown
            have hlt : wo.heap.size < w2.heap.size := by subst hw2; exact hlt
            rw [hw2]
            clear hw2
            have w1 : IntKind.i64.wrap (p - 1) = p - 1 := IntWalk.i64_in _ (by omega)
            go_wp2_with fail
            go_still_tail 10, (by kernel_rfl)
            clear w1
            go_wp2_with fail
            refine (span_add w.heap.size _ O _ _ _ (by exact hown) (by exact hbl.size) (by omega)).mono ?_
            rintro e w' ⟨v', rfl, ho, hg, hmv⟩
            have HN : Hid (v'.ownBlock ≠ some wo.heap.size) := by
              intro e
              rcases hmv _ e with h' | h'
              · exact hne.out h'
              · have h'' : w2.heap.size ≤ wo.heap.size := h'
                omega
            have hbk : w'.heap[wo.heap.size]? = w2.heap[wo.heap.size]? := hg.block _ (by exact hlt) (fun e => hne.out e.symm)
            have r0' := (World.cell?_of_block (a := ⟨wo.heap.size, 0, none⟩) hbk).trans r0
            have r1' := (World.cell?_of_block (a := ⟨wo.heap.size, 1, none⟩) hbk).trans r1
            have f0' := (World.frozen?_of_block (a := ⟨wo.heap.size, 0, none⟩) hbk).trans f0
            have f1' := (World.frozen?_of_block (a := ⟨wo.heap.size, 1, none⟩) hbk).trans f1
            have hb3 : Below w.heap.size w2 w' := Below.grown (a := w2) (w := w2) (Below.refl _ _) (by exact ⟨hg.os, hg.tape, hg.output, hg.size, hg.block⟩) hbl.size (fun _ hr => (hown.lt _ hr).1)
            have hb2 : Below w.heap.size w w' := hbl.trans hb3
            have hlt' : wo.heap.size < w'.heap.size := Nat.lt_of_lt_of_le hlt hb3.size
            have b2' := (hb3.cell (p := ⟨bb, ob + m * 2 + 1, none⟩) hbb).trans b2
            have HL := Lib.hid (addL_length x' (p - 1))
            have HO := Lib.hid ho
            have HX := Lib.hid (lessF_in (rs := a.drop (k + 1)) (x := x') hq.out hqy)
            clear ho hown hg hmv b1 b2 r0 r1 f0 f1 hbk hne
            have w1 : IntKind.i64.wrap (q + 1) = q + 1 := IntWalk.i64_in _ (by omega)
            go_wp2_with fail
            go_region
            clear w1
            go_wp2
            have em : max x' (q + 1) = (if x' < q + 1 then q + 1 else x') := by simp only [Int.max_def]; split <;> split <;> omega
            refine ⟨⟨m + 1, O ++ addL x' (p - 1), max x' (q + 1), by omega, by go_num, ?_, ?_, ?_, HN, ?_, ?_, ?_, ?_, ?_, ?_⟩, by simp [intOf]; omega⟩
            · show lessF a b = _
              rw [hF.out, HX.out, List.append_assoc]
            · have := HL.out
              rw [List.length_append]; omega
            · exact OwnR.setCell_other HO.out (by exact HN.out) _
            · simpa [World.setCell] using hlt'
            · rw [em]; exact World.cell?_setCell_same w' _ _ r0'
            · exact (World.cell?_setCell_other w' _ _ _ (by simp)).trans r1'
            · simpa using f0'
            · simpa using f1'
            · exact (hb2.setCell (by exact hsz) _).drew
          · go_wp2_with fail
            go_quiet (fail)
            have w1 : IntKind.i64.wrap (p - 1) = p - 1 := IntWalk.i64_in _ (by omega)
            go_wp2_with fail
            go_region
            clear w1
            go_wp2_with fail
            all_goals
              refine (span_add w.heap.size _ O _ _ _ (by exact OwnR.setCell_other hown (by exact hne.out) _) (by simpa [World.setCell] using hbl.size) (by omega)).mono ?_
              rintro e w' ⟨v', rfl, ho, hg, hmv⟩
              have hb2 : Below w.heap.size w w' := ((below_drewN hbl (nq + 1)).setCell (by exact hsz) _).grown hg (by simpa [World.setCell] using hbl.size) (fun _ hr => (hown.lt _ hr).1)
              have HL := Lib.hid (addL_length x' (min y (p - 1)))
              have HY := Lib.hid (lessF_out (rs := a.drop (k + 1)) (x := x') hq.out (by omega))
              rw [addL_congr (x' := x') (y' := min y (p - 1)) rfl (by omega)] at ho
              have HO := Lib.hid ho
              clear ho hg hmv
              go_wp2
              refine ⟨⟨k + 1, m, _, by omega, hm, by go_num, rfl, ?_, ?_, HO.out, hb2⟩, by simp [intOf]; omega⟩
              · show lessF a b = _
                rw [hF.out, HY.out, List.append_assoc]
              · have := HL.out
                rw [List.length_append]; omega
        · have hd : decide (m < b.length) = false := decide_eq_false hmb
          go_wp2_with fail
          go_quiet (fail)
          go_wp2_with fail
          refine (span_add w.heap.size _ O _ _ _ (by exact hown) (by exact hbl.size) (by omega)).mono ?_
          rintro e w' ⟨v', rfl, ho, hg, hmv⟩
          have hb2 : Below w.heap.size w w' := (below_drewN hbl _).grown hg (by exact hbl.size) (fun _ hr => (hown.lt _ hr).1)
          have HL := Lib.hid (addL_length x' y)
          have HY := Lib.hid (lessF_end (rs := a.drop (k + 1)) (x := x') (y := y) (show b.length ≤ m by omega))
          have HO := Lib.hid ho
          clear ho hg hmv
          go_wp2
          refine ⟨⟨k + 1, m, _, by omega, hm, by go_num, rfl, ?_, ?_, HO.out, hb2⟩, by simp [intOf]; omega⟩
          · show lessF a b = _
            rw [hF.out, HY.out, List.append_assoc]
          · have := HL.out
            rw [List.length_append]; omega
    · have HD := Lib.hid (lessF_done (a := a) (b := b.drop m) (k := k) (by omega))
      go_wp2
      go_ret
      exact AddPost.mk (by rw [hF.out, HD.out, List.append_nil]; exact hown) hbl

end Go.Proofs.YtadbdpgcdpjgmaaDoor
