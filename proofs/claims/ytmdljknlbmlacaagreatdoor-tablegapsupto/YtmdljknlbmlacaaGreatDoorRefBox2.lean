/- ratebookref.CopyBox, BothBoxes and BoxSize. Conditions: argument slices read as lists in old memory; what is copied fits into 2^47 bytes. -/
import Derived.Test.YtmdljknlbmlacaaGreatDoorRefBox
namespace Go.Proofs.YtmdljknlbmlacaaGreatDoor
open Go.RowKit

set_option maxHeartbeats 400000 in
theorem ref_CopyBox (b : List (List (Int × Int))) (v : Value) (w : World) (h : Sl Enc.rng.slice w (Old w) b v) (hl : b.length * 24 ≤ 140737488355328) (hs : ∀ s, s ∈ b → s.length * 16 ≤ 140737488355328) :
    Calls Tryz.prog 5 #[v] w (RowPost Enc.rng.slice 41 w.heap.size b w) := by
  have H := Lib.hid h
  have HL := Lib.hid hs
  clear hs
  obtain ⟨A, c, rfl, hc1, hc2, -⟩ := h
  unfold maxLen at hc2
  go_enter Tryz.func5, Tryz.ntmps5
  go_wp2
  go_loopw [3, 8] (fun u i wr => ∃ k : Nat, k ≤ b.length ∧ i = .int .i64 k ∧ OwnG Enc.rng.slice wr w.heap.size w.heap.size 41 u (b.take k) ∧ Below w.heap.size w wr) (fun _ i _ => b.length - (intOf i).toNat)
  case atStart => exact ⟨0, Nat.zero_le _, rfl, OwnG.nil, Below.refl _ _⟩
  case round =>
    obtain ⟨k, hk, rfl, hown, hb⟩ := hrel
    have hsz := hb.size
    by_cases hlt : k < b.length
    · obtain ⟨bb, o, s, us, rfl, _, hx, h1, h2⟩ := (H.out.below (fun _ h => h) hb).sl_at hlt
      have HS := Lib.hid h2
      have HO := Lib.hid hown
      have HT := Lib.hid (take_at hx.out)
      have hlen : (b.take k).length = k := by rw [List.length_take]; omega
      have HN := Lib.hid hlen
      have hsl := HL.out s (List.mem_of_getElem? hx.out)
      clear h2 hown hlen
      go_wp2_with (first | (at_builtin; refine wpList_append_all (E := Enc.rng) _ rfl _ _ 41 rfl wr.heap.size wr.heap.size 62 16 (.agg #[.int .i64 0, .int .i64 0]) under_rs infoRange rfl (by decide) _ [] rfl OwnG.nil _ s rfl _ HS.out (fun _ _ h => h) (by simp; omega) (by unfold maxLen; simp; omega) (Nat.le_refl _) ?_; intro v1 w1 hown1 hg1 _; have hn1 := hown1.sl (Nat.le_refl _); obtain ⟨A1, c1, rfl, -, -⟩ := hn1.form; have hb1 : Below wr.heap.size wr w1 := below_of_grown hg1 (Nat.le_refl _) (fun _ h => by cases h); have HO1 := Lib.hid ((HO.out.next hb1).alloc (.cells #[.slice A1 s.length c1] 41)); have HY : Hid (Enc.rng.slice.rd (w1.alloc (.cells #[.slice A1 s.length c1] 41)) (Off w.heap.size (w1.alloc (.cells #[.slice A1 s.length c1] 41)) u3) s [.slice A1 s.length c1]) := ⟨_, rfl, (hn1.on (below_alloc1 _ _)).more (off_new HO.out hsz (Nat.le_refl _))⟩; have hb2 : Below w.heap.size w (w1.alloc (.cells #[.slice A1 s.length c1] 41)) := (bx hb hb1).alloc (Nat.le_trans hsz hb1.size) _; have hsz1 := hb1.size; clear hn1 hb1 hg1 hown1) | (at_builtin; refine wpList_append_one (E := Enc.rng.slice) _ rfl _ _ 27 rfl w.heap.size w.heap.size 41 24 (.slice none 0 0) under_box infoSet rfl (by decide) _ _ rfl HO1.out ⟨w1.heap.size, 0, none⟩ s [.slice A1 s.length c1] rfl HY.out (cell_one_new _ _ _) ?_ ?_ ?_ ?_; (rw [HN.out]; omega); (rw [HN.out]; unfold maxLen; omega); (simp; omega); intro v' w3 hown' hgrow3 _))
      refine ⟨⟨k + 1, by omega, by go_num, by rw [HT.out]; exact hown', hb2.grown hgrow3 (by simp; omega) (fun _ hr => (HO.out.lt _ hr).1)⟩, by simp [intOf]; omega⟩
    · go_wp2
      go_ret
      have e : b.take k = b := List.take_of_length_le (by omega)
      exact ⟨_, rfl, by rw [← e]; exact hown, hb⟩

end Go.Proofs.YtmdljknlbmlacaaGreatDoor
