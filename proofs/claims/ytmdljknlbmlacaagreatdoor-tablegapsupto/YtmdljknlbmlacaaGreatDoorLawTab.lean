/- ratebooklaw.tables returns true. No condition. -/
import Derived.Test.YtmdljknlbmlacaaGreatDoorTabLit
namespace Go.Proofs.YtmdljknlbmlacaaGreatDoor
open Go.RowKit

set_option maxHeartbeats 1000000 in
theorem law_tables (w : World) : Calls Tryz.prog 13 #[] w fun e w' => e = .returned (.bool true) ∧ Below w.heap.size w w' := by
  obtain ⟨ht, hb, hz⟩ := lit_table w
  have k0 := lit_cells w 0 _ rfl
  have k1 := lit_cells w 1 _ rfl
  have k2 := lit_cells w 2 _ rfl
  have k3 := lit_cells w 3 _ rfl
  have k4 := lit_cells w 4 _ rfl
  unfold litV at ht
  have HW : Hid (litW w = litW w) := rfl
  unfold litW at ht hb hz k0 k1 k2 k3 k4
  go_enter Tryz.func13, Tryz.ntmps13
  go_wp2_with fail
  generalize (((((w.alloc (.cells #[.string ⟨#[98]⟩] 9)).alloc (.cells #[.int .i64 1, .int .i64 4] 62)).alloc (.cells #[.bool false, .slice (some ⟨w.heap.size + 1, 0, none⟩) 1 1] 43)).alloc (.cells #[.bool false, .slice none 0 0] 43)).alloc
    (.cells #[.slice (some ⟨w.heap.size + 1 + 1, 0, none⟩) 1 1, .int .i64 7, .slice (some ⟨w.heap.size + 1 + 1 + 1, 0, none⟩) 1 1, .int .i64 5] 40)).alloc
    (.cells #[.string ⟨#[97]⟩, .int .i64 5, .bool false, .slice (some ⟨w.heap.size, 0, none⟩) 1 1, .slice (some ⟨w.heap.size + 1 + 1 + 1 + 1, 0, none⟩) 2 2] 25) = w6 at *
  have hi := lit_ints w6 2
  rw [hz] at hi
  have hb6 := below_alloc1 w6 (.cells #[.int .i64 2] 3)
  refine (table_Says tabT [2] _ _ _ (ht.onOld hb6) hi tabT_small).mono ?_
  rintro e w7 ⟨rfl, hb7⟩
  rw [tabT_two]
  have hb67 := bx hb6 hb7
  have hg : w.heap.size + 1 + 1 + 1 + 1 + 1 < w6.heap.size := by omega
  have j0 := (hb67.cell (p := ⟨w.heap.size + 1 + 1 + 1 + 1 + 1, 0, none⟩) hg).trans k0
  have j1 := (hb67.cell (p := ⟨w.heap.size + 1 + 1 + 1 + 1 + 1, 1, none⟩) hg).trans k1
  have j2 := (hb67.cell (p := ⟨w.heap.size + 1 + 1 + 1 + 1 + 1, 2, none⟩) hg).trans k2
  have j3 := (hb67.cell (p := ⟨w.heap.size + 1 + 1 + 1 + 1 + 1, 3, none⟩) hg).trans k3
  have j4 := (hb67.cell (p := ⟨w.heap.size + 1 + 1 + 1 + 1 + 1, 4, none⟩) hg).trans k4
  have HT7 := Lib.hid (ht.onOld hb67)
  have hb07 := bx hb hb67
  clear k0 k1 k2 k3 k4 ht hi hb hz hb6 hb7 hb67
  go_wp2_with fail
  have hi := lit_ints w7 9
  have hb8 := below_alloc1 w7 (.cells #[.int .i64 9] 3)
  refine (table_Says tabT [9] _ _ _ (HT7.out.onOld hb8) hi tabT_small).mono ?_
  rintro e w8 ⟨rfl, hb9⟩
  rw [tabT_nine]
  clear hi j0 j1 j2 j3 j4
  go_wp2
  go_ret
  exact ⟨rfl, bx hb07 (bx hb8 hb9)⟩

end Go.Proofs.YtmdljknlbmlacaaGreatDoor
