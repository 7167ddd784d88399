/- ratebookkeep.spans: package span answers at all. No condition. -/
import Derived.Test.YtmdljknlbmlacabGreatDoorKeepSpan
import Derived.Test.YtmdljknlbmlacabGreatDoorSpanNorm
namespace Go.Proofs.YtmdljknlbmlacabGreatDoor
open Go.RowKit

theorem norm_ex : normL [(5, 9), (1, 4)] = [(1, 9)] := by
  refine good_unique (normL_good _).1 (b := [(1, 9)]) (L' := -1000002) (by rfl) fun n => ?_
  rw [(normL_good _).2, Bool.eq_iff_iff]
  simp [hasB]
  omega
theorem own_lit (w : World) (l : List (Int × Int)) (cs : Array Value) (h : cs.toList = cellsR l) (hl : l.length ≤ maxLen) : OwnR (w.alloc (.cells cs 107)) w.heap.size 107 (.slice (some ⟨w.heap.size, 0, none⟩) l.length l.length) l := by
  have := World.ownsRow_lit (base := w.heap.size) (e := 107) (size := 2) w cs l.length (Nat.le_refl _) hl (by rw [← Array.length_toList, h, cellsR_length])
  rw [h] at this
  exact this

end Go.Proofs.YtmdljknlbmlacabGreatDoor
