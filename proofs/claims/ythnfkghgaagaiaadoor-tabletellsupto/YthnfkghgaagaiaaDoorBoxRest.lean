/- box.lessEach, Rest, Point and Size. Conditions: argument slices read as lists in old memory; the boxes that are left are few enough to fit into 2^47 bytes. -/
import Derived.Test.YthnfkghgaagaiaaDoorBoxLess
import Derived.Test.YthnfkghgaagaiaaDoorSpanNorm
import Derived.Test.YthnfkghgaagaiaaDoorMem
namespace Go.Proofs.YthnfkghgaagaiaaDoor
open Go.RowKit

theorem pointL_take {b : List (List (Int × Int))} {k : Nat} {s : List (Int × Int)} (h : b[k]? = some s) : pointL (b.take (k + 1)) = pointL (b.take k) ++ (s.head?.map (·.1)).toList := by
  rw [take_at h]
  simp only [pointL, List.filterMap_append]
  cases s <;> rfl
theorem pointL_length (b : List (List (Int × Int))) : (pointL b).length ≤ b.length := List.length_filterMap_le ..
theorem infoInt' : (Tryd.prog.info? 3).map (fun i => (i.zero, i.size, i.bytes)) = some (some (.int .i64 0), 1, 8) := by kernel_rfl
theorem under_ints : Tryd.prog.underlying 26 = some (.slice 3) := by kernel_rfl

end Go.Proofs.YthnfkghgaagaiaaDoor
