/- box.Less: what of one box is not in another, as boxes in new memory. Condition: argument slices read as lists in old memory. box.lessEach, Rest, Point and Size. Conditions: argument slices read as lists in old memory; the boxes that are left are few enough to fit into 2^47 bytes. -/
import Derived.Test.YtmdljknlbmlacaaDoorBoxMake
import Derived.Test.YtmdljknlbmlacaaDoorMem
import Derived.Test.YtmdljknlbmlacaaDoorSpanNorm
namespace Go.Proofs.YtmdljknlbmlacaaDoor
open Go.RowKit

theorem lessR_at {p a b : List (List (Int × Int))} {k : Nat} {s t : List (Int × Int)} (ha : a[k]? = some s) (hb : b[k]? = some t) :
    lessR p (a.drop k) (b.drop k) = (if (lessF s t).length = 0 then [] else [p ++ lessF s t :: a.drop (k + 1)]) ++ lessR (p ++ [bothF s t]) (a.drop (k + 1)) (b.drop (k + 1)) := by
  rw [drop_at ha, drop_at hb, lessR]
theorem inter_len {a b : List (List (Int × Int))} (h : b.length = a.length) : (interL a b).length = a.length := by simp [interL]; omega
theorem sets_small {b : List (List (Int × Int))} (h : ∀ s, s ∈ b → goodB s = true) : ∀ s, s ∈ b → s.length * 16 ≤ 140737488355328 := fun s hs => by
  have := good_length_le (h s hs); omega

end Go.Proofs.YtmdljknlbmlacaaDoor
namespace Go.Proofs.YtmdljknlbmlacaaDoor
open Go.RowKit

theorem pointL_take {b : List (List (Int × Int))} {k : Nat} {s : List (Int × Int)} (h : b[k]? = some s) : pointL (b.take (k + 1)) = pointL (b.take k) ++ (s.head?.map (·.1)).toList := by
  rw [take_at h]
  simp only [pointL, List.filterMap_append]
  cases s <;> rfl
theorem pointL_length (b : List (List (Int × Int))) : (pointL b).length ≤ b.length := List.length_filterMap_le ..
theorem infoInt' : (Tryd.prog.info? 3).map (fun i => (i.zero, i.size, i.bytes)) = some (some (.int .i64 0), 1, 8) := by kernel_rfl
theorem under_ints : Tryd.prog.underlying 26 = some (.slice 3) := by kernel_rfl

end Go.Proofs.YtmdljknlbmlacaaDoor
