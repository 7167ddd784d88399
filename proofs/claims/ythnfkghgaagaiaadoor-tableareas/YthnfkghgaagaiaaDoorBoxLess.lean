/- box.Less: what of one box is not in another, as boxes in new memory. Condition: argument slices read as lists in old memory. -/
import Derived.Test.YthnfkghgaagaiaaDoorBoxMake
import Derived.Test.YthnfkghgaagaiaaDoorMem
namespace Go.Proofs.YthnfkghgaagaiaaDoor
open Go.RowKit

theorem lessR_at {p a b : List (List (Int × Int))} {k : Nat} {s t : List (Int × Int)} (ha : a[k]? = some s) (hb : b[k]? = some t) :
    lessR p (a.drop k) (b.drop k) = (if (lessF s t).length = 0 then [] else [p ++ lessF s t :: a.drop (k + 1)]) ++ lessR (p ++ [bothF s t]) (a.drop (k + 1)) (b.drop (k + 1)) := by
  rw [drop_at ha, drop_at hb, lessR]
theorem inter_len {a b : List (List (Int × Int))} (h : b.length = a.length) : (interL a b).length = a.length := by simp [interL]; omega
theorem sets_small {b : List (List (Int × Int))} (h : ∀ s, s ∈ b → goodB s = true) : ∀ s, s ∈ b → s.length * 16 ≤ 140737488355328 := fun s hs => by
  have := good_length_le (h s hs); omega

end Go.Proofs.YthnfkghgaagaiaaDoor
