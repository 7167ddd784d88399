/- Plain mathematics of intersecting two sets given as lists of ranges. No condition; no program is named. -/
import Derived.Test.YtadbdpgcdpjgmaaDoorSets
namespace Go.Proofs.YtadbdpgcdpjgmaaDoor

/-- the intersection, from the left end -/
def bothF : List (Int × Int) → List (Int × Int) → List (Int × Int)
  | x :: xs, y :: ys => addL (max x.1 y.1) (min x.2 y.2) ++ (if x.2 < y.2 then bothF xs (y :: ys) else bothF (x :: xs) ys)
  | _, _ => []
termination_by a b => a.length + b.length
theorem bothF_done {a b : List (Int × Int)} {i j : Nat} (h : a.length ≤ i ∨ b.length ≤ j) : bothF (a.drop i) (b.drop j) = [] := by
  rcases h with h | h
  · rw [List.drop_of_length_le h, bothF]; simp
  · rw [List.drop_of_length_le h, bothF]; simp
theorem bothF_at {a b : List (Int × Int)} {i j : Nat} {x y p q : Int} (ha : a[i]? = some (x, y)) (hb : b[j]? = some (p, q)) :
    bothF (a.drop i) (b.drop j) = addL (max x p) (min y q) ++ (if y < q then bothF (a.drop (i + 1)) (b.drop j) else bothF (a.drop i) (b.drop (j + 1))) := by
  rw [drop_at ha, drop_at hb, bothF]

end Go.Proofs.YtadbdpgcdpjgmaaDoor
