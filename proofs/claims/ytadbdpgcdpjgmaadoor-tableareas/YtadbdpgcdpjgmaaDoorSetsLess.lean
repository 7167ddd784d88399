/- Plain mathematics of subtracting a set from another, given rs lists of ranges. No condition; no program is named. -/
import Derived.Test.YtadbdpgcdpjgmaaDoorSets
namespace Go.Proofs.YtadbdpgcdpjgmaaDoor

/-- the difference, from the left end -/
def lessF : List (Int × Int) → List (Int × Int) → List (Int × Int)
  | [], _ => []
  | (x, y) :: rs, [] => addL x y ++ lessF rs []
  | (x, y) :: rs, (p, q) :: bs => if q < y then addL x (p - 1) ++ lessF ((max x (q + 1), y) :: rs) bs else addL x (min y (p - 1)) ++ lessF rs ((p, q) :: bs)
termination_by a b => a.length + b.length
theorem lessF_done {a b : List (Int × Int)} {k : Nat} (h : a.length ≤ k) : lessF (a.drop k) b = [] := by
  rw [List.drop_of_length_le h, lessF]
theorem lessF_in {rs b : List (Int × Int)} {m : Nat} {x y p q : Int} (hb : b[m]? = some (p, q)) (h : q < y) :
    lessF ((x, y) :: rs) (b.drop m) = addL x (p - 1) ++ lessF ((max x (q + 1), y) :: rs) (b.drop (m + 1)) := by
  rw [drop_at hb, lessF, if_pos h]
theorem lessF_out {rs b : List (Int × Int)} {m : Nat} {x y p q : Int} (hb : b[m]? = some (p, q)) (h : y ≤ q) :
    lessF ((x, y) :: rs) (b.drop m) = addL x (min y (p - 1)) ++ lessF rs (b.drop m) := by
  rw [drop_at hb, lessF, if_neg (by omega)]
theorem lessF_end {rs b : List (Int × Int)} {m : Nat} {x y : Int} (h : b.length ≤ m) :
    lessF ((x, y) :: rs) (b.drop m) = addL x y ++ lessF rs (b.drop m) := by
  rw [List.drop_of_length_le h, lessF]

def allIn (l : List (Int × Int)) : Prop := ∀ r, r ∈ l → -1000000 ≤ r.1 ∧ r.1 ≤ 1000000 ∧ -1000000 ≤ r.2 ∧ r.2 ≤ 1000000
theorem allIn_at {l : List (Int × Int)} {k : Nat} {x y : Int} (h : allIn l) (hk : l[k]? = some (x, y)) : -1000000 ≤ x ∧ x ≤ 1000000 ∧ -1000000 ≤ y ∧ y ≤ 1000000 := h (x, y) (List.mem_of_getElem? hk)

end Go.Proofs.YtadbdpgcdpjgmaaDoor
