/- Plain mathematics: the set of all numbers of which something holds that changes at edges alone. No condition; no program is named. -/
import Derived.Test.YtadbdpgcdpjgmaaDoorSetsEdges
namespace Go.Proofs.YtadbdpgcdpjgmaaDoor

def madeStep (out : List (Int × Int)) (n e : Int) : List (Int × Int) :=
  match out[out.length - 1]? with
  | some p => if p.2 = n - 1 then out.set (out.length - 1) (p.1, e) else out ++ [(n, e)]
  | none => out ++ [(n, e)]
/-- where the piece that begins at the head ends -/
def endOf : List Int → Int
  | [] => 1000000
  | m :: _ => m - 1
def madeF (f : Int → Bool) (out : List (Int × Int)) : List Int → List (Int × Int)
  | [] => out
  | n :: rest => madeF f (if f n then madeStep out n (endOf rest) else out) rest
theorem madeF_at {f : Int → Bool} {out : List (Int × Int)} {l : List Int} {k : Nat} {n : Int} (h : l[k]? = some n) : madeF f out (l.drop k) = madeF f (if f n then madeStep out n (endOf (l.drop (k + 1))) else out) (l.drop (k + 1)) := by
  rw [drop_at h]; rfl
theorem endOf_some {l : List Int} {k : Nat} {m : Int} (h : l[k]? = some m) : endOf (l.drop k) = m - 1 := by rw [drop_at h]; rfl
theorem endOf_none {l : List Int} {k : Nat} (h : l.length ≤ k) : endOf (l.drop k) = 1000000 := by rw [List.drop_of_length_le h]; rfl
theorem madeStep_none {out : List (Int × Int)} {n e : Int} (h : out.length = 0) : madeStep out n e = out ++ [(n, e)] := by
  have : out = [] := List.length_eq_zero_iff.1 h
  subst this; rfl
theorem madeStep_in {out : List (Int × Int)} {n e p q : Int} (h : out[out.length - 1]? = some (p, q)) (hr : q = n - 1) : madeStep out n e = out.set (out.length - 1) (p, e) := by
  unfold madeStep; rw [h]; simp [hr]
theorem madeStep_off {out : List (Int × Int)} {n e p q : Int} (h : out[out.length - 1]? = some (p, q)) (hr : ¬ q = n - 1) : madeStep out n e = out ++ [(n, e)] := by
  unfold madeStep; rw [h]; simp [hr]
theorem madeStep_length (out : List (Int × Int)) (n e : Int) : (madeStep out n e).length ≤ out.length + 1 := by
  unfold madeStep
  split
  · split <;> simp
  · simp

end Go.Proofs.YtadbdpgcdpjgmaaDoor
