/- ratebookkeep.same and spans, ratebooklaw.spans, ranges and ratebookref.SameSet. Conditions: argument slices read as lists of pairs in old memory. -/
import Derived.Test.YtmdljknlbmlacabGreatDoorSpan
namespace Go.Proofs.YtmdljknlbmlacabGreatDoor
open Go.RowKit

theorem ne_len {a b : List (Int × Int)} (h : a.length ≠ b.length) : decide (a = b) = false := decide_eq_false fun e => h (by rw [e])

theorem eqRange (a b c d : Int) (w : World) : (Op.equalIn 10000 107 (.agg #[.int .i64 a, .int .i64 b]) (.agg #[.int .i64 c, .int .i64 d])).run Tryz.prog w = .ok (a == c && b == d) w := by
  have u3 := Tryz.underlying3
  have a3 := Tryz.isAgg3
  have z3 := Tryz.sizeOf3
  have hS : Tryz.prog.underlying 107 = some (.struct (Tryz.prog.fieldsOf 107)) := by kernel_rfl
  rw [show (10000 : Nat) = 9999 + 1 from rfl, run_equalIn_agg w 9999 107 _ _ hS (by kernel_rfl)]
  simp only [Program.fieldsOf, Tryz.underlying107]
  go_simp
  by_cases h1 : a = c <;> by_cases h2 : b = d <;> simp [h1, h2]
theorem take_ne {a b : List (Int × Int)} {k : Nat} {x y p q : Int} (hx : a[k]? = some (x, y)) (hq : b[k]? = some (p, q)) (h : ¬ (x = p ∧ y = q)) : decide (a = b) = false := by
  refine decide_eq_false fun e => h ?_
  subst e
  rw [hx] at hq
  injection hq with hq; injection hq with h1 h2
  exact ⟨h1, h2⟩

end Go.Proofs.YtmdljknlbmlacabGreatDoor
