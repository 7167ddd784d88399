/- ratebookkeep.pick: a number from 0 to n - 1; two neighbours of a row of rules change places. Condition: n is at least 1. -/
import Derived.Test.YtmdljknlbmlacabTableF
import Derived.Test.YtmdljknlbmlacabKeepTab
namespace Go.Proofs.Ytmdljknlbmlacab
open Go.RowKit

set_option maxHeartbeats 400000 in
theorem keep_pick (k : Int) (n : Nat) (w : World) (hn : 1 ≤ n) (hm : n ≤ 10) :
    Calls Try.prog 15 #[.int .i64 k, .int .i64 n] w fun e w' => (∃ j : Nat, j < n ∧ e = .returned (.int .i64 j)) ∧ w' = w := by
  have hn0 : ¬ (n : Int) = 0 := by omega
  have hn0' : ((n : Int) == 0) = false := beq_eq_false_iff_ne.2 hn0
  have h1 : Int.tmod k n < n := Int.tmod_lt_of_pos k (by omega)
  have h2 : -(n : Int) < Int.tmod k n := by
    by_cases hk0 : 0 ≤ k
    · have := Int.tmod_nonneg (n : Int) hk0; omega
    · have e := Int.neg_tmod k n
      have h3 : Int.tmod (-k) n < n := Int.tmod_lt_of_pos (-k) (by omega)
      omega
  generalize hT : Int.tmod k n = T at *
  go_enter Try.func15, Try.ntmps15
  go_wp2
  · go_ret
    refine ⟨⟨(T + n).toNat, by omega, ?_⟩, rfl⟩
    show Ending.returned (.int .i64 (T + n)) = _
    rw [Int.toNat_of_nonneg (by omega)]
  · go_ret
    refine ⟨⟨T.toNat, by omega, ?_⟩, rfl⟩
    show Ending.returned (.int .i64 T) = _
    rw [Int.toNat_of_nonneg (by omega)]

/-- the list with the places k and k + 1 changed -/
def swapL {α : Type} (l : List α) (k : Nat) : List α := match l[k]?, l[k + 1]? with
  | some x, some y => (l.set k y).set (k + 1) x
  | _, _ => l
theorem swap_eq {α : Type} {l : List α} {k : Nat} {x y : α} (hx : l[k]? = some x) (hy : l[k + 1]? = some y) : swapL l k = (l.set k y).set (k + 1) x := by
  unfold swapL; rw [hx, hy]
theorem swap_perm {α : Type} : ∀ (l : List α) (k : Nat), l.Perm (swapL l k)
  | [], k => by simp [swapL]
  | [a], k => by cases k <;> simp [swapL]
  | a :: b :: l, 0 => by simp only [swapL, List.getElem?_cons_zero, List.getElem?_cons_succ]; exact List.Perm.swap b a l
  | a :: b :: l, k + 1 => by
    have ih := swap_perm (b :: l) k
    have e : swapL (a :: b :: l) (k + 1) = a :: swapL (b :: l) k := by
      unfold swapL
      simp only [List.getElem?_cons_succ]
      cases (b :: l)[k]? with
      | none => rfl
      | some x => cases h2 : (b :: l)[k + 1]? with
        | none => simp only [List.getElem?_cons_succ] at h2; rw [h2]
        | some y => simp only [List.getElem?_cons_succ] at h2; rw [h2]; rfl
    rw [e]
    exact ih.cons a

end Go.Proofs.Ytmdljknlbmlacab
