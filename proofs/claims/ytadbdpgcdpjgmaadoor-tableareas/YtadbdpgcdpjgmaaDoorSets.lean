/- Plain mathematics of lists of ranges: sets of whole numbers. No condition; no program is named. -/
namespace Go.Proofs.YtadbdpgcdpjgmaaDoor

theorem take_at {α : Type} {l : List α} {k : Nat} {x : α} (h : l[k]? = some x) : l.take (k + 1) = l.take k ++ [x] := by
  obtain ⟨hk, rfl⟩ := List.getElem?_eq_some_iff.1 h
  exact List.take_succ_eq_append_getElem hk
theorem drop_at {α : Type} {l : List α} {k : Nat} {x : α} (h : l[k]? = some x) : l.drop k = x :: l.drop (k + 1) := by
  obtain ⟨hk, rfl⟩ := List.getElem?_eq_some_iff.1 h
  exact List.drop_eq_getElem_cons hk

def hasB (l : List (Int × Int)) (n : Int) : Bool := l.any fun r => decide (r.1 ≤ n) && decide (n ≤ r.2)

theorem hasB_iff (l : List (Int × Int)) (n : Int) : hasB l n = true ↔ ∃ r, r ∈ l ∧ r.1 ≤ n ∧ n ≤ r.2 := by simp [hasB]
theorem hasB_take (l : List (Int × Int)) {k : Nat} {x y : Int} (h : l[k]? = some (x, y)) (n : Int) : hasB (l.take (k + 1)) n = (hasB (l.take k) n || (decide (x ≤ n) && decide (n ≤ y))) := by
  unfold hasB
  rw [take_at h, List.any_append]
  simp only [List.any_cons, List.any_nil, Bool.or_false]
theorem hasB_mem {l : List (Int × Int)} {k : Nat} {x y : Int} (h : l[k]? = some (x, y)) (n : Int) (h1 : x ≤ n) (h2 : n ≤ y) : hasB l n = true :=
  (hasB_iff l n).2 ⟨(x, y), List.mem_of_getElem? h, h1, h2⟩

/-- 'l is a set, and its first range does not touch `last`' -/
def goodFrom (last : Int) : List (Int × Int) → Bool
  | [] => true
  | r :: rs => (decide (-1000000 ≤ r.1) && decide (r.2 ≤ 1000000) && decide (r.1 ≤ r.2) && decide (last + 1 < r.1)) && goodFrom r.2 rs
def goodB (l : List (Int × Int)) : Bool := goodFrom (-1000002) l
/-- the end of the range before place k -/
def lastHi (l : List (Int × Int)) (k : Nat) : Int := if k = 0 then -1000002 else (l.getD (k - 1) (0, 0)).2
theorem goodFrom_at {l : List (Int × Int)} {k : Nat} {x y : Int} (h : l[k]? = some (x, y)) (last : Int) : goodFrom last (l.drop k) = ((decide (-1000000 ≤ x) && decide (y ≤ 1000000) && decide (x ≤ y) && decide (last + 1 < x)) && goodFrom y (l.drop (k + 1))) := by
  rw [drop_at h]; rfl
theorem lastHi_succ {l : List (Int × Int)} {k : Nat} {x y : Int} (h : l[k]? = some (x, y)) : lastHi l (k + 1) = y := by
  obtain ⟨hk, e⟩ := List.getElem?_eq_some_iff.1 h
  simp [lastHi, hk, e]
theorem lastHi_pred {l : List (Int × Int)} {k : Nat} {x y : Int} (h0 : 0 < k) (h : l[k - 1]? = some (x, y)) : lastHi l k = y := by
  obtain ⟨j, rfl⟩ : ∃ j, k = j + 1 := ⟨k - 1, by omega⟩
  exact lastHi_succ h

/-- the range x..y, if it is not empty -/
def addL (x y : Int) : List (Int × Int) := if y < x then [] else [(x, y)]
theorem addL_congr {x y x' y' : Int} (h1 : x = x') (h2 : y = y') : addL x y = addL x' y' := by rw [h1, h2]
theorem addL_length (x y : Int) : (addL x y).length ≤ 1 := by unfold addL; split <;> simp

/-- what of each range is within bounds -/
def clipL (l : List (Int × Int)) : List (Int × Int) := l.flatMap fun r => addL (max r.1 (-1000000)) (min r.2 1000000)
theorem clipL_at {l : List (Int × Int)} {k : Nat} {x y : Int} (h : l[k]? = some (x, y)) : clipL (l.take (k + 1)) = clipL (l.take k) ++ addL (max x (-1000000)) (min y 1000000) := by
  rw [take_at h]; simp [clipL]
theorem clipL_length (l : List (Int × Int)) : (clipL l).length ≤ l.length := by
  induction l with
  | nil => simp [clipL]
  | cons a l ih =>
    have := addL_length (max a.1 (-1000000)) (min a.2 1000000)
    simp [clipL] at *
    omega
theorem clipL_take_length (l : List (Int × Int)) (k : Nat) : (clipL (l.take k)).length ≤ k := Nat.le_trans (clipL_length _) (List.length_take_le _ _)

end Go.Proofs.YtadbdpgcdpjgmaaDoor
