/- Plain mathematics of lists of ranges: sets of whole numbers. No condition; no program is named. Plain mathematics of merging ranges that are sorted by their lower ends. No condition; no program is named. Plain mathematics of intersecting two sets given as lists of ranges. No condition; no program is named. Plain mathematics of subtracting a set from another, given rs lists of ranges. No condition; no program is named. Plain mathematics of sets of whole numbers as lists of ranges: a set is known by its numbers; intersection, difference, merging and counting. No condition; no program is named. Plain mathematics: merging sorted ranges gives the set of their numbers; how many numbers a set has. No condition; no program is named. Plain mathematics: inserting a number into an increasing list. No condition; no program is named. Plain mathematics: the set of all numbers of which something holds that changes at edges alone. No condition; no program is named. Plain mathematics: what is made of edges is the set of the numbers of which it holds; so the reference's sets are the program's. No condition; no program is named. -/
namespace Go.Proofs.YtmdljknlbmlacabGreatDoor

theorem take_at {α : Type} {l : List α} {k : Nat} {x : α} (h : l[k]? = some x) : l.take (k + 1) = l.take k ++ [x] := by
  obtain ⟨hk, rfl⟩ := List.getElem?_eq_some_iff.1 h
  exact List.take_succ_eq_append_getElem hk
theorem drop_at {α : Type} {l : List α} {k : Nat} {x : α} (h : l[k]? = some x) : l.drop k = x :: l.drop (k + 1) := by
  obtain ⟨hk, rfl⟩ := List.getElem?_eq_some_iff.1 h
  exact List.drop_eq_getElem_cons hk

def hasB (l : List (Int × Int)) (n : Int) : Bool := l.any fun r => decide (r.1 ≤ n) && decide (n ≤ r.2)

theorem hasB_iff (l : List (Int × Int)) (n : Int) : hasB l n = true ↔ ∃ r, r ∈ l ∧ r.1 ≤ n ∧ n ≤ r.2 := by simp [hasB]
theorem hasB_take (l : List (Int × Int)) {k : Nat} {x y : Int} (h : l[k]? = some (x, y)) (n : Int) : hasB (l.take (k + 1)) n = (hasB (l.take k) n || (decide (x ≤ n) && decide (n ≤ y))) := by
  unfold hasB
  rw [take_at h, List.any_append]
  simp only [List.any_cons, List.any_nil, Bool.or_false]
theorem hasB_mem {l : List (Int × Int)} {k : Nat} {x y : Int} (h : l[k]? = some (x, y)) (n : Int) (h1 : x ≤ n) (h2 : n ≤ y) : hasB l n = true :=
  (hasB_iff l n).2 ⟨(x, y), List.mem_of_getElem? h, h1, h2⟩

/-- 'l is a set, and its first range does not touch `last`' -/
def goodFrom (last : Int) : List (Int × Int) → Bool
  | [] => true
  | r :: rs => (decide (-1000000 ≤ r.1) && decide (r.2 ≤ 1000000) && decide (r.1 ≤ r.2) && decide (last + 1 < r.1)) && goodFrom r.2 rs
def goodB (l : List (Int × Int)) : Bool := goodFrom (-1000002) l
/-- the end of the range before place k -/
def lastHi (l : List (Int × Int)) (k : Nat) : Int := if k = 0 then -1000002 else (l.getD (k - 1) (0, 0)).2
theorem goodFrom_at {l : List (Int × Int)} {k : Nat} {x y : Int} (h : l[k]? = some (x, y)) (last : Int) : goodFrom last (l.drop k) = ((decide (-1000000 ≤ x) && decide (y ≤ 1000000) && decide (x ≤ y) && decide (last + 1 < x)) && goodFrom y (l.drop (k + 1))) := by
  rw [drop_at h]; rfl
theorem lastHi_succ {l : List (Int × Int)} {k : Nat} {x y : Int} (h : l[k]? = some (x, y)) : lastHi l (k + 1) = y := by
  obtain ⟨hk, e⟩ := List.getElem?_eq_some_iff.1 h
  simp [lastHi, hk, e]
theorem lastHi_pred {l : List (Int × Int)} {k : Nat} {x y : Int} (h0 : 0 < k) (h : l[k - 1]? = some (x, y)) : lastHi l k = y := by
  obtain ⟨j, rfl⟩ : ∃ j, k = j + 1 := ⟨k - 1, by omega⟩
  exact lastHi_succ h

/-- the range x..y, if it is not empty -/
def addL (x y : Int) : List (Int × Int) := if y < x then [] else [(x, y)]
theorem addL_congr {x y x' y' : Int} (h1 : x = x') (h2 : y = y') : addL x y = addL x' y' := by rw [h1, h2]
theorem addL_length (x y : Int) : (addL x y).length ≤ 1 := by unfold addL; split <;> simp

/-- what of each range is within bounds -/
def clipL (l : List (Int × Int)) : List (Int × Int) := l.flatMap fun r => addL (max r.1 (-1000000)) (min r.2 1000000)
theorem clipL_at {l : List (Int × Int)} {k : Nat} {x y : Int} (h : l[k]? = some (x, y)) : clipL (l.take (k + 1)) = clipL (l.take k) ++ addL (max x (-1000000)) (min y 1000000) := by
  rw [take_at h]; simp [clipL]
theorem clipL_length (l : List (Int × Int)) : (clipL l).length ≤ l.length := by
  induction l with
  | nil => simp [clipL]
  | cons a l ih =>
    have := addL_length (max a.1 (-1000000)) (min a.2 1000000)
    simp [clipL] at *
    omega
theorem clipL_take_length (l : List (Int × Int)) (k : Nat) : (clipL (l.take k)).length ≤ k := Nat.le_trans (clipL_length _) (List.length_take_le _ _)

end Go.Proofs.YtmdljknlbmlacabGreatDoor
namespace Go.Proofs.YtmdljknlbmlacabGreatDoor

/-- one range more: into the last one, or behind it -/
def mergeStep (out : List (Int × Int)) (r : Int × Int) : List (Int × Int) :=
  match out[out.length - 1]? with
  | some p => if r.1 ≤ p.2 + 1 then out.set (out.length - 1) (p.1, max p.2 r.2) else out ++ [r]
  | none => out ++ [r]
def mergeL (l : List (Int × Int)) : List (Int × Int) := l.foldl mergeStep []
theorem mergeL_at {l : List (Int × Int)} {k : Nat} {r : Int × Int} (h : l[k]? = some r) : mergeL (l.take (k + 1)) = mergeStep (mergeL (l.take k)) r := by
  unfold mergeL
  rw [take_at h, List.foldl_append]; rfl
theorem mergeStep_none {out : List (Int × Int)} {r : Int × Int} (h : out.length = 0) : mergeStep out r = out ++ [r] := by
  have : out = [] := List.length_eq_zero_iff.1 h
  subst this; rfl
theorem mergeStep_in {out : List (Int × Int)} {r : Int × Int} {p q : Int} (h : out[out.length - 1]? = some (p, q)) (hr : r.1 ≤ q + 1) : mergeStep out r = out.set (out.length - 1) (p, max q r.2) := by
  unfold mergeStep; rw [h]; simp [hr]
theorem mergeStep_off {out : List (Int × Int)} {r : Int × Int} {p q : Int} (h : out[out.length - 1]? = some (p, q)) (hr : q + 1 < r.1) : mergeStep out r = out ++ [r] := by
  unfold mergeStep; rw [h]; simp; omega
theorem mergeStep_length (out : List (Int × Int)) (r : Int × Int) : (mergeStep out r).length ≤ out.length + 1 := by
  unfold mergeStep
  split
  · split <;> simp
  · simp
theorem mergeL_length (l : List (Int × Int)) : (mergeL l).length ≤ l.length := by
  have : ∀ (l out : List (Int × Int)), (l.foldl mergeStep out).length ≤ out.length + l.length := by
    intro l
    induction l with
    | nil => intro out; simp
    | cons a l ih => intro out; have := ih (mergeStep out a); have := mergeStep_length out a; simp at *; omega
  simpa [mergeL] using this l []
theorem mergeL_take_length (l : List (Int × Int)) (k : Nat) : (mergeL (l.take k)).length ≤ k := Nat.le_trans (mergeL_length _) (List.length_take_le _ _)
def hiIn (l : List (Int × Int)) : Prop := ∀ r, r ∈ l → -1000000 ≤ r.2 ∧ r.2 ≤ 1000000
theorem hiIn_at {l : List (Int × Int)} {k : Nat} {x y : Int} (h : hiIn l) (hk : l[k]? = some (x, y)) : -1000000 ≤ y ∧ y ≤ 1000000 := h (x, y) (List.mem_of_getElem? hk)
theorem mergeStep_in_bounds {out : List (Int × Int)} {r : Int × Int} (h : hiIn out) (hr : -1000000 ≤ r.2 ∧ r.2 ≤ 1000000) : hiIn (mergeStep out r) := by
  intro q hq
  unfold mergeStep at hq
  split at hq
  · rename_i p hp
    split at hq
    · rcases List.mem_or_eq_of_mem_set hq with h' | rfl
      · exact h q h'
      · have := h p (List.mem_of_getElem? hp)
        simp; omega
    · rcases List.mem_append.1 hq with h' | h'
      · exact h q h'
      · rw [List.mem_singleton] at h'; subst h'; exact hr
  · rcases List.mem_append.1 hq with h' | h'
    · exact h q h'
    · rw [List.mem_singleton] at h'; subst h'; exact hr
theorem mergeL_bounds {l : List (Int × Int)} (h : hiIn l) (k : Nat) : hiIn (mergeL (l.take k)) := by
  have : ∀ (l out : List (Int × Int)), hiIn l → hiIn out → hiIn (l.foldl mergeStep out) := by
    intro l
    induction l with
    | nil => intro out _ h; exact h
    | cons a l ih => intro out h1 h2; exact ih _ (fun r hr => h1 r (List.mem_cons_of_mem _ hr)) (mergeStep_in_bounds h2 (h1 a List.mem_cons_self))
  exact this _ [] (fun r hr => h r (List.mem_of_mem_take hr)) (by intro r hr; simp at hr)

end Go.Proofs.YtmdljknlbmlacabGreatDoor
namespace Go.Proofs.YtmdljknlbmlacabGreatDoor

/-- the intersection, from the left end -/
def bothF : List (Int × Int) → List (Int × Int) → List (Int × Int)
  | x :: xs, y :: ys => addL (max x.1 y.1) (min x.2 y.2) ++ (if x.2 < y.2 then bothF xs (y :: ys) else bothF (x :: xs) ys)
  | _, _ => []
termination_by a b => a.length + b.length
theorem bothF_done {a b : List (Int × Int)} {i j : Nat} (h : a.length ≤ i ∨ b.length ≤ j) : bothF (a.drop i) (b.drop j) = [] := by
  rcases h with h | h
  · rw [List.drop_of_length_le h, bothF]; simp
  · rw [List.drop_of_length_le h, bothF]; simp
theorem bothF_at {a b : List (Int × Int)} {i j : Nat} {x y p q : Int} (ha : a[i]? = some (x, y)) (hb : b[j]? = some (p, q)) :
    bothF (a.drop i) (b.drop j) = addL (max x p) (min y q) ++ (if y < q then bothF (a.drop (i + 1)) (b.drop j) else bothF (a.drop i) (b.drop (j + 1))) := by
  rw [drop_at ha, drop_at hb, bothF]

end Go.Proofs.YtmdljknlbmlacabGreatDoor
namespace Go.Proofs.YtmdljknlbmlacabGreatDoor

/-- the difference, from the left end -/
def lessF : List (Int × Int) → List (Int × Int) → List (Int × Int)
  | [], _ => []
  | (x, y) :: rs, [] => addL x y ++ lessF rs []
  | (x, y) :: rs, (p, q) :: bs => if q < y then addL x (p - 1) ++ lessF ((max x (q + 1), y) :: rs) bs else addL x (min y (p - 1)) ++ lessF rs ((p, q) :: bs)
termination_by a b => a.length + b.length
theorem lessF_done {a b : List (Int × Int)} {k : Nat} (h : a.length ≤ k) : lessF (a.drop k) b = [] := by
  rw [List.drop_of_length_le h, lessF]
theorem lessF_in {rs b : List (Int × Int)} {m : Nat} {x y p q : Int} (hb : b[m]? = some (p, q)) (h : q < y) :
    lessF ((x, y) :: rs) (b.drop m) = addL x (p - 1) ++ lessF ((max x (q + 1), y) :: rs) (b.drop (m + 1)) := by
  rw [drop_at hb, lessF, if_pos h]
theorem lessF_out {rs b : List (Int × Int)} {m : Nat} {x y p q : Int} (hb : b[m]? = some (p, q)) (h : y ≤ q) :
    lessF ((x, y) :: rs) (b.drop m) = addL x (min y (p - 1)) ++ lessF rs (b.drop m) := by
  rw [drop_at hb, lessF, if_neg (by omega)]
theorem lessF_end {rs b : List (Int × Int)} {m : Nat} {x y : Int} (h : b.length ≤ m) :
    lessF ((x, y) :: rs) (b.drop m) = addL x y ++ lessF rs (b.drop m) := by
  rw [List.drop_of_length_le h, lessF]

def allIn (l : List (Int × Int)) : Prop := ∀ r, r ∈ l → -1000000 ≤ r.1 ∧ r.1 ≤ 1000000 ∧ -1000000 ≤ r.2 ∧ r.2 ≤ 1000000
theorem allIn_at {l : List (Int × Int)} {k : Nat} {x y : Int} (h : allIn l) (hk : l[k]? = some (x, y)) : -1000000 ≤ x ∧ x ≤ 1000000 ∧ -1000000 ≤ y ∧ y ≤ 1000000 := h (x, y) (List.mem_of_getElem? hk)

end Go.Proofs.YtmdljknlbmlacabGreatDoor
namespace Go.Proofs.YtmdljknlbmlacabGreatDoor

theorem goodFrom_cons {L x y : Int} {l : List (Int × Int)} : goodFrom L ((x, y) :: l) = true ↔ -1000000 ≤ x ∧ y ≤ 1000000 ∧ x ≤ y ∧ L + 1 < x ∧ goodFrom y l = true := by
  simp [goodFrom, and_assoc]
theorem hasB_cons {x y n : Int} {l : List (Int × Int)} : hasB ((x, y) :: l) n = true ↔ (x ≤ n ∧ n ≤ y) ∨ hasB l n = true := by
  simp [hasB]
theorem hasB_nil (n : Int) : hasB [] n = false := rfl
theorem hasB_append {l m : List (Int × Int)} {n : Int} : hasB (l ++ m) n = true ↔ hasB l n = true ∨ hasB m n = true := by
  simp [hasB, List.any_append]
theorem hasB_addL {x y n : Int} : hasB (addL x y) n = true ↔ x ≤ n ∧ n ≤ y := by
  unfold addL
  split
  · simp [hasB]; omega
  · simp [hasB]
theorem good_gt {L n : Int} {l : List (Int × Int)} (h : goodFrom L l = true) (hn : hasB l n = true) : L + 1 < n := by
  induction l generalizing L with
  | nil => simp [hasB] at hn
  | cons a l ih =>
    obtain ⟨x, y⟩ := a
    obtain ⟨h1, h2, h3, h4, h5⟩ := goodFrom_cons.1 h
    rcases hasB_cons.1 hn with h' | h'
    · omega
    · have := ih h5 h'; omega
theorem good_in {L n : Int} {l : List (Int × Int)} (h : goodFrom L l = true) (hn : hasB l n = true) : -1000000 ≤ n ∧ n ≤ 1000000 := by
  induction l generalizing L with
  | nil => simp [hasB] at hn
  | cons a l ih =>
    obtain ⟨x, y⟩ := a
    obtain ⟨h1, h2, h3, h4, h5⟩ := goodFrom_cons.1 h
    rcases hasB_cons.1 hn with h' | h'
    · omega
    · exact ih h5 h'
theorem good_le {L L' : Int} {l : List (Int × Int)} (h : goodFrom L l = true) (hL : L' ≤ L) : goodFrom L' l = true := by
  cases l with
  | nil => rfl
  | cons a l =>
    obtain ⟨x, y⟩ := a
    obtain ⟨h1, h2, h3, h4, h5⟩ := goodFrom_cons.1 h
    exact goodFrom_cons.2 ⟨h1, h2, h3, by omega, h5⟩
theorem good_allIn {L : Int} {l : List (Int × Int)} (h : goodFrom L l = true) : allIn l := by
  induction l generalizing L with
  | nil => intro r hr; simp at hr
  | cons a l ih =>
    obtain ⟨x, y⟩ := a
    obtain ⟨h1, h2, h3, h4, h5⟩ := goodFrom_cons.1 h
    intro r hr
    rcases List.mem_cons.1 hr with rfl | hr
    · exact ⟨h1, by omega, by omega, h2⟩
    · exact ih h5 r hr

/-- A SET IS KNOWN BY ITS NUMBERS. -/
theorem good_unique {L L' : Int} {a b : List (Int × Int)} (ha : goodFrom L a = true) (hb : goodFrom L' b = true) (h : ∀ n, hasB a n = hasB b n) : a = b := by
  induction a generalizing b L L' with
  | nil =>
    cases b with
    | nil => rfl
    | cons r b =>
      obtain ⟨p, q⟩ := r
      obtain ⟨_, _, h3, _, _⟩ := goodFrom_cons.1 hb
      have h1 : hasB ((p, q) :: b) p = true := hasB_cons.2 (.inl ⟨by omega, h3⟩)
      rw [← h p] at h1; simp [hasB] at h1
  | cons r a ih =>
    obtain ⟨x, y⟩ := r
    obtain ⟨a1, a2, a3, a4, a5⟩ := goodFrom_cons.1 ha
    cases b with
    | nil =>
      have h1 : hasB ((x, y) :: a) x = true := hasB_cons.2 (.inl ⟨by omega, a3⟩)
      rw [h x] at h1; simp [hasB] at h1
    | cons s b =>
      obtain ⟨p, q⟩ := s
      obtain ⟨b1, b2, b3, b4, b5⟩ := goodFrom_cons.1 hb
      have hlo : ∀ {x y p q : Int} {a b : List (Int × Int)}, goodFrom q b = true → p ≤ q → x ≤ y → (∀ n, hasB ((x, y) :: a) n = hasB ((p, q) :: b) n) → p ≤ x := by
        intro x y p q a b hb hpq hxy h
        have h1 : hasB ((x, y) :: a) x = true := hasB_cons.2 (.inl ⟨by omega, hxy⟩)
        rw [h x] at h1
        rcases hasB_cons.1 h1 with h' | h'
        · omega
        · have := good_gt hb h'; omega
      have e1 : p ≤ x := hlo b5 b3 a3 h
      have e2 : x ≤ p := hlo a5 a3 b3 (fun n => (h n).symm)
      have hhi : ∀ {x y q : Int} {a b : List (Int × Int)}, goodFrom y a = true → x ≤ y → (∀ n, hasB ((x, y) :: a) n = hasB ((x, q) :: b) n) → q ≤ y := by
        intro x y q a b ha hxy h
        by_cases hlt : y < q
        · have h1 : hasB ((x, q) :: b) (y + 1) = true := hasB_cons.2 (.inl ⟨by omega, by omega⟩)
          rw [← h (y + 1)] at h1
          rcases hasB_cons.1 h1 with h' | h'
          · omega
          · have := good_gt ha h'; omega
        · omega
      have e3 : x = p := by omega
      subst e3
      have e4 : q ≤ y := hhi a5 a3 h
      have e5 : y ≤ q := hhi b5 b3 (fun n => (h n).symm)
      have e6 : y = q := by omega
      subst e6
      congr 1
      refine ih a5 b5 fun n => ?_
      by_cases hn : n ≤ y
      · have f1 : hasB a n = false := by
          cases hh : hasB a n with
          | false => rfl
          | true => have := good_gt a5 hh; omega
        have f2 : hasB b n = false := by
          cases hh : hasB b n with
          | false => rfl
          | true => have := good_gt b5 hh; omega
        rw [f1, f2]
      · have := h n
        simp only [hasB, List.any_cons] at this ⊢
        have hd : decide (n ≤ y) = false := by simp; omega
        simpa [hd] using this

/-- INTERSECTION -/
theorem bothF_good {a b : List (Int × Int)} : ∀ {La Lb : Int}, goodFrom La a = true → goodFrom Lb b = true → goodFrom (max La Lb) (bothF a b) = true ∧ ∀ n, hasB (bothF a b) n = (hasB a n && hasB b n) := by
  induction a, b using bothF.induct with
  | case1 x xs y ys ih1 ih2 =>
    intro La Lb ha hb
    obtain ⟨x, y'⟩ := x
    obtain ⟨p, q⟩ := y
    rw [bothF]
    obtain ⟨a1, a2, a3, a4, a5⟩ := goodFrom_cons.1 ha
    obtain ⟨b1, b2, b3, b4, b5⟩ := goodFrom_cons.1 hb
    simp only
    by_cases h : y' < q
    · rw [if_pos h]
      obtain ⟨g, m⟩ := ih1 a5 hb
      refine ⟨?_, fun n => ?_⟩
      · by_cases hp : p ≤ y'
        · rw [show addL (max x p) (min y' q) = [(max x p, min y' q)] from by unfold addL; rw [if_neg (by omega)]]
          exact goodFrom_cons.2 ⟨by omega, by omega, by omega, by omega, good_le g (by omega)⟩
        · rw [show addL (max x p) (min y' q) = [] from by unfold addL; rw [if_pos (by omega)]]
          exact good_le g (by omega)
      · rw [Bool.eq_iff_iff, hasB_append, hasB_addL, m, Bool.and_eq_true, Bool.and_eq_true, hasB_cons, hasB_cons]
        constructor
        · rintro (h' | ⟨h1, h2⟩)
          · exact ⟨.inl (by omega), .inl (by omega)⟩
          · exact ⟨.inr h1, h2⟩
        · rintro ⟨h1 | h1, h2⟩
          · rcases h2 with h2 | h2
            · exact .inl (by omega)
            · have := good_gt b5 h2; omega
          · exact .inr ⟨h1, h2⟩
    · rw [if_neg h]
      obtain ⟨g, m⟩ := ih2 ha b5
      refine ⟨?_, fun n => ?_⟩
      · by_cases hp : x ≤ q
        · rw [show addL (max x p) (min y' q) = [(max x p, min y' q)] from by unfold addL; rw [if_neg (by omega)]]
          exact goodFrom_cons.2 ⟨by omega, by omega, by omega, by omega, good_le g (by omega)⟩
        · rw [show addL (max x p) (min y' q) = [] from by unfold addL; rw [if_pos (by omega)]]
          exact good_le g (by omega)
      · rw [Bool.eq_iff_iff, hasB_append, hasB_addL, m, Bool.and_eq_true, Bool.and_eq_true, hasB_cons, hasB_cons]
        constructor
        · rintro (h' | ⟨h1, h2⟩)
          · exact ⟨.inl (by omega), .inl (by omega)⟩
          · exact ⟨h1, .inr h2⟩
        · rintro ⟨h1, h2 | h2⟩
          · rcases h1 with h1 | h1
            · exact .inl (by omega)
            · have := good_gt a5 h1; omega
          · exact .inr ⟨h1, h2⟩
  | case2 a b hn =>
    intro La Lb ha hb
    rw [bothF]
    · refine ⟨rfl, fun n => ?_⟩
      cases a with
      | nil => simp [hasB]
      | cons r a =>
        cases b with
        | nil => simp [hasB]
        | cons s b => exact absurd rfl (hn r a s b rfl)
    · exact hn

/-- DIFFERENCE -/
theorem lessF_good {a b : List (Int × Int)} : ∀ {La Lb : Int}, goodFrom La a = true → goodFrom Lb b = true → goodFrom La (lessF a b) = true ∧ ∀ n, hasB (lessF a b) n = (hasB a n && !hasB b n) := by
  induction a, b using lessF.induct with
  | case1 b =>
    intro La Lb ha hb
    rw [lessF]; exact ⟨rfl, fun n => by simp [hasB]⟩
  | case2 x y rs ih =>
    intro La Lb ha hb
    obtain ⟨a1, a2, a3, a4, a5⟩ := goodFrom_cons.1 ha
    obtain ⟨g, m⟩ := ih a5 hb
    rw [lessF, show addL x y = [(x, y)] from by unfold addL; rw [if_neg (by omega)]]
    refine ⟨goodFrom_cons.2 ⟨a1, a2, a3, a4, g⟩, fun n => ?_⟩
    rw [Bool.eq_iff_iff]
    show hasB ((x, y) :: lessF rs []) n = true ↔ _
    rw [hasB_cons, m, hasB_nil]
    simp [hasB_cons]
  | case3 x y rs p q bs h ih =>
    intro La Lb ha hb
    obtain ⟨a1, a2, a3, a4, a5⟩ := goodFrom_cons.1 ha
    obtain ⟨b1, b2, b3, b4, b5⟩ := goodFrom_cons.1 hb
    rw [lessF, if_pos h]
    refine ⟨?_, fun n => ?_⟩
    · by_cases hp : x ≤ p - 1
      · obtain ⟨g, m⟩ := ih (La := p - 1) (goodFrom_cons.2 ⟨by omega, a2, by omega, by omega, a5⟩) b5
        rw [show addL x (p - 1) = [(x, p - 1)] from by unfold addL; rw [if_neg (by omega)]]
        exact goodFrom_cons.2 ⟨a1, by omega, hp, a4, g⟩
      · obtain ⟨g, m⟩ := ih (La := La) (goodFrom_cons.2 ⟨by omega, a2, by omega, by omega, a5⟩) b5
        rw [show addL x (p - 1) = [] from by unfold addL; rw [if_pos (by omega)]]
        exact g
    · obtain ⟨g, m⟩ := ih (La := La) (goodFrom_cons.2 ⟨by omega, a2, by omega, by omega, a5⟩) b5
      have hb' : ∀ n, hasB bs n = true → q + 1 < n := fun n hn => good_gt b5 hn
      have ha' : ∀ n, hasB rs n = true → y + 1 < n := fun n hn => good_gt a5 hn
      have nb : ∀ n, hasB ((p, q) :: bs) n = true ↔ (p ≤ n ∧ n ≤ q) ∨ hasB bs n = true := fun n => hasB_cons
      rw [Bool.eq_iff_iff, hasB_append, hasB_addL, m, Bool.and_eq_true, Bool.and_eq_true, hasB_cons, hasB_cons, Bool.not_eq_true', Bool.not_eq_true', ← Bool.not_eq_true, ← Bool.not_eq_true, nb]
      have h1 := hb' n
      have h2 := ha' n
      constructor
      · rintro (h' | ⟨h' | h', h''⟩)
        · exact ⟨.inl (by omega), fun hh => by rcases hh with hh | hh; omega; have := h1 hh; omega⟩
        · exact ⟨.inl (by omega), fun hh => by rcases hh with hh | hh; omega; exact h'' hh⟩
        · exact ⟨.inr h', fun hh => by rcases hh with hh | hh; (have := h2 h'; omega); exact h'' hh⟩
      · rintro ⟨h' | h', h''⟩
        · by_cases hp : n ≤ p - 1
          · exact .inl ⟨h'.1, hp⟩
          · by_cases hq : n ≤ q
            · exact absurd (.inl ⟨by omega, hq⟩) h''
            · exact .inr ⟨.inl (by omega), fun hh => h'' (.inr hh)⟩
        · exact .inr ⟨.inr h', fun hh => h'' (.inr hh)⟩
  | case4 x y rs p q bs h ih =>
    intro La Lb ha hb
    obtain ⟨a1, a2, a3, a4, a5⟩ := goodFrom_cons.1 ha
    obtain ⟨b1, b2, b3, b4, b5⟩ := goodFrom_cons.1 hb
    rw [lessF, if_neg h]
    obtain ⟨g, m⟩ := ih a5 hb
    refine ⟨?_, fun n => ?_⟩
    · by_cases hp : x ≤ min y (p - 1)
      · rw [show addL x (min y (p - 1)) = [(x, min y (p - 1))] from by unfold addL; rw [if_neg (by omega)]]
        exact goodFrom_cons.2 ⟨a1, by omega, hp, a4, good_le g (by omega)⟩
      · rw [show addL x (min y (p - 1)) = [] from by unfold addL; rw [if_pos (by omega)]]
        exact good_le g (by omega)
    · have h1 : hasB bs n = true → q + 1 < n := fun hn => good_gt b5 hn
      have nb : hasB ((p, q) :: bs) n = true ↔ (p ≤ n ∧ n ≤ q) ∨ hasB bs n = true := hasB_cons
      rw [Bool.eq_iff_iff, hasB_append, hasB_addL, m, Bool.and_eq_true, Bool.and_eq_true, hasB_cons, Bool.not_eq_true', ← Bool.not_eq_true, nb]
      constructor
      · rintro (h' | ⟨h', h''⟩)
        · exact ⟨.inl (by omega), fun hh => by rcases hh with hh | hh; omega; have := h1 hh; omega⟩
        · exact ⟨.inr h', h''⟩
      · rintro ⟨h' | h', h''⟩
        · by_cases hp : n ≤ p - 1
          · exact .inl ⟨h'.1, by omega⟩
          · exact absurd (.inl ⟨by omega, by omega⟩) h''
        · exact .inr ⟨h', h''⟩

end Go.Proofs.YtmdljknlbmlacabGreatDoor
namespace Go.Proofs.YtmdljknlbmlacabGreatDoor

def lastOf (L : Int) : List (Int × Int) → Int
  | [] => L
  | r :: l => lastOf r.2 l
theorem lastOf_snoc (L p q : Int) (l : List (Int × Int)) : lastOf L (l ++ [(p, q)]) = q := by
  induction l generalizing L with
  | nil => rfl
  | cons a l ih => exact ih _
theorem good_snoc {L p q : Int} {l : List (Int × Int)} : goodFrom L (l ++ [(p, q)]) = true ↔ goodFrom L l = true ∧ -1000000 ≤ p ∧ q ≤ 1000000 ∧ p ≤ q ∧ lastOf L l + 1 < p := by
  induction l generalizing L with
  | nil => rw [List.nil_append, goodFrom_cons]; simp [goodFrom, lastOf]
  | cons a l ih =>
    obtain ⟨x, y⟩ := a
    rw [List.cons_append, goodFrom_cons, goodFrom_cons, ih]
    simp only [lastOf]
    constructor <;> (rintro ⟨h1, h2⟩; simp_all)
theorem mergeStep_nil (r : Int × Int) : mergeStep [] r = [r] := rfl
theorem mergeStep_snoc (l : List (Int × Int)) (p q x y : Int) : mergeStep (l ++ [(p, q)]) (x, y) = if x ≤ q + 1 then l ++ [(p, max q y)] else l ++ [(p, q)] ++ [(x, y)] := by
  unfold mergeStep
  have e : (l ++ [(p, q)])[(l ++ [(p, q)]).length - 1]? = some (p, q) := by simp
  rw [e]
  simp only
  split
  · simp
  · rfl

/-- what is asked of the ranges that are merged -/
def clean (l : List (Int × Int)) : Prop := ∀ r, r ∈ l → -1000000 ≤ r.1 ∧ r.1 ≤ r.2 ∧ r.2 ≤ 1000000

theorem merge_fold {l : List (Int × Int)} : ∀ (out : List (Int × Int)), clean l → l.Pairwise (fun x y => x.1 ≤ y.1) → goodB out = true → (∀ i p q, out = i ++ [(p, q)] → ∀ r, r ∈ l → p ≤ r.1) →
    goodB (l.foldl mergeStep out) = true ∧ ∀ n, hasB (l.foldl mergeStep out) n = (hasB out n || hasB l n) := by
  induction l with
  | nil => intro out _ _ h _; exact ⟨h, fun n => by simp [hasB]⟩
  | cons r l ih =>
    intro out hc hs hg hle
    obtain ⟨x, y⟩ := r
    obtain ⟨c1, c2, c3⟩ := hc (x, y) List.mem_cons_self
    simp only at c1 c2 c3
    have hc' : clean l := fun r hr => hc r (List.mem_cons_of_mem _ hr)
    obtain ⟨s1, s2⟩ := List.pairwise_cons.1 hs
    have hn : ∀ n, hasB ((x, y) :: l) n = ((decide (x ≤ n) && decide (n ≤ y)) || hasB l n) := fun n => by simp [hasB]
    rcases List.eq_nil_or_concat out with rfl | ⟨i, ⟨p, q⟩, rfl⟩
    · have hg' : goodB [(x, y)] = true := goodFrom_cons.2 ⟨c1, c3, c2, by omega, rfl⟩
      obtain ⟨g, m⟩ := ih [(x, y)] hc' s2 hg' (fun i p q e r hr => by
        have : i = [] ∧ (p, q) = (x, y) := by
          cases i with
          | nil => simp at e; exact ⟨rfl, by simp [e]⟩
          | cons a i => simp at e
        obtain ⟨_, e2⟩ := this
        injection e2 with e2 e3; subst e2; exact s1 r hr)
      rw [List.foldl_cons, mergeStep_nil]
      exact ⟨g, fun n => by rw [m, hn]; simp [hasB]⟩
    · rw [List.concat_eq_append] at *
      rw [List.foldl_cons, mergeStep_snoc]
      obtain ⟨g0, g1, g2, g3, g4⟩ := good_snoc.1 hg
      have hpx : p ≤ x := hle i p q rfl (x, y) List.mem_cons_self
      by_cases hx : x ≤ q + 1
      · rw [if_pos hx]
        obtain ⟨g, m⟩ := ih (i ++ [(p, max q y)]) hc' s2 (good_snoc.2 ⟨g0, g1, by omega, by omega, g4⟩) (fun i' p' q' e r hr => by
          have e2 := (List.append_inj' e rfl).2
          simp at e2
          have := s1 r hr
          have : p' ≤ x := by omega
          omega)
        refine ⟨g, fun n => ?_⟩
        rw [m, hn, Bool.eq_iff_iff]
        simp only [Bool.or_eq_true, hasB_append, Bool.and_eq_true, decide_eq_true_eq]
        have e1 : hasB [(p, max q y)] n = true ↔ p ≤ n ∧ n ≤ max q y := by simp [hasB]
        have e2 : hasB [(p, q)] n = true ↔ p ≤ n ∧ n ≤ q := by simp [hasB]
        rw [e1, e2]
        constructor
        · rintro ((h | h) | h)
          · exact .inl (.inl h)
          · by_cases hq : n ≤ q
            · exact .inl (.inr ⟨h.1, hq⟩)
            · exact .inr (.inl (by omega))
          · exact .inr (.inr h)
        · rintro ((h | h) | (h | h))
          · exact .inl (.inl h)
          · exact .inl (.inr (by omega))
          · exact .inl (.inr (by omega))
          · exact .inr h
      · rw [if_neg hx]
        obtain ⟨g, m⟩ := ih (i ++ [(p, q)] ++ [(x, y)]) hc' s2 (good_snoc.2 ⟨hg, c1, c3, c2, by rw [lastOf_snoc]; omega⟩) (fun i' p' q' e r hr => by
          have e2 := (List.append_inj' e rfl).2
          simp at e2
          have := s1 r hr
          have : p' = x := e2.1.symm
          omega)
        refine ⟨g, fun n => ?_⟩
        rw [m, hn, Bool.eq_iff_iff]
        simp only [Bool.or_eq_true, hasB_append, Bool.and_eq_true, decide_eq_true_eq]
        have e1 : hasB [(x, y)] n = true ↔ x ≤ n ∧ n ≤ y := by simp [hasB]
        rw [e1]
        constructor
        · rintro (((h | h) | h) | h)
          · exact .inl (.inl h)
          · exact .inl (.inr h)
          · exact .inr (.inl h)
          · exact .inr (.inr h)
        · rintro ((h | h) | (h | h))
          · exact .inl (.inl (.inl h))
          · exact .inl (.inl (.inr h))
          · exact .inl (.inr h)
          · exact .inr h

theorem mergeL_good {l : List (Int × Int)} (hc : clean l) (hs : l.Pairwise (fun x y => x.1 ≤ y.1)) : goodB (mergeL l) = true ∧ ∀ n, hasB (mergeL l) n = hasB l n := by
  obtain ⟨g, m⟩ := merge_fold [] hc hs rfl (fun i p q e => by simp at e)
  exact ⟨g, fun n => by rw [mergeL, m]; simp [hasB]⟩

theorem clipL_clean (l : List (Int × Int)) : clean (clipL l) := by
  intro r hr
  simp only [clipL, List.mem_flatMap] at hr
  obtain ⟨a, _, h⟩ := hr
  unfold addL at h
  split at h
  · simp at h
  · simp at h; subst h; simp; omega
theorem clipL_has (l : List (Int × Int)) (n : Int) : hasB (clipL l) n = (decide (-1000000 ≤ n) && decide (n ≤ 1000000) && hasB l n) := by
  induction l with
  | nil => simp [clipL, hasB]
  | cons a l ih =>
    obtain ⟨x, y⟩ := a
    have e : clipL ((x, y) :: l) = addL (max x (-1000000)) (min y 1000000) ++ clipL l := by simp [clipL]
    rw [e, Bool.eq_iff_iff, hasB_append, hasB_addL, ih]
    simp only [Bool.and_eq_true, decide_eq_true_eq, hasB_cons]
    constructor
    · rintro (h | h)
      · exact ⟨by omega, .inl (by omega)⟩
      · exact ⟨h.1, .inr h.2⟩
    · rintro ⟨h, h' | h'⟩
      · exact .inl (by omega)
      · exact .inr ⟨h, h'⟩
theorem hasB_perm {l m : List (Int × Int)} (h : l.Perm m) (n : Int) : hasB l n = hasB m n := by
  rw [Bool.eq_iff_iff, hasB_iff, hasB_iff]
  exact ⟨fun ⟨r, h1, h2⟩ => ⟨r, h.mem_iff.1 h1, h2⟩, fun ⟨r, h1, h2⟩ => ⟨r, h.mem_iff.2 h1, h2⟩⟩

/-- THE SET OF ALL NUMBERS WITHIN BOUNDS THAT ARE IN A RANGE OF l -/
def normL (l : List (Int × Int)) : List (Int × Int) := mergeL ((clipL l).mergeSort fun x y => decide (x.1 ≤ y.1))
theorem norm_any {l l' : List (Int × Int)} (hp : l'.Perm (clipL l)) (hs : l'.Pairwise (fun x y => x.1 ≤ y.1)) : goodB (mergeL l') = true ∧ ∀ n, hasB (mergeL l') n = (decide (-1000000 ≤ n) && decide (n ≤ 1000000) && hasB l n) := by
  obtain ⟨g, m⟩ := mergeL_good (l := l') (fun r hr => clipL_clean l r (hp.mem_iff.1 hr)) hs
  exact ⟨g, fun n => by rw [m, hasB_perm hp, clipL_has]⟩
theorem normL_good (l : List (Int × Int)) : goodB (normL l) = true ∧ ∀ n, hasB (normL l) n = (decide (-1000000 ≤ n) && decide (n ≤ 1000000) && hasB l n) := by
  refine norm_any (List.mergeSort_perm _ _) ?_
  have := List.pairwise_mergeSort (le := fun (x y : Int × Int) => decide (x.1 ≤ y.1)) (fun a b c h1 h2 => by simp at *; omega) (fun a b => by simp; omega) (clipL l)
  exact this.imp (by intro a b h; simpa using h)
theorem normL_eq {l l' : List (Int × Int)} (hp : l'.Perm (clipL l)) (hs : l'.Pairwise (fun x y => x.1 ≤ y.1)) : mergeL l' = normL l :=
  good_unique (norm_any hp hs).1 (normL_good l).1 (fun n => by rw [(norm_any hp hs).2, (normL_good l).2])
theorem normL_of_good {l : List (Int × Int)} (h : goodB l = true) : normL l = l :=
  good_unique (normL_good l).1 h (fun n => by
    rw [(normL_good l).2]
    cases hh : hasB l n with
    | false => simp
    | true => have := good_in h hh; simp [this.1, this.2])
theorem clean_hiIn {l : List (Int × Int)} (h : clean l) : hiIn l := fun r hr => by have := h r hr; omega

/-- how many numbers from -1000000 on, N of them, are such -/
def cnt (N : Nat) (f : Int → Bool) : Nat := (List.range N).countP fun i : Nat => f ((i : Int) - 1000000)
theorem cnt_le (N : Nat) (f : Int → Bool) : cnt N f ≤ N := by
  have := List.countP_le_length (p := fun i : Nat => f ((i : Int) - 1000000)) (l := List.range N)
  rw [List.length_range] at this
  exact this
theorem countP_or {α : Type} (f g : α → Bool) (l : List α) (h : ∀ x, f x = true → g x = true → False) : l.countP (fun x => f x || g x) = l.countP f + l.countP g := by
  induction l with
  | nil => rfl
  | cons a l ih =>
    rw [List.countP_cons, List.countP_cons, List.countP_cons, ih]
    have := h a
    cases hf : f a <;> cases hg : g a <;> simp_all <;> omega
theorem cnt_or (N : Nat) (f g : Int → Bool) (h : ∀ x, f x = true → g x = true → False) : cnt N (fun x => f x || g x) = cnt N f + cnt N g := countP_or _ _ _ (fun _ => h _)
theorem countP_range (N a b : Nat) (h : a ≤ b) (hb : b ≤ N) : (List.range N).countP (fun i => decide (a ≤ i) && decide (i < b)) = b - a := by
  induction N generalizing b with
  | zero => simp; omega
  | succ N ih =>
    rw [List.range_succ, List.countP_append, List.countP_cons, List.countP_nil]
    by_cases hbN : b ≤ N
    · rw [ih b h hbN, if_neg (by simp; omega)]; omega
    · have : b = N + 1 := by omega
      subst this
      by_cases haN : a ≤ N
      · have e : (List.range N).countP (fun i => decide (a ≤ i) && decide (i < N + 1)) = (List.range N).countP (fun i => decide (a ≤ i) && decide (i < N)) := by
          apply List.countP_congr
          intro x hx
          have := List.mem_range.1 hx
          simp; omega
        rw [e, ih N haN (Nat.le_refl _), if_pos (by simp [haN])]; omega
      · have e : (List.range N).countP (fun i => decide (a ≤ i) && decide (i < N + 1)) = 0 := by
          rw [List.countP_eq_zero]
          intro x hx
          have := List.mem_range.1 hx
          simp; omega
        rw [e, if_neg (by simp; omega)]; omega
theorem cnt_range (N : Nat) (hN : N = 2000001) (x y : Int) (h1 : -1000000 ≤ x) (h2 : x ≤ y) (h3 : y ≤ 1000000) : (cnt N (fun n => decide (x ≤ n) && decide (n ≤ y)) : Int) = y - x + 1 := by
  have := countP_range N (x + 1000000).toNat (y + 1000001).toNat (by omega) (by omega)
  unfold cnt
  have e : (List.range N).countP (fun i : Nat => decide (x ≤ (i : Int) - 1000000) && decide ((i : Int) - 1000000 ≤ y)) = (List.range N).countP (fun i => decide ((x + 1000000).toNat ≤ i) && decide (i < (y + 1000001).toNat)) := by
    apply List.countP_congr
    intro i _
    simp; omega
  rw [e, this]; omega

/-- how many numbers the ranges have, one by one -/
def sumL (l : List (Int × Int)) : Int := (l.map fun r => r.2 - r.1 + 1).sum
theorem sumL_cons (x y : Int) (l : List (Int × Int)) : sumL ((x, y) :: l) = (y - x + 1) + sumL l := by simp [sumL]
theorem sumL_cnt (N : Nat) (hN : N = 2000001) {L : Int} {l : List (Int × Int)} (h : goodFrom L l = true) : sumL l = cnt N (hasB l) := by
  induction l generalizing L with
  | nil =>
    have : cnt N (hasB []) = 0 := by unfold cnt; rw [List.countP_eq_zero]; intro x _; simp [hasB]
    rw [this]; rfl
  | cons a l ih =>
    obtain ⟨x, y⟩ := a
    obtain ⟨h1, h2, h3, h4, h5⟩ := goodFrom_cons.1 h
    have e2 : hasB ((x, y) :: l) = fun n => (decide (x ≤ n) && decide (n ≤ y)) || hasB l n := by funext n; simp [hasB]
    rw [sumL_cons, e2, cnt_or N _ _ (fun n g1 g2 => by simp at g1; have := good_gt h5 g2; omega), ih h5]
    have := cnt_range N hN x y h1 h3 h2
    omega
theorem good_take {L : Int} {l : List (Int × Int)} (h : goodFrom L l = true) (k : Nat) : goodFrom L (l.take k) = true := by
  induction l generalizing L k with
  | nil => simp [goodFrom]
  | cons a l ih =>
    obtain ⟨x, y⟩ := a
    obtain ⟨h1, h2, h3, h4, h5⟩ := goodFrom_cons.1 h
    cases k with
    | zero => rfl
    | succ k => exact goodFrom_cons.2 ⟨h1, h2, h3, h4, ih h5 k⟩
theorem sumL_bounds {l : List (Int × Int)} (h : goodB l = true) (k : Nat) : 0 ≤ sumL (l.take k) ∧ sumL (l.take k) ≤ 2000001 := by
  obtain ⟨N, hN⟩ : ∃ N, N = 2000001 := ⟨_, rfl⟩
  have := sumL_cnt N hN (good_take (k := k) h)
  have := cnt_le N (hasB (l.take k))
  omega
theorem sumL_at {l : List (Int × Int)} {k : Nat} {x y : Int} (h : l[k]? = some (x, y)) : sumL (l.take (k + 1)) = sumL (l.take k) + (y - x + 1) := by
  rw [take_at h]; simp [sumL]
theorem sum_split {a b : List (Int × Int)} (ha : goodB a = true) (hb : goodB b = true) : sumL (bothF a b) + sumL (lessF a b) = sumL a := by
  obtain ⟨N, hN⟩ : ∃ N, N = 2000001 := ⟨_, rfl⟩
  obtain ⟨g1, m1⟩ := bothF_good ha hb
  obtain ⟨g2, m2⟩ := lessF_good ha hb
  have e : hasB a = fun n => hasB (bothF a b) n || hasB (lessF a b) n := by
    funext n; rw [m1, m2]; cases hasB a n <;> cases hasB b n <;> rfl
  have := cnt_or N (hasB (bothF a b)) (hasB (lessF a b)) (fun n h1 h2 => by rw [m1, Bool.and_eq_true] at h1; rw [m2, h1.2] at h2; simp at h2)
  rw [sumL_cnt N hN g1, sumL_cnt N hN g2, sumL_cnt N hN ha, e]; omega
theorem good_length {L : Int} {l : List (Int × Int)} (h : goodFrom L l = true) : (l.length : Int) ≤ sumL l := by
  induction l generalizing L with
  | nil => simp [sumL]
  | cons a l ih =>
    obtain ⟨x, y⟩ := a
    obtain ⟨h1, h2, h3, h4, h5⟩ := goodFrom_cons.1 h
    have := ih h5
    rw [sumL_cons, List.length_cons]; omega
theorem good_length_le {l : List (Int × Int)} (h : goodB l = true) : l.length ≤ 2000001 := by
  have h1 := good_length h
  have h2 := sumL_bounds h l.length
  rw [List.take_length] at h2
  omega

end Go.Proofs.YtmdljknlbmlacabGreatDoor
namespace Go.Proofs.YtmdljknlbmlacabGreatDoor

/-- increasing numbers within bounds -/
def Incr (l : List Int) : Prop := l.Pairwise (· < ·) ∧ ∀ x, x ∈ l → -1000000 ≤ x ∧ x ≤ 1000000
theorem incr_length_from {l : List Int} {a : Int} (h : l.Pairwise (· < ·)) (hb : ∀ x, x ∈ l → a ≤ x ∧ x ≤ 1000000) (ha : a ≤ 1000001) : (l.length : Int) ≤ 1000001 - a := by
  induction l generalizing a with
  | nil => simp; omega
  | cons x l ih =>
    obtain ⟨h1, h2⟩ := List.pairwise_cons.1 h
    have hx := hb x List.mem_cons_self
    have := ih (a := x + 1) h2 (fun y hy => ⟨h1 y hy, (hb y (List.mem_cons_of_mem _ hy)).2⟩) (by omega)
    rw [List.length_cons]; omega
theorem Incr.length_le {l : List Int} (h : Incr l) : l.length ≤ 2000001 := by
  have := incr_length_from (a := -1000000) h.1 h.2 (by omega)
  omega
theorem Incr.nil : Incr [] := ⟨List.Pairwise.nil, fun x hx => by simp at hx⟩
/-- l' is l with n -/
def Ins (n : Int) (l l' : List Int) : Prop := Incr l' ∧ ∀ x, x ∈ l' ↔ x ∈ l ∨ (x = n ∧ -1000000 ≤ n ∧ n ≤ 1000000)
theorem ins_out {n : Int} {l : List Int} (h : Incr l) (hn : ¬ (-1000000 ≤ n ∧ n ≤ 1000000)) : Ins n l l := ⟨h, fun _ => ⟨fun h => .inl h, fun h' => h'.elim id (fun h' => absurd h'.2 hn)⟩⟩
theorem ins_same {n : Int} {l : List Int} (h : Incr l) (hn : n ∈ l) : Ins n l l := ⟨h, fun _ => ⟨fun h => .inl h, fun h' => h'.elim id (fun h' => h'.1 ▸ hn)⟩⟩
theorem ins_at {n : Int} {l : List Int} {j : Nat} (h : Incr l) (h1 : -1000000 ≤ n) (h2 : n ≤ 1000000) (hj : j ≤ l.length) (hhi : ∀ i x, j ≤ i → l[i]? = some x → n < x) (hlo : j = 0 ∨ ∃ x, l[j - 1]? = some x ∧ x < n) :
    Ins n l (l.take j ++ n :: l.drop j) := by
  have hdrop : ∀ x, x ∈ l.drop j → n < x := by
    intro x hx
    obtain ⟨i, hi, e⟩ := List.mem_iff_getElem.1 hx
    rw [List.getElem_drop] at e
    exact hhi (j + i) x (by omega) (by rw [← e]; exact List.getElem?_eq_getElem _)
  have htake : ∀ x, x ∈ l.take j → x < n := by
    intro x hx
    obtain ⟨i, hi, e⟩ := List.mem_iff_getElem.1 hx
    rw [List.length_take] at hi
    rcases hlo with rfl | ⟨y, hy, hyn⟩
    · omega
    · obtain ⟨hy1, hy2⟩ := List.getElem?_eq_some_iff.1 hy
      rw [List.getElem_take] at e
      by_cases hij : i = j - 1
      · subst hij; omega
      · have := List.pairwise_iff_getElem.1 h.1 i (j - 1) (by omega) hy1 (by omega)
        omega
  refine ⟨⟨?_, ?_⟩, ?_⟩
  · rw [List.pairwise_append]
    refine ⟨h.1.sublist (List.take_sublist _ _), ?_, ?_⟩
    · rw [List.pairwise_cons]
      exact ⟨hdrop, h.1.sublist (List.drop_sublist _ _)⟩
    · intro a ha b hb
      have := htake a ha
      rcases List.mem_cons.1 hb with rfl | hb
      · exact this
      · have := hdrop b hb; omega
  · intro x hx
    rcases List.mem_append.1 hx with hx | hx
    · exact h.2 x (List.mem_of_mem_take hx)
    · rcases List.mem_cons.1 hx with rfl | hx
      · exact ⟨h1, h2⟩
      · exact h.2 x (List.mem_of_mem_drop hx)
  · intro x
    rw [List.mem_append, List.mem_cons]
    constructor
    · rintro (hx | rfl | hx)
      · exact .inl (List.mem_of_mem_take hx)
      · exact .inr ⟨rfl, h1, h2⟩
      · exact .inl (List.mem_of_mem_drop hx)
    · rintro (hx | ⟨rfl, _⟩)
      · rw [← List.take_append_drop j l] at hx
        rcases List.mem_append.1 hx with hx | hx
        · exact .inl hx
        · exact .inr (.inr hx)
      · exact .inr (.inl rfl)

/-- x is a number at which a set may begin or has ended -/
def EdgeIn (s : List (Int × Int)) (x : Int) : Prop := (-1000000 ≤ x ∧ x ≤ 1000000) ∧ ∃ r, r ∈ s ∧ (x = r.1 ∨ (r.2 < 1000000 ∧ x = r.2 + 1))
def EdgeOf (sets : List (List (Int × Int))) (x : Int) : Prop := x = -1000000 ∨ ∃ s, s ∈ sets ∧ EdgeIn s x
theorem edgeOf_at {sets : List (List (Int × Int))} {i : Nat} {s : List (Int × Int)} (h : sets[i]? = some s) (x : Int) : EdgeOf (sets.take (i + 1)) x ↔ EdgeOf (sets.take i) x ∨ EdgeIn s x := by
  unfold EdgeOf
  rw [take_at h]
  simp only [List.mem_append, List.mem_singleton]
  constructor
  · rintro (h | ⟨t, h | rfl, h'⟩)
    · exact .inl (.inl h)
    · exact .inl (.inr ⟨t, h, h'⟩)
    · exact .inr h'
  · rintro ((h | ⟨t, h, h'⟩) | h)
    · exact .inl h
    · exact .inr ⟨t, .inl h, h'⟩
    · exact .inr ⟨s, .inr rfl, h⟩
theorem edgeIn_at {s : List (Int × Int)} {j : Nat} {a b : Int} (h : s[j]? = some (a, b)) (x : Int) : EdgeIn (s.take (j + 1)) x ↔ EdgeIn (s.take j) x ∨ ((-1000000 ≤ x ∧ x ≤ 1000000) ∧ (x = a ∨ (b < 1000000 ∧ x = b + 1))) := by
  unfold EdgeIn
  rw [take_at h]
  simp only [List.mem_append, List.mem_singleton]
  constructor
  · rintro ⟨hb, r, h | rfl, h'⟩
    · exact .inl ⟨hb, r, h, h'⟩
    · exact .inr ⟨hb, h'⟩
  · rintro (⟨hb, r, h, h'⟩ | ⟨hb, h'⟩)
    · exact ⟨hb, r, .inl h, h'⟩
    · exact ⟨hb, (a, b), .inr rfl, h'⟩

end Go.Proofs.YtmdljknlbmlacabGreatDoor
namespace Go.Proofs.YtmdljknlbmlacabGreatDoor

def madeStep (out : List (Int × Int)) (n e : Int) : List (Int × Int) :=
  match out[out.length - 1]? with
  | some p => if p.2 = n - 1 then out.set (out.length - 1) (p.1, e) else out ++ [(n, e)]
  | none => out ++ [(n, e)]
/-- where the piece that begins at the head ends -/
def endOf : List Int → Int
  | [] => 1000000
  | m :: _ => m - 1
def madeF (f : Int → Bool) (out : List (Int × Int)) : List Int → List (Int × Int)
  | [] => out
  | n :: rest => madeF f (if f n then madeStep out n (endOf rest) else out) rest
theorem madeF_at {f : Int → Bool} {out : List (Int × Int)} {l : List Int} {k : Nat} {n : Int} (h : l[k]? = some n) : madeF f out (l.drop k) = madeF f (if f n then madeStep out n (endOf (l.drop (k + 1))) else out) (l.drop (k + 1)) := by
  rw [drop_at h]; rfl
theorem endOf_some {l : List Int} {k : Nat} {m : Int} (h : l[k]? = some m) : endOf (l.drop k) = m - 1 := by rw [drop_at h]; rfl
theorem endOf_none {l : List Int} {k : Nat} (h : l.length ≤ k) : endOf (l.drop k) = 1000000 := by rw [List.drop_of_length_le h]; rfl
theorem madeStep_none {out : List (Int × Int)} {n e : Int} (h : out.length = 0) : madeStep out n e = out ++ [(n, e)] := by
  have : out = [] := List.length_eq_zero_iff.1 h
  subst this; rfl
theorem madeStep_in {out : List (Int × Int)} {n e p q : Int} (h : out[out.length - 1]? = some (p, q)) (hr : q = n - 1) : madeStep out n e = out.set (out.length - 1) (p, e) := by
  unfold madeStep; rw [h]; simp [hr]
theorem madeStep_off {out : List (Int × Int)} {n e p q : Int} (h : out[out.length - 1]? = some (p, q)) (hr : ¬ q = n - 1) : madeStep out n e = out ++ [(n, e)] := by
  unfold madeStep; rw [h]; simp [hr]
theorem madeStep_length (out : List (Int × Int)) (n e : Int) : (madeStep out n e).length ≤ out.length + 1 := by
  unfold madeStep
  split
  · split <;> simp
  · simp

end Go.Proofs.YtmdljknlbmlacabGreatDoor
namespace Go.Proofs.YtmdljknlbmlacabGreatDoor

theorem madeStep_snoc (l : List (Int × Int)) (p q n e : Int) : madeStep (l ++ [(p, q)]) n e = if q = n - 1 then l ++ [(p, e)] else l ++ [(p, q)] ++ [(n, e)] := by
  unfold madeStep
  have e1 : (l ++ [(p, q)])[(l ++ [(p, q)]).length - 1]? = some (p, q) := by simp
  rw [e1]
  simp only
  split
  · simp
  · rfl
theorem madeStep_good {out : List (Int × Int)} {n e : Int} (hg : goodB out = true) (hl : lastOf (-1000002) out < n) (hn : -1000000 ≤ n) (he : n ≤ e) (heM : e ≤ 1000000) :
    goodB (madeStep out n e) = true ∧ lastOf (-1000002) (madeStep out n e) = e ∧ ∀ x, hasB (madeStep out n e) x = (hasB out x || (decide (n ≤ x) && decide (x ≤ e))) := by
  rcases List.eq_nil_or_concat out with rfl | ⟨i, ⟨p, q⟩, rfl⟩
  · refine ⟨goodFrom_cons.2 ⟨hn, heM, he, by omega, rfl⟩, rfl, fun x => ?_⟩
    show hasB [(n, e)] x = _
    simp [hasB]
  · rw [List.concat_eq_append] at *
    rw [lastOf_snoc] at hl
    rw [madeStep_snoc]
    obtain ⟨g0, g1, g2, g3, g4⟩ := good_snoc.1 hg
    have e2 : ∀ a b x : Int, hasB [(a, b)] x = true ↔ a ≤ x ∧ x ≤ b := fun a b x => by simp [hasB]
    by_cases hq : q = n - 1
    · rw [if_pos hq]
      refine ⟨good_snoc.2 ⟨g0, g1, heM, by omega, g4⟩, lastOf_snoc _ _ _ _, fun x => ?_⟩
      rw [Bool.eq_iff_iff]
      simp only [Bool.or_eq_true, hasB_append, Bool.and_eq_true, decide_eq_true_eq, e2]
      constructor
      · rintro (h | h)
        · exact .inl (.inl h)
        · by_cases hx : x ≤ q
          · exact .inl (.inr ⟨h.1, hx⟩)
          · exact .inr (by omega)
      · rintro ((h | h) | h)
        · exact .inl h
        · exact .inr (by omega)
        · exact .inr (by omega)
    · rw [if_neg hq]
      refine ⟨good_snoc.2 ⟨hg, hn, heM, he, by rw [lastOf_snoc]; omega⟩, lastOf_snoc _ _ _ _, fun x => ?_⟩
      rw [Bool.eq_iff_iff]
      simp only [Bool.or_eq_true, hasB_append, Bool.and_eq_true, decide_eq_true_eq, e2]

theorem madeF_good {f : Int → Bool} {l : List Int} : ∀ (out : List (Int × Int)), Incr l → goodB out = true → (∀ n, l.head? = some n → lastOf (-1000002) out < n) →
    (∀ i n, l[i]? = some n → ∀ x, n ≤ x → x ≤ endOf (l.drop (i + 1)) → f x = f n) →
    goodB (madeF f out l) = true ∧ ∀ x, hasB (madeF f out l) x = (hasB out x || (match l.head? with | some n => decide (n ≤ x) && decide (x ≤ 1000000) && f x | none => false)) := by
  induction l with
  | nil => intro out _ hg _ _; exact ⟨hg, fun x => by simp [madeF]⟩
  | cons n rest ih =>
    intro out hinc hg hl hc
    obtain ⟨p1, p2⟩ := List.pairwise_cons.1 hinc.1
    obtain ⟨b1, b2⟩ := hinc.2 n List.mem_cons_self
    have hrest : Incr rest := ⟨p2, fun x hx => hinc.2 x (List.mem_cons_of_mem _ hx)⟩
    have hln := hl n rfl
    have he : n ≤ endOf rest ∧ endOf rest ≤ 1000000 := by
      cases rest with
      | nil => simp [endOf]; omega
      | cons m rest =>
        have := p1 m List.mem_cons_self
        have := hrest.2 m List.mem_cons_self
        simp [endOf]; omega
    have hhead : ∀ m, rest.head? = some m → endOf rest = m - 1 := by
      intro m hm
      cases rest with
      | nil => simp at hm
      | cons a rest => simp at hm; subst hm; rfl
    have hc0 : ∀ x, n ≤ x → x ≤ endOf rest → f x = f n := fun x h1 h2 => hc 0 n rfl x h1 (by simpa using h2)
    have hc' : ∀ i n, rest[i]? = some n → ∀ x, n ≤ x → x ≤ endOf (rest.drop (i + 1)) → f x = f n := fun i m hm x h1 h2 => hc (i + 1) m (by simpa using hm) x h1 (by simpa using h2)
    cases hfn : f n with
    | false =>
      have e : madeF f out (n :: rest) = madeF f out rest := by simp [madeF, hfn]
      obtain ⟨g, m⟩ := ih out hrest hg (fun a ha => by have := hhead a ha; omega) hc'
      rw [e]
      refine ⟨g, fun x => ?_⟩
      rw [m x]
      congr 1
      simp only [List.head?_cons]
      cases hr : rest.head? with
      | none =>
        have : endOf rest = 1000000 := by cases rest with | nil => rfl | cons a r => simp at hr
        simp only
        by_cases hx : n ≤ x ∧ x ≤ 1000000
        · rw [hc0 x hx.1 (by omega), hfn]; simp
        · symm
          rw [Bool.and_eq_false_iff]
          left
          rw [← Bool.not_eq_true]
          simp; omega
      | some a =>
        have ha := hhead a hr
        simp only
        by_cases hx : a ≤ x
        · rw [decide_eq_true hx, decide_eq_true (show n ≤ x by omega)]
        · rw [decide_eq_false hx]
          by_cases hnx : n ≤ x
          · rw [hc0 x hnx (by omega), hfn]; simp
          · rw [decide_eq_false hnx]
    | true =>
      have e : madeF f out (n :: rest) = madeF f (madeStep out n (endOf rest)) rest := by simp [madeF, hfn]
      obtain ⟨g1, g2, g3⟩ := madeStep_good hg hln b1 he.1 he.2
      obtain ⟨g, m⟩ := ih _ hrest g1 (fun a ha => by have := hhead a ha; omega) hc'
      rw [e]
      refine ⟨g, fun x => ?_⟩
      rw [m x, g3 x, Bool.or_assoc]
      congr 1
      simp only [List.head?_cons]
      cases hr : rest.head? with
      | none =>
        have : endOf rest = 1000000 := by cases rest with | nil => rfl | cons a r => simp at hr
        simp only [Bool.or_false, this]
        by_cases hx : n ≤ x ∧ x ≤ 1000000
        · rw [hc0 x hx.1 (by omega), hfn]; simp
        · rw [Bool.eq_iff_iff]; simp; omega
      | some a =>
        have ha := hhead a hr
        simp only
        by_cases hx : n ≤ x ∧ x ≤ endOf rest
        · rw [hc0 x hx.1 hx.2, hfn, decide_eq_true hx.1, decide_eq_true hx.2, decide_eq_true (show x ≤ 1000000 by omega)]; rfl
        · have : (decide (n ≤ x) && decide (x ≤ endOf rest)) = false := by rw [← Bool.not_eq_true]; simp; omega
          rw [this, Bool.false_or]
          by_cases hnx : n ≤ x
          · rw [decide_eq_true hnx, decide_eq_true (show a ≤ x by omega)]
          · rw [decide_eq_false hnx, decide_eq_false (show ¬ a ≤ x by omega)]

theorem incr_min {l : List Int} (h : Incr l) (hm : (-1000000 : Int) ∈ l) : l.head? = some (-1000000) := by
  cases l with
  | nil => simp at hm
  | cons a l =>
    obtain ⟨p1, _⟩ := List.pairwise_cons.1 h.1
    rcases List.mem_cons.1 hm with e | hm
    · simp [e]
    · have := p1 _ hm
      have := (h.2 a List.mem_cons_self).1
      omega
theorem no_between {l : List Int} (h : Incr l) {i : Nat} {n x y : Int} (hn : l[i]? = some n) (hx : x ≤ endOf (l.drop (i + 1))) (hy : y ∈ l) (h1 : n < y) (h2 : y ≤ x) : False := by
  obtain ⟨j, hj, e⟩ := List.mem_iff_getElem.1 hy
  obtain ⟨hi, e2⟩ := List.getElem?_eq_some_iff.1 hn
  have hij : i < j := by
    rcases Nat.lt_trichotomy i j with h' | h' | h'
    · exact h'
    · subst h'; omega
    · have := List.pairwise_iff_getElem.1 h.1 j i hj hi h'; omega
  have hk : i + 1 < l.length := by omega
  have : endOf (l.drop (i + 1)) = l[i + 1] - 1 := endOf_some (List.getElem?_eq_getElem hk)
  by_cases hj2 : j = i + 1
  · subst hj2; omega
  · have := List.pairwise_iff_getElem.1 h.1 (i + 1) j hk hj (by omega); omega
theorem has_const {l : List Int} {sets : List (List (Int × Int))} (h : Incr l) (hm : ∀ x, x ∈ l ↔ EdgeOf sets x) {s : List (Int × Int)} (hs : s ∈ sets) {i : Nat} {n : Int} (hn : l[i]? = some n) {x : Int} (h1 : n ≤ x) (h2 : x ≤ endOf (l.drop (i + 1))) : hasB s x = hasB s n := by
  have hb := h.2 n (List.mem_of_getElem? hn)
  have hxM : x ≤ 1000000 := by
    by_cases hk : i + 1 < l.length
    · have e : endOf (l.drop (i + 1)) = l[i + 1] - 1 := endOf_some (List.getElem?_eq_getElem hk)
      have := (h.2 l[i + 1] (List.getElem_mem hk)).2
      omega
    · have e := endOf_none (l := l) (k := i + 1) (by omega)
      omega
  have hno : ∀ y, n < y → y ≤ x → EdgeIn s y → False := fun y a b c => no_between h hn h2 ((hm y).2 (.inr ⟨s, hs, c⟩)) a b
  rw [Bool.eq_iff_iff, hasB_iff, hasB_iff]
  constructor
  · rintro ⟨r, hr, r1, r2⟩
    by_cases hrn : r.1 ≤ n
    · exact ⟨r, hr, hrn, by omega⟩
    · exact absurd ⟨by omega, r, hr, .inl rfl⟩ (hno r.1 (by omega) r1)
  · rintro ⟨r, hr, r1, r2⟩
    by_cases hrx : x ≤ r.2
    · exact ⟨r, hr, by omega, hrx⟩
    · exact absurd ⟨by omega, r, hr, .inr ⟨by omega, rfl⟩⟩ (hno (r.2 + 1) (by omega) (by omega))
theorem made_set {l : List Int} {sets : List (List (Int × Int))} (h : Incr l) (hm : ∀ x, x ∈ l ↔ EdgeOf sets x) (f : Int → Bool)
    (hc : ∀ i n, l[i]? = some n → ∀ x, n ≤ x → x ≤ endOf (l.drop (i + 1)) → f x = f n) :
    goodB (madeF f [] l) = true ∧ ∀ x, hasB (madeF f [] l) x = (decide (-1000000 ≤ x) && decide (x ≤ 1000000) && f x) := by
  have h0 := incr_min h ((hm _).2 (.inl rfl))
  obtain ⟨g, m⟩ := madeF_good (f := f) [] h rfl (fun n hn => by rw [h0] at hn; injection hn with hn; subst hn; simp [lastOf]) hc
  refine ⟨g, fun x => ?_⟩
  rw [m x, h0]; simp [hasB]
theorem made_norm {l : List Int} {s : List (Int × Int)} (h : Incr l) (hm : ∀ x, x ∈ l ↔ EdgeOf [s] x) : madeF (hasB s) [] l = normL s := by
  obtain ⟨g, m⟩ := made_set h hm (hasB s) (fun i n hn x h1 h2 => has_const h hm (by simp) hn h1 h2)
  exact good_unique g (normL_good s).1 (fun n => by rw [m, (normL_good s).2])
theorem made_both {l : List Int} {a b : List (Int × Int)} (ha : goodB a = true) (hb : goodB b = true) (h : Incr l) (hm : ∀ x, x ∈ l ↔ EdgeOf [a, b] x) : madeF (fun n => hasB a n && hasB b n) [] l = bothF a b := by
  obtain ⟨g, m⟩ := made_set h hm (fun n => hasB a n && hasB b n) (fun i n hn x h1 h2 => by rw [has_const h hm (s := a) (by simp) hn h1 h2, has_const h hm (s := b) (by simp) hn h1 h2])
  obtain ⟨g2, m2⟩ := bothF_good ha hb
  refine good_unique g g2 (fun n => ?_)
  rw [m, m2]
  cases hh : hasB a n with
  | false => simp
  | true => have := good_in ha hh; simp [this.1, this.2]
theorem made_less {l : List Int} {a b : List (Int × Int)} (ha : goodB a = true) (hb : goodB b = true) (h : Incr l) (hm : ∀ x, x ∈ l ↔ EdgeOf [a, b] x) : madeF (fun n => hasB a n && !hasB b n) [] l = lessF a b := by
  obtain ⟨g, m⟩ := made_set h hm (fun n => hasB a n && !hasB b n) (fun i n hn x h1 h2 => by rw [has_const h hm (s := a) (by simp) hn h1 h2, has_const h hm (s := b) (by simp) hn h1 h2])
  obtain ⟨g2, m2⟩ := lessF_good ha hb
  refine good_unique g g2 (fun n => ?_)
  rw [m, m2]
  cases hh : hasB a n with
  | false => simp
  | true => have := good_in ha hh; simp [this.1, this.2]

end Go.Proofs.YtmdljknlbmlacabGreatDoor
