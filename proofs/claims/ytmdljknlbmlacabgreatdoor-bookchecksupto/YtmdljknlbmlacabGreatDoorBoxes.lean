/- Plain mathematics of boxes: lists of sets of whole numbers; what is in them, how many inputs they have, how one is split off another. No condition; no program is named. -/
import Derived.Test.YtmdljknlbmlacabGreatDoorSets
namespace Go.Proofs.YtmdljknlbmlacabGreatDoor

/-- each set is one, and none is empty -/
def setsB (b : List (List (Int × Int))) : Bool := b.all fun s => decide (0 < s.length) && goodB s
def goodBox (b : List (List (Int × Int))) (n : Int) : Bool := decide ((b.length : Int) = n) && decide (n ≤ 3) && setsB b
def hasBox : List (List (Int × Int)) → List Int → Bool
  | [], [] => true
  | s :: b, n :: i => hasB s n && hasBox b i
  | _, _ => false
def sizeP : List (List (Int × Int)) → Int
  | [] => 1
  | s :: b => sumL s * sizeP b
def sizeBox (b : List (List (Int × Int))) : Int := if goodBox b b.length then sizeP b else 0
def alikeB (a b : List (List (Int × Int))) : Bool := goodBox a a.length && goodBox b a.length
/-- set by set, the intersection -/
def interL (a b : List (List (Int × Int))) : List (List (Int × Int)) := List.zipWith bothF a b
def fullB (a : List (List (Int × Int))) : Bool := a.all fun s => decide (0 < s.length)
def bothOk (a b : List (List (Int × Int))) : Bool := alikeB a b && fullB (interL a b)
def bothBox (a b : List (List (Int × Int))) : List (List (Int × Int)) := if bothOk a b then interL a b else []
/-- what of a is not in b, from a place on; p: what was common ahead of it -/
def lessR (p : List (List (Int × Int))) : List (List (Int × Int)) → List (List (Int × Int)) → List (List (List (Int × Int)))
  | s :: a, t :: b => (if (lessF s t).length = 0 then [] else [p ++ lessF s t :: a]) ++ lessR (p ++ [bothF s t]) a b
  | _, _ => []
def lessBox (a b : List (List (Int × Int))) : List (List (List (Int × Int))) :=
  if alikeB a b then (if fullB (interL a b) then lessR [] a b else [a]) else []
def restBox (a : List (List (Int × Int))) (l : List (List (List (Int × Int)))) : List (List (List (Int × Int))) :=
  if goodBox a a.length then l.foldl (fun r b => if goodBox b a.length then r.flatMap (fun x => lessBox x b) else r) [a] else []
def pointL (b : List (List (Int × Int))) : List Int := b.filterMap fun s => s.head?.map (·.1)

theorem setsB_cons {s : List (Int × Int)} {b : List (List (Int × Int))} : setsB (s :: b) = true ↔ (0 < s.length ∧ goodB s = true) ∧ setsB b = true := by simp [setsB]
theorem setsB_append {a b : List (List (Int × Int))} : setsB (a ++ b) = true ↔ setsB a = true ∧ setsB b = true := by simp [setsB, List.all_append]
theorem fullB_cons {s : List (Int × Int)} {b : List (List (Int × Int))} : fullB (s :: b) = true ↔ 0 < s.length ∧ fullB b = true := by simp [fullB]
theorem goodBox_iff {b : List (List (Int × Int))} {n : Int} : goodBox b n = true ↔ ((b.length : Int) = n ∧ n ≤ 3) ∧ setsB b = true := by simp [goodBox]
theorem goodBox_self {b : List (List (Int × Int))} {n : Int} (h : goodBox b n = true) : goodBox b b.length = true := by
  rw [goodBox_iff] at h ⊢
  exact ⟨⟨rfl, by omega⟩, h.2⟩
theorem hasBox_length {b : List (List (Int × Int))} : ∀ {i : List Int}, hasBox b i = true → i.length = b.length := by
  induction b with
  | nil => intro i h; cases i with
    | nil => rfl
    | cons => simp [hasBox] at h
  | cons s b ih => intro i h; cases i with
    | nil => simp [hasBox] at h
    | cons n i =>
      simp [hasBox] at h
      simp [ih h.2]
theorem hasBox_append {p b : List (List (Int × Int))} : ∀ {i : List Int}, hasBox (p ++ b) i = (hasBox p (i.take p.length) && hasBox b (i.drop p.length)) := by
  induction p with
  | nil => intro i; simp [hasBox]
  | cons s p ih => intro i; cases i with
    | nil => simp [hasBox]
    | cons n i => simp [hasBox, ih, Bool.and_assoc]

theorem sumL_pos {s : List (Int × Int)} (h : goodB s = true) (h0 : 0 < s.length) : 1 ≤ sumL s := by
  have := good_length h
  omega
theorem sumL_le {s : List (Int × Int)} (h : goodB s = true) : 0 ≤ sumL s ∧ sumL s ≤ 2000001 := by
  have := sumL_bounds h s.length
  rwa [List.take_length] at this
theorem sizeP_append (a b : List (List (Int × Int))) : sizeP (a ++ b) = sizeP a * sizeP b := by
  induction a with
  | nil => simp [sizeP]
  | cons s a ih => simp [sizeP, ih, Int.mul_assoc]
theorem sizeP_nonneg {b : List (List (Int × Int))} (h : ∀ s, s ∈ b → goodB s = true) : 0 ≤ sizeP b := by
  induction b with
  | nil => simp [sizeP]
  | cons s b ih =>
    exact Int.mul_nonneg (sumL_le (h s (by simp))).1 (ih fun t ht => h t (by simp [ht]))
theorem setsB_good {b : List (List (Int × Int))} (h : setsB b = true) : ∀ s, s ∈ b → goodB s = true := by
  intro s hs
  simp [setsB] at h
  exact (h s hs).2
theorem sizeP_pos {b : List (List (Int × Int))} (h : setsB b = true) : 1 ≤ sizeP b := by
  induction b with
  | nil => simp [sizeP]
  | cons s b ih =>
    rw [setsB_cons] at h
    have h1 := sumL_pos h.1.2 h.1.1
    have h2 := ih h.2
    have := Int.mul_le_mul h1 h2 (by omega) (by omega)
    simpa [sizeP] using this
theorem sizeP_le {b : List (List (Int × Int))} (h : setsB b = true) : ∀ (n : Nat), b.length ≤ n → sizeP b ≤ 2000001 ^ n := by
  induction b with
  | nil => intro n _; simp only [sizeP]; exact Int.pow_pos (by omega)
  | cons s b ih =>
    intro n hn
    cases n with
    | zero => simp at hn
    | succ n =>
      rw [setsB_cons] at h
      have h1 := (sumL_le h.1.2).2
      have h2 := ih h.2 n (by simpa using hn)
      have h3 := sizeP_pos h.2
      have := Int.mul_le_mul h1 h2 (by omega) (by omega)
      rw [Int.pow_succ, Int.mul_comm (2000001 ^ n)]
      exact this
theorem sizeP_bound {b : List (List (Int × Int))} (h : setsB b = true) (hn : b.length ≤ 3) : 1 ≤ sizeP b ∧ sizeP b ≤ 8000012000006000001 := by
  refine ⟨sizeP_pos h, ?_⟩
  have := sizeP_le h 3 hn
  have e : (2000001 : Int) ^ 3 = 8000012000006000001 := by decide
  omega
theorem setsB_take {b : List (List (Int × Int))} (h : setsB b = true) (k : Nat) : setsB (b.take k) = true := by
  have : setsB (b.take k ++ b.drop k) = true := by rw [List.take_append_drop]; exact h
  exact (setsB_append.1 this).1
theorem setsB_drop {b : List (List (Int × Int))} (h : setsB b = true) (k : Nat) : setsB (b.drop k) = true := by
  have : setsB (b.take k ++ b.drop k) = true := by rw [List.take_append_drop]; exact h
  exact (setsB_append.1 this).2
theorem sizeP_take {b : List (List (Int × Int))} {k : Nat} {s : List (Int × Int)} (h : b[k]? = some s) : sizeP (b.take (k + 1)) = sizeP (b.take k) * sumL s := by
  rw [take_at h, sizeP_append]
  simp [sizeP]

/-- the intersection of boxes -/
theorem inter_good {a b : List (List (Int × Int))} (ha : setsB a = true) (hb : setsB b = true) : ∀ s, s ∈ interL a b → goodB s = true := by
  induction a generalizing b with
  | nil => intro s hs; simp [interL] at hs
  | cons s a ih =>
    cases b with
    | nil => intro s hs; simp [interL] at hs
    | cons t b =>
      rw [setsB_cons] at ha hb
      intro x hx
      simp only [interL, List.zipWith_cons_cons, List.mem_cons] at hx
      rcases hx with rfl | hx
      · have := (bothF_good (La := -1000002) (Lb := -1000002) ha.1.2 hb.1.2).1
        rwa [Int.max_self] at this
      · exact ih ha.2 hb.2 x hx
theorem inter_sets {a b : List (List (Int × Int))} (ha : setsB a = true) (hb : setsB b = true) (hf : fullB (interL a b) = true) : setsB (interL a b) = true := by
  simp only [setsB, List.all_eq_true, Bool.and_eq_true, decide_eq_true_eq]
  intro s hs
  simp [fullB] at hf
  exact ⟨hf s hs, inter_good ha hb s hs⟩
theorem inter_has {a b : List (List (Int × Int))} (ha : setsB a = true) (hb : setsB b = true) (hl : a.length = b.length) : ∀ {i : List Int}, hasBox (interL a b) i = (hasBox a i && hasBox b i) := by
  induction a generalizing b with
  | nil =>
    cases b with
    | nil => intro i; cases i <;> simp [interL, hasBox]
    | cons => simp at hl
  | cons s a ih =>
    cases b with
    | nil => simp at hl
    | cons t b =>
      rw [setsB_cons] at ha hb
      intro i
      cases i with
      | nil => simp [interL, hasBox]
      | cons n i =>
        have h1 := (bothF_good (La := -1000002) (Lb := -1000002) ha.1.2 hb.1.2).2 n
        have h2 := ih ha.2 hb.2 (by simpa using hl) (i := i)
        simp only [interL] at h2
        simp only [interL, List.zipWith_cons_cons, hasBox, h1, h2]
        cases hasB s n <;> cases hasB t n <;> cases hasBox a i <;> cases hasBox b i <;> rfl
/-- a box with an empty set has no input -/
theorem empty_has {b : List (List (Int × Int))} (h : fullB b = false) : ∀ {i : List Int}, hasBox b i = false := by
  induction b with
  | nil => simp [fullB] at h
  | cons s b ih =>
    intro i
    cases i with
    | nil => rfl
    | cons n i =>
      simp only [hasBox]
      by_cases hs : 0 < s.length
      · have : fullB b = false := by
          cases hb : fullB b
          · rfl
          · have := fullB_cons.2 ⟨hs, hb⟩; rw [this] at h; cases h
        rw [ih this, Bool.and_false]
      · have : s = [] := List.length_eq_zero_iff.1 (by omega)
        subst this
        rw [hasB_nil, Bool.false_and]

def bit (b : Bool) : Nat := if b then 1 else 0
def cntBox (l : List (List (List (Int × Int)))) (i : List Int) : Nat := l.countP fun x => hasBox x i
def sumBox (l : List (List (List (Int × Int)))) : Int := (l.map sizeP).sum
theorem cntBox_append (l m : List (List (List (Int × Int)))) (i : List Int) : cntBox (l ++ m) i = cntBox l i + cntBox m i := List.countP_append
theorem sumBox_append (l m : List (List (List (Int × Int)))) : sumBox (l ++ m) = sumBox l + sumBox m := by simp [sumBox]

theorem less_sets {s t : List (Int × Int)} (hs : goodB s = true) (ht : goodB t = true) : goodB (lessF s t) = true ∧ ∀ n, hasB (lessF s t) n = (hasB s n && !hasB t n) :=
  lessF_good (La := -1000002) (Lb := -1000002) hs ht
theorem hasB_pos {s : List (Int × Int)} {n : Int} (h : hasB s n = true) : 0 < s.length := by
  cases s with
  | nil => rw [hasB_nil] at h; cases h
  | cons => simp

theorem lessR_good {a : List (List (Int × Int))} : ∀ {p b : List (List (Int × Int))}, setsB p = true → setsB a = true → setsB b = true → fullB (interL a b) = true →
    ∀ x, x ∈ lessR p a b → x.length = p.length + a.length ∧ setsB x = true := by
  induction a with
  | nil => intro p b _ _ _ _ x hx; simp [lessR] at hx
  | cons s a ih =>
    intro p b hp ha hb hf x hx
    cases b with
    | nil => simp [lessR] at hx
    | cons t b =>
      rw [setsB_cons] at ha hb
      simp only [interL, List.zipWith_cons_cons] at hf
      rw [fullB_cons] at hf
      simp only [lessR, List.mem_append] at hx
      rcases hx with hx | hx
      · split at hx
        · simp at hx
        · rename_i h0
          simp at hx
          subst hx
          refine ⟨by simp, ?_⟩
          rw [setsB_append, setsB_cons]
          exact ⟨hp, ⟨by omega, (less_sets ha.1.2 hb.1.2).1⟩, ha.2⟩
      · have hg := (bothF_good (La := -1000002) (Lb := -1000002) ha.1.2 hb.1.2).1
        rw [Int.max_self] at hg
        obtain ⟨h1, h2⟩ := ih (p := p ++ [bothF s t]) (by rw [setsB_append, setsB_cons]; exact ⟨hp, ⟨hf.1, hg⟩, rfl⟩) ha.2 hb.2 hf.2 x hx
        exact ⟨by rw [h1]; simp; omega, h2⟩
theorem lessR_cnt {a : List (List (Int × Int))} : ∀ {p b : List (List (Int × Int))}, setsB a = true → setsB b = true → a.length = b.length →
    ∀ i, cntBox (lessR p a b) i = bit (hasBox (p ++ a) i && !hasBox b (i.drop p.length)) := by
  induction a with
  | nil =>
    intro p b _ _ hl i
    cases b with
    | nil =>
      simp only [lessR, cntBox, List.countP_nil, hasBox_append]
      cases hd : hasBox [] (i.drop p.length) <;> simp [bit]
    | cons => simp at hl
  | cons s a ih =>
    intro p b ha hb hl i
    cases b with
    | nil => simp at hl
    | cons t b =>
      rw [setsB_cons] at ha hb
      simp only [lessR, cntBox_append]
      rw [ih ha.2 hb.2 (by simpa using hl)]
      have hF : cntBox (if (lessF s t).length = 0 then [] else [p ++ lessF s t :: a]) i = bit (hasBox (p ++ lessF s t :: a) i) := by
        by_cases h0 : (lessF s t).length = 0
        · have e : lessF s t = [] := List.length_eq_zero_iff.1 h0
          have : hasBox (p ++ lessF s t :: a) i = false := by
            rw [e, hasBox_append]
            cases i.drop p.length with
            | nil => simp [hasBox]
            | cons n r => simp [hasBox, hasB_nil]
          rw [if_pos h0, this]; rfl
        · rw [if_neg h0]
          simp only [cntBox, List.countP_cons, List.countP_nil, bit]
          cases hasBox (p ++ lessF s t :: a) i <;> simp
      rw [hF]
      simp only [hasBox_append, List.length_append, List.length_cons, List.length_nil, ← List.drop_drop, Nat.zero_add]
      have et : (List.take (p.length + 1) i).drop p.length = (i.drop p.length).take 1 := by rw [List.drop_take]; congr 1; omega
      have ett : (List.take (p.length + 1) i).take p.length = i.take p.length := by rw [List.take_take]; congr 1; omega
      rw [et, ett]
      cases i.drop p.length with
      | nil => simp [hasBox, bit]
      | cons n r =>
        have h1 := (bothF_good (La := -1000002) (Lb := -1000002) ha.1.2 hb.1.2).2 n
        have h2 := (less_sets ha.1.2 hb.1.2).2 n
        simp only [List.take_succ_cons, List.take_zero, List.drop_succ_cons, List.drop_zero, hasBox, h1, h2]
        cases hasBox p (i.take p.length) <;> cases hasB s n <;> cases hasB t n <;> cases hasBox a r <;> cases hasBox b r <;> rfl
theorem lessR_sum {a : List (List (Int × Int))} : ∀ {p b : List (List (Int × Int))}, setsB a = true → setsB b = true → a.length = b.length →
    sumBox (lessR p a b) + sizeP p * sizeP (interL a b) = sizeP p * sizeP a := by
  induction a with
  | nil => intro p b _ _ hl; simp [lessR, sumBox, interL]
  | cons s a ih =>
    intro p b ha hb hl
    cases b with
    | nil => simp at hl
    | cons t b =>
      rw [setsB_cons] at ha hb
      simp only [lessR, sumBox_append]
      have h1 := ih (p := p ++ [bothF s t]) ha.2 hb.2 (by simpa using hl)
      have h2 := sum_split ha.1.2 hb.1.2
      have hF : sumBox (if (lessF s t).length = 0 then [] else [p ++ lessF s t :: a]) = sizeP p * (sumL (lessF s t) * sizeP a) := by
        by_cases h0 : (lessF s t).length = 0
        · have e : lessF s t = [] := List.length_eq_zero_iff.1 h0
          rw [if_pos h0, e]
          simp [sumBox, sumL]
        · rw [if_neg h0]
          simp [sumBox, sizeP_append, sizeP]
      rw [hF]
      simp only [sizeP_append, sizeP, Int.mul_one, interL, List.zipWith_cons_cons] at h1 ⊢
      rw [← h2, Int.add_mul, Int.mul_add, ← Int.mul_assoc (sizeP p) (sumL (bothF s t)) (sizeP a), ← h1]
      simp only [Int.mul_assoc]
      omega

theorem alikeB_iff {a b : List (List (Int × Int))} : alikeB a b = true ↔ goodBox a a.length = true ∧ goodBox b a.length = true := by simp [alikeB]
theorem lessBox_good {a b x : List (List (Int × Int))} (hx : x ∈ lessBox a b) : goodBox x a.length = true := by
  unfold lessBox at hx
  split at hx
  · rename_i h
    rw [alikeB_iff] at h
    obtain ⟨hga, hgb⟩ := h
    have ha := goodBox_iff.1 hga
    have hb := goodBox_iff.1 hgb
    split at hx
    · rename_i hf
      obtain ⟨h1, h2⟩ := lessR_good (p := []) rfl ha.2 hb.2 hf x hx
      rw [goodBox_iff]
      exact ⟨⟨by simp [h1], ha.1.2⟩, h2⟩
    · simp at hx; subst hx; exact hga
  · simp at hx
theorem lessBox_cnt {a b : List (List (Int × Int))} (h : alikeB a b = true) (i : List Int) : cntBox (lessBox a b) i = bit (hasBox a i && !hasBox b i) := by
  unfold lessBox
  rw [if_pos h]
  rw [alikeB_iff] at h
  obtain ⟨hga, hgb⟩ := h
  have ha := goodBox_iff.1 hga
  have hb := goodBox_iff.1 hgb
  have hl : a.length = b.length := by omega
  by_cases hf : fullB (interL a b) = true
  · rw [if_pos hf, lessR_cnt ha.2 hb.2 hl]
    simp
  · rw [if_neg hf]
    have h1 := inter_has ha.2 hb.2 hl (i := i)
    rw [empty_has (by simpa using hf)] at h1
    simp only [cntBox, List.countP_cons, List.countP_nil, bit]
    clear ha hb hga hgb hf hl
    cases h2 : hasBox a i <;> cases h3 : hasBox b i
    · rfl
    · rfl
    · rfl
    · rw [h2, h3] at h1; cases h1
theorem lessBox_sum {a b : List (List (Int × Int))} (h : alikeB a b = true) : sumBox (lessBox a b) + (if bothOk a b then sizeP (interL a b) else 0) = sizeP a := by
  unfold lessBox bothOk
  rw [if_pos h, h, Bool.true_and]
  rw [alikeB_iff] at h
  obtain ⟨hga, hgb⟩ := h
  have ha := goodBox_iff.1 hga
  have hb := goodBox_iff.1 hgb
  have hl : a.length = b.length := by omega
  by_cases hf : fullB (interL a b) = true
  · rw [if_pos hf, if_pos hf]
    have := lessR_sum (p := []) ha.2 hb.2 hl
    simpa [sizeP] using this
  · rw [if_neg hf, if_neg hf]
    simp [sumBox]
theorem sumBox_nonneg {l : List (List (List (Int × Int)))} (h : ∀ x, x ∈ l → setsB x = true) : 0 ≤ sumBox l := by
  induction l with
  | nil => simp [sumBox]
  | cons x l ih =>
    have h1 := sizeP_pos (h x (by simp))
    have h2 := ih fun y hy => h y (by simp [hy])
    simp only [sumBox, List.map_cons, List.sum_cons] at h2 ⊢
    omega
theorem sumBox_take_le {l : List (List (List (Int × Int)))} (h : ∀ x, x ∈ l → setsB x = true) (k : Nat) : 0 ≤ sumBox (l.take k) ∧ sumBox (l.take k) ≤ sumBox l := by
  have e : sumBox l = sumBox (l.take k) + sumBox (l.drop k) := by rw [← sumBox_append, List.take_append_drop]
  have h1 := sumBox_nonneg (l := l.take k) fun x hx => h x (List.mem_of_mem_take hx)
  have h2 := sumBox_nonneg (l := l.drop k) fun x hx => h x (List.mem_of_mem_drop hx)
  omega
theorem lessR_length (a : List (List (Int × Int))) : ∀ (p b : List (List (Int × Int))), (lessR p a b).length ≤ a.length := by
  induction a with
  | nil => intro p b; simp [lessR]
  | cons s a ih =>
    intro p b
    cases b with
    | nil => simp [lessR]
    | cons t b =>
      have := ih (p ++ [bothF s t]) b
      simp only [lessR, List.length_append, List.length_cons]
      split <;> simp <;> omega
theorem lessBox_length (a b : List (List (Int × Int))) : (lessBox a b).length ≤ 3 := by
  unfold lessBox
  split
  · rename_i h
    have := goodBox_iff.1 (alikeB_iff.1 h).1
    split
    · have := lessR_length a [] b
      omega
    · simp
  · simp

/-- each box of a list is less by b -/
def eachBox (l : List (List (List (Int × Int)))) (b : List (List (Int × Int))) : List (List (List (Int × Int))) := l.flatMap fun x => lessBox x b
theorem eachBox_append (l m : List (List (List (Int × Int)))) (b : List (List (Int × Int))) : eachBox (l ++ m) b = eachBox l b ++ eachBox m b := by simp [eachBox]
theorem eachBox_take {l : List (List (List (Int × Int)))} {k : Nat} {x : List (List (Int × Int))} (h : l[k]? = some x) (b : List (List (Int × Int))) : eachBox (l.take (k + 1)) b = eachBox (l.take k) b ++ lessBox x b := by
  rw [take_at h, eachBox_append]; simp [eachBox]
theorem eachBox_length (l : List (List (List (Int × Int)))) (b : List (List (Int × Int))) : (eachBox l b).length ≤ 3 * l.length := by
  induction l with
  | nil => simp [eachBox]
  | cons x l ih =>
    have := lessBox_length x b
    simp only [eachBox, List.flatMap_cons, List.length_append, List.length_cons] at ih ⊢
    omega
theorem eachBox_good {l : List (List (List (Int × Int)))} {b x : List (List (Int × Int))} {n : Int} (hl : ∀ y, y ∈ l → goodBox y n = true) (hx : x ∈ eachBox l b) : goodBox x n = true := by
  simp only [eachBox, List.mem_flatMap] at hx
  obtain ⟨y, hy, hx⟩ := hx
  have h1 := (goodBox_iff.1 (hl y hy)).1.1
  have := lessBox_good hx
  rwa [h1] at this
theorem eachBox_cnt {l : List (List (List (Int × Int)))} {b : List (List (Int × Int))} {n : Int} (hl : ∀ y, y ∈ l → goodBox y n = true) (hb : goodBox b n = true) (i : List Int) : cntBox (eachBox l b) i = if hasBox b i then 0 else cntBox l i := by
  induction l with
  | nil => simp [eachBox, cntBox]
  | cons x l ih =>
    have hx := hl x (by simp)
    have h1 := (goodBox_iff.1 hx).1.1
    have ha : alikeB x b = true := alikeB_iff.2 ⟨goodBox_self hx, by rw [h1]; exact hb⟩
    have h2 := ih fun y hy => hl y (by simp [hy])
    have e : eachBox (x :: l) b = lessBox x b ++ eachBox l b := by simp [eachBox]
    rw [e, cntBox_append, h2, lessBox_cnt ha]
    have e2 : cntBox (x :: l) i = bit (hasBox x i) + cntBox l i := by
      simp only [cntBox, List.countP_cons, bit]; omega
    rw [e2]
    cases hasBox b i <;> cases hasBox x i <;> simp [bit]
theorem eachBox_sum {l : List (List (List (Int × Int)))} {b : List (List (Int × Int))} {n : Int} (hl : ∀ y, y ∈ l → goodBox y n = true) (hb : goodBox b n = true) : sumBox (eachBox l b) ≤ sumBox l := by
  induction l with
  | nil => simp [eachBox]
  | cons x l ih =>
    have hx := hl x (by simp)
    have h1 := (goodBox_iff.1 hx).1.1
    have ha : alikeB x b = true := alikeB_iff.2 ⟨goodBox_self hx, by rw [h1]; exact hb⟩
    have h2 := ih fun y hy => hl y (by simp [hy])
    have e : eachBox (x :: l) b = lessBox x b ++ eachBox l b := by simp [eachBox]
    have h3 := lessBox_sum ha
    have h4 : 0 ≤ (if bothOk x b then sizeP (interL x b) else 0) := by
      split
      · exact sizeP_nonneg (inter_good (goodBox_iff.1 hx).2 (goodBox_iff.1 hb).2)
      · omega
    have e2 : sumBox (x :: l) = sizeP x + sumBox l := by simp [sumBox]
    rw [e, sumBox_append, e2]
    omega

def restStep (n : Int) (r : List (List (List (Int × Int)))) (b : List (List (Int × Int))) : List (List (List (Int × Int))) := if goodBox b n then eachBox r b else r
def restF (a : List (List (Int × Int))) (l : List (List (List (Int × Int)))) : List (List (List (Int × Int))) := l.foldl (restStep a.length) [a]
theorem restBox_eq (a : List (List (Int × Int))) (l : List (List (List (Int × Int)))) : restBox a l = if goodBox a a.length then restF a l else [] := rfl
theorem restF_take {a : List (List (Int × Int))} {l : List (List (List (Int × Int)))} {k : Nat} {b : List (List (Int × Int))} (h : l[k]? = some b) : restF a (l.take (k + 1)) = restStep a.length (restF a (l.take k)) b := by
  unfold restF
  rw [take_at h, List.foldl_append]
  rfl
def inGood (n : Int) (l : List (List (List (Int × Int)))) (i : List Int) : Bool := l.any fun b => goodBox b n && hasBox b i
theorem restF_all {a : List (List (Int × Int))} (ha : goodBox a a.length = true) (l : List (List (List (Int × Int)))) : ∀ k, k ≤ l.length →
    (∀ x, x ∈ restF a (l.take k) → goodBox x a.length = true) ∧ (restF a (l.take k)).length ≤ 3 ^ k ∧ sumBox (restF a (l.take k)) ≤ sizeP a ∧
    ∀ i, cntBox (restF a (l.take k)) i = bit (hasBox a i && !inGood a.length (l.take k) i) := by
  intro k
  induction k with
  | zero =>
    intro _
    simp only [List.take_zero, restF, List.foldl_nil]
    refine ⟨fun x hx => by simp at hx; subst hx; exact ha, by simp, by simp [sumBox], fun i => ?_⟩
    simp only [cntBox, List.countP_cons, List.countP_nil, inGood, bit]
    cases hasBox a i <;> simp
  | succ k ih =>
    intro hk
    obtain ⟨h1, h2, h3, h4⟩ := ih (by omega)
    have hb : l[k]? = some l[k] := List.getElem?_eq_getElem (by omega)
    generalize l[k] = b at hb
    rw [restF_take hb]
    unfold restStep
    have hin : ∀ i, inGood a.length (l.take (k + 1)) i = (inGood a.length (l.take k) i || (goodBox b a.length && hasBox b i)) := by
      intro i; unfold inGood; rw [take_at hb, List.any_append]; simp
    by_cases hg : goodBox b a.length = true
    · rw [if_pos hg]
      refine ⟨fun x hx => eachBox_good h1 hx, ?_, Int.le_trans (eachBox_sum h1 hg) h3, fun i => ?_⟩
      · have h5 := eachBox_length (restF a (l.take k)) b
        have h6 := Nat.pow_succ 3 k
        omega
      · rw [eachBox_cnt h1 hg, h4, hin, hg]
        cases hasBox b i <;> cases hasBox a i <;> cases inGood a.length (l.take k) i <;> rfl
    · rw [if_neg hg]
      refine ⟨h1, ?_, h3, fun i => ?_⟩
      · have h6 := Nat.pow_succ 3 k
        omega
      · rw [h4, hin]
        have : goodBox b a.length = false := by simpa using hg
        rw [this]; simp
theorem point_has {b : List (List (Int × Int))} (h : setsB b = true) : hasBox b (pointL b) = true := by
  induction b with
  | nil => rfl
  | cons s b ih =>
    rw [setsB_cons] at h
    cases s with
    | nil => simp at h
    | cons r s =>
      have e : pointL ((r :: s) :: b) = r.1 :: pointL b := by simp [pointL]
      rw [e]
      simp only [hasBox, ih h.2, Bool.and_true]
      obtain ⟨x, y⟩ := r
      have := goodFrom_cons.1 h.1.2
      rw [hasB_cons]
      exact .inl ⟨by simp, by simp; omega⟩

end Go.Proofs.YtmdljknlbmlacabGreatDoor
