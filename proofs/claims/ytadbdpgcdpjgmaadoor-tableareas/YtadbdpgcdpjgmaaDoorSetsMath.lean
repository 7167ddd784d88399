/- Plain mathematics of sets of whole numbers as lists of ranges: a set is known by its numbers; intersection, difference, merging and counting. No condition; no program is named. -/
import Derived.Test.YtadbdpgcdpjgmaaDoorSetsBoth
import Derived.Test.YtadbdpgcdpjgmaaDoorSetsLess
import Derived.Test.YtadbdpgcdpjgmaaDoorSetsMerge
namespace Go.Proofs.YtadbdpgcdpjgmaaDoor

theorem goodFrom_cons {L x y : Int} {l : List (Int × Int)} : goodFrom L ((x, y) :: l) = true ↔ -1000000 ≤ x ∧ y ≤ 1000000 ∧ x ≤ y ∧ L + 1 < x ∧ goodFrom y l = true := by
  simp [goodFrom, and_assoc]
theorem hasB_cons {x y n : Int} {l : List (Int × Int)} : hasB ((x, y) :: l) n = true ↔ (x ≤ n ∧ n ≤ y) ∨ hasB l n = true := by
  simp [hasB]
theorem hasB_nil (n : Int) : hasB [] n = false := rfl
theorem hasB_append {l m : List (Int × Int)} {n : Int} : hasB (l ++ m) n = true ↔ hasB l n = true ∨ hasB m n = true := by
  simp [hasB, List.any_append]
theorem hasB_addL {x y n : Int} : hasB (addL x y) n = true ↔ x ≤ n ∧ n ≤ y := by
  unfold addL
  split
  · simp [hasB]; omega
  · simp [hasB]
theorem good_gt {L n : Int} {l : List (Int × Int)} (h : goodFrom L l = true) (hn : hasB l n = true) : L + 1 < n := by
  induction l generalizing L with
  | nil => simp [hasB] at hn
  | cons a l ih =>
    obtain ⟨x, y⟩ := a
    obtain ⟨h1, h2, h3, h4, h5⟩ := goodFrom_cons.1 h
    rcases hasB_cons.1 hn with h' | h'
    · omega
    · have := ih h5 h'; omega
theorem good_in {L n : Int} {l : List (Int × Int)} (h : goodFrom L l = true) (hn : hasB l n = true) : -1000000 ≤ n ∧ n ≤ 1000000 := by
  induction l generalizing L with
  | nil => simp [hasB] at hn
  | cons a l ih =>
    obtain ⟨x, y⟩ := a
    obtain ⟨h1, h2, h3, h4, h5⟩ := goodFrom_cons.1 h
    rcases hasB_cons.1 hn with h' | h'
    · omega
    · exact ih h5 h'
theorem good_le {L L' : Int} {l : List (Int × Int)} (h : goodFrom L l = true) (hL : L' ≤ L) : goodFrom L' l = true := by
  cases l with
  | nil => rfl
  | cons a l =>
    obtain ⟨x, y⟩ := a
    obtain ⟨h1, h2, h3, h4, h5⟩ := goodFrom_cons.1 h
    exact goodFrom_cons.2 ⟨h1, h2, h3, by omega, h5⟩
theorem good_allIn {L : Int} {l : List (Int × Int)} (h : goodFrom L l = true) : allIn l := by
  induction l generalizing L with
  | nil => intro r hr; simp at hr
  | cons a l ih =>
    obtain ⟨x, y⟩ := a
    obtain ⟨h1, h2, h3, h4, h5⟩ := goodFrom_cons.1 h
    intro r hr
    rcases List.mem_cons.1 hr with rfl | hr
    · exact ⟨h1, by omega, by omega, h2⟩
    · exact ih h5 r hr

/-- A SET IS KNOWN BY ITS NUMBERS. -/
theorem good_unique {L L' : Int} {a b : List (Int × Int)} (ha : goodFrom L a = true) (hb : goodFrom L' b = true) (h : ∀ n, hasB a n = hasB b n) : a = b := by
  induction a generalizing b L L' with
  | nil =>
    cases b with
    | nil => rfl
    | cons r b =>
      obtain ⟨p, q⟩ := r
      obtain ⟨_, _, h3, _, _⟩ := goodFrom_cons.1 hb
      have h1 : hasB ((p, q) :: b) p = true := hasB_cons.2 (.inl ⟨by omega, h3⟩)
      rw [← h p] at h1; simp [hasB] at h1
  | cons r a ih =>
    obtain ⟨x, y⟩ := r
    obtain ⟨a1, a2, a3, a4, a5⟩ := goodFrom_cons.1 ha
    cases b with
    | nil =>
      have h1 : hasB ((x, y) :: a) x = true := hasB_cons.2 (.inl ⟨by omega, a3⟩)
      rw [h x] at h1; simp [hasB] at h1
    | cons s b =>
      obtain ⟨p, q⟩ := s
      obtain ⟨b1, b2, b3, b4, b5⟩ := goodFrom_cons.1 hb
      have hlo : ∀ {x y p q : Int} {a b : List (Int × Int)}, goodFrom q b = true → p ≤ q → x ≤ y → (∀ n, hasB ((x, y) :: a) n = hasB ((p, q) :: b) n) → p ≤ x := by
        intro x y p q a b hb hpq hxy h
        have h1 : hasB ((x, y) :: a) x = true := hasB_cons.2 (.inl ⟨by omega, hxy⟩)
        rw [h x] at h1
        rcases hasB_cons.1 h1 with h' | h'
        · omega
        · have := good_gt hb h'; omega
      have e1 : p ≤ x := hlo b5 b3 a3 h
      have e2 : x ≤ p := hlo a5 a3 b3 (fun n => (h n).symm)
      have hhi : ∀ {x y q : Int} {a b : List (Int × Int)}, goodFrom y a = true → x ≤ y → (∀ n, hasB ((x, y) :: a) n = hasB ((x, q) :: b) n) → q ≤ y := by
        intro x y q a b ha hxy h
        by_cases hlt : y < q
        · have h1 : hasB ((x, q) :: b) (y + 1) = true := hasB_cons.2 (.inl ⟨by omega, by omega⟩)
          rw [← h (y + 1)] at h1
          rcases hasB_cons.1 h1 with h' | h'
          · omega
          · have := good_gt ha h'; omega
        · omega
      have e3 : x = p := by omega
      subst e3
      have e4 : q ≤ y := hhi a5 a3 h
      have e5 : y ≤ q := hhi b5 b3 (fun n => (h n).symm)
      have e6 : y = q := by omega
      subst e6
      congr 1
      refine ih a5 b5 fun n => ?_
      by_cases hn : n ≤ y
      · have f1 : hasB a n = false := by
          cases hh : hasB a n with
          | false => rfl
          | true => have := good_gt a5 hh; omega
        have f2 : hasB b n = false := by
          cases hh : hasB b n with
          | false => rfl
          | true => have := good_gt b5 hh; omega
        rw [f1, f2]
      · have := h n
        simp only [hasB, List.any_cons] at this ⊢
        have hd : decide (n ≤ y) = false := by simp; omega
        simpa [hd] using this

/-- INTERSECTION -/
theorem bothF_good {a b : List (Int × Int)} : ∀ {La Lb : Int}, goodFrom La a = true → goodFrom Lb b = true → goodFrom (max La Lb) (bothF a b) = true ∧ ∀ n, hasB (bothF a b) n = (hasB a n && hasB b n) := by
  induction a, b using bothF.induct with
  | case1 x xs y ys ih1 ih2 =>
    intro La Lb ha hb
    obtain ⟨x, y'⟩ := x
    obtain ⟨p, q⟩ := y
    rw [bothF]
    obtain ⟨a1, a2, a3, a4, a5⟩ := goodFrom_cons.1 ha
    obtain ⟨b1, b2, b3, b4, b5⟩ := goodFrom_cons.1 hb
    simp only
    by_cases h : y' < q
    · rw [if_pos h]
      obtain ⟨g, m⟩ := ih1 a5 hb
      refine ⟨?_, fun n => ?_⟩
      · by_cases hp : p ≤ y'
        · rw [show addL (max x p) (min y' q) = [(max x p, min y' q)] from by unfold addL; rw [if_neg (by omega)]]
          exact goodFrom_cons.2 ⟨by omega, by omega, by omega, by omega, good_le g (by omega)⟩
        · rw [show addL (max x p) (min y' q) = [] from by unfold addL; rw [if_pos (by omega)]]
          exact good_le g (by omega)
      · rw [Bool.eq_iff_iff, hasB_append, hasB_addL, m, Bool.and_eq_true, Bool.and_eq_true, hasB_cons, hasB_cons]
        constructor
        · rintro (h' | ⟨h1, h2⟩)
          · exact ⟨.inl (by omega), .inl (by omega)⟩
          · exact ⟨.inr h1, h2⟩
        · rintro ⟨h1 | h1, h2⟩
          · rcases h2 with h2 | h2
            · exact .inl (by omega)
            · have := good_gt b5 h2; omega
          · exact .inr ⟨h1, h2⟩
    · rw [if_neg h]
      obtain ⟨g, m⟩ := ih2 ha b5
      refine ⟨?_, fun n => ?_⟩
      · by_cases hp : x ≤ q
        · rw [show addL (max x p) (min y' q) = [(max x p, min y' q)] from by unfold addL; rw [if_neg (by omega)]]
          exact goodFrom_cons.2 ⟨by omega, by omega, by omega, by omega, good_le g (by omega)⟩
        · rw [show addL (max x p) (min y' q) = [] from by unfold addL; rw [if_pos (by omega)]]
          exact good_le g (by omega)
      · rw [Bool.eq_iff_iff, hasB_append, hasB_addL, m, Bool.and_eq_true, Bool.and_eq_true, hasB_cons, hasB_cons]
        constructor
        · rintro (h' | ⟨h1, h2⟩)
          · exact ⟨.inl (by omega), .inl (by omega)⟩
          · exact ⟨h1, .inr h2⟩
        · rintro ⟨h1, h2 | h2⟩
          · rcases h1 with h1 | h1
            · exact .inl (by omega)
            · have := good_gt a5 h1; omega
          · exact .inr ⟨h1, h2⟩
  | case2 a b hn =>
    intro La Lb ha hb
    rw [bothF]
    · refine ⟨rfl, fun n => ?_⟩
      cases a with
      | nil => simp [hasB]
      | cons r a =>
        cases b with
        | nil => simp [hasB]
        | cons s b => exact absurd rfl (hn r a s b rfl)
    · exact hn

/-- DIFFERENCE -/
theorem lessF_good {a b : List (Int × Int)} : ∀ {La Lb : Int}, goodFrom La a = true → goodFrom Lb b = true → goodFrom La (lessF a b) = true ∧ ∀ n, hasB (lessF a b) n = (hasB a n && !hasB b n) := by
  induction a, b using lessF.induct with
  | case1 b =>
    intro La Lb ha hb
    rw [lessF]; exact ⟨rfl, fun n => by simp [hasB]⟩
  | case2 x y rs ih =>
    intro La Lb ha hb
    obtain ⟨a1, a2, a3, a4, a5⟩ := goodFrom_cons.1 ha
    obtain ⟨g, m⟩ := ih a5 hb
    rw [lessF, show addL x y = [(x, y)] from by unfold addL; rw [if_neg (by omega)]]
    refine ⟨goodFrom_cons.2 ⟨a1, a2, a3, a4, g⟩, fun n => ?_⟩
    rw [Bool.eq_iff_iff]
    show hasB ((x, y) :: lessF rs []) n = true ↔ _
    rw [hasB_cons, m, hasB_nil]
    simp [hasB_cons]
  | case3 x y rs p q bs h ih =>
    intro La Lb ha hb
    obtain ⟨a1, a2, a3, a4, a5⟩ := goodFrom_cons.1 ha
    obtain ⟨b1, b2, b3, b4, b5⟩ := goodFrom_cons.1 hb
    rw [lessF, if_pos h]
    refine ⟨?_, fun n => ?_⟩
    · by_cases hp : x ≤ p - 1
      · obtain ⟨g, m⟩ := ih (La := p - 1) (goodFrom_cons.2 ⟨by omega, a2, by omega, by omega, a5⟩) b5
        rw [show addL x (p - 1) = [(x, p - 1)] from by unfold addL; rw [if_neg (by omega)]]
        exact goodFrom_cons.2 ⟨a1, by omega, hp, a4, g⟩
      · obtain ⟨g, m⟩ := ih (La := La) (goodFrom_cons.2 ⟨by omega, a2, by omega, by omega, a5⟩) b5
        rw [show addL x (p - 1) = [] from by unfold addL; rw [if_pos (by omega)]]
        exact g
    · obtain ⟨g, m⟩ := ih (La := La) (goodFrom_cons.2 ⟨by omega, a2, by omega, by omega, a5⟩) b5
      have hb' : ∀ n, hasB bs n = true → q + 1 < n := fun n hn => good_gt b5 hn
      have ha' : ∀ n, hasB rs n = true → y + 1 < n := fun n hn => good_gt a5 hn
      have nb : ∀ n, hasB ((p, q) :: bs) n = true ↔ (p ≤ n ∧ n ≤ q) ∨ hasB bs n = true := fun n => hasB_cons
      rw [Bool.eq_iff_iff, hasB_append, hasB_addL, m, Bool.and_eq_true, Bool.and_eq_true, hasB_cons, hasB_cons, Bool.not_eq_true', Bool.not_eq_true', ← Bool.not_eq_true, ← Bool.not_eq_true, nb]
      have h1 := hb' n
      have h2 := ha' n
      constructor
      · rintro (h' | ⟨h' | h', h''⟩)
        · exact ⟨.inl (by omega), fun hh => by rcases hh with hh | hh; omega; have := h1 hh; omega⟩
        · exact ⟨.inl (by omega), fun hh => by rcases hh with hh | hh; omega; exact h'' hh⟩
        · exact ⟨.inr h', fun hh => by rcases hh with hh | hh; (have := h2 h'; omega); exact h'' hh⟩
      · rintro ⟨h' | h', h''⟩
        · by_cases hp : n ≤ p - 1
          · exact .inl ⟨h'.1, hp⟩
          · by_cases hq : n ≤ q
            · exact absurd (.inl ⟨by omega, hq⟩) h''
            · exact .inr ⟨.inl (by omega), fun hh => h'' (.inr hh)⟩
        · exact .inr ⟨.inr h', fun hh => h'' (.inr hh)⟩
  | case4 x y rs p q bs h ih =>
    intro La Lb ha hb
    obtain ⟨a1, a2, a3, a4, a5⟩ := goodFrom_cons.1 ha
    obtain ⟨b1, b2, b3, b4, b5⟩ := goodFrom_cons.1 hb
    rw [lessF, if_neg h]
    obtain ⟨g, m⟩ := ih a5 hb
    refine ⟨?_, fun n => ?_⟩
    · by_cases hp : x ≤ min y (p - 1)
      · rw [show addL x (min y (p - 1)) = [(x, min y (p - 1))] from by unfold addL; rw [if_neg (by omega)]]
        exact goodFrom_cons.2 ⟨a1, by omega, hp, a4, good_le g (by omega)⟩
      · rw [show addL x (min y (p - 1)) = [] from by unfold addL; rw [if_pos (by omega)]]
        exact good_le g (by omega)
    · have h1 : hasB bs n = true → q + 1 < n := fun hn => good_gt b5 hn
      have nb : hasB ((p, q) :: bs) n = true ↔ (p ≤ n ∧ n ≤ q) ∨ hasB bs n = true := hasB_cons
      rw [Bool.eq_iff_iff, hasB_append, hasB_addL, m, Bool.and_eq_true, Bool.and_eq_true, hasB_cons, Bool.not_eq_true', ← Bool.not_eq_true, nb]
      constructor
      · rintro (h' | ⟨h', h''⟩)
        · exact ⟨.inl (by omega), fun hh => by rcases hh with hh | hh; omega; have := h1 hh; omega⟩
        · exact ⟨.inr h', h''⟩
      · rintro ⟨h' | h', h''⟩
        · by_cases hp : n ≤ p - 1
          · exact .inl ⟨h'.1, by omega⟩
          · exact absurd (.inl ⟨by omega, by omega⟩) h''
        · exact .inr ⟨h', h''⟩

end Go.Proofs.YtadbdpgcdpjgmaaDoor
