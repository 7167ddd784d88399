/- What tables say, their gaps, clashes and spans, held against one another. No condition; no program is named. -/
import Derived.Test.YthnfkghgaagaiabTabsGap
namespace Go.Proofs.Ythnfkghgaagaiab

theorem saysO_code {p : Int} {o : List Int} : (saysO p o).2.2 = if conflictB p o then 4 else 0 := by
  unfold saysO
  by_cases h : o.length = 0 ∧ p ≠ 7
  · rw [if_pos h, List.length_eq_zero_iff.1 h.1]; rfl
  · rw [if_neg h]
    cases conflictB p o <;> rfl
theorem saysO_none {p : Int} {o : List Int} (hp : p ≠ 7) (h : o.length = 0) : saysO p o = (0, false, 0) := by
  unfold saysO; rw [if_pos ⟨h, hp⟩]
theorem saysO_some {p : Int} {o : List Int} (h : p = 7 ∨ o.length ≠ 0) (hc : (saysO p o).2.2 = 0) : saysO p o = (combineV p o, true, 0) := by
  rw [saysO_code] at hc
  have hc' : conflictB p o = false := by
    cases h' : conflictB p o
    · rfl
    · rw [h'] at hc; simp at hc
  unfold saysO
  rw [if_neg (by rintro ⟨h1, h2⟩; rcases h with h | h; exact h2 h; exact h h1), hc']; rfl

theorem sum_outs (l : List RuleD) (i : List Int) : (l.map fun r => min r.2 0).sum ≤ (outsL l i).sum ∧ (outsL l i).sum ≤ (l.map fun r => max r.2 0).sum := by
  induction l with
  | nil => simp [outsL]
  | cons r l ih =>
    unfold outsL at ih ⊢
    cases hm : matchC r.1 i
    · simp only [List.map_cons, List.sum_cons, List.filter_cons, hm]
      simp only [Bool.false_eq_true, if_false]
      omega
    · simp only [List.map_cons, List.sum_cons, List.filter_cons, hm]
      simp only [if_true, List.map_cons, List.sum_cons]
      omega
theorem outs_sub {l : List RuleD} {i : List Int} {x : Int} (h : x ∈ outsL l i) : x ∈ l.map (·.2) := by
  obtain ⟨r, hr, _, rfl⟩ := outsL_mem h
  exact List.mem_map.2 ⟨r, hr, rfl⟩

theorem whole_facts {t : TabD} {a : BoxD} {l : List Int} (hg : goodT t = true) (hb : goodBox a t.ins.length = true) (hl : hasBox a l = true) :
    (¬ ((gapV t a).2 = false ∧ (saysV t l).2.2 = 0 ∧ (saysV t l).2.1 = false)) ∧ ((gapV t a).2 = true → saysV t (gapV t a).1 = (0, false, 0) ∧ hasBox a (gapV t a).1 = true) ∧
    ((saysV t l).2.1 = true → (spanV t).1 ≤ (saysV t l).1 ∧ (saysV t l).1 ≤ (spanV t).2) := by
  have hf : fitsB t a = true := by simp [fitsB, hg, hb]
  have hal : a.length = t.ins.length := (fits_rules hf).2.1
  have hll : l.length = t.ins.length := by rw [← hal]; exact hasBox_length hl
  have hs : saysV t l = saysO t.pol (outsL t.rules l) := by unfold saysV; rw [if_pos ⟨hg, hll⟩]
  refine ⟨?_, ?_, ?_⟩
  · rintro ⟨h1, h2, h3⟩
    rw [hs] at h2 h3
    by_cases hp : t.pol = 7
    · rw [saysO_some (.inl hp) h2] at h3; cases h3
    · have := ((gap_least hf hp).2 h1).2 l hl
      have h0 : (outsL t.rules l).length ≠ 0 := by simpa using this
      rw [saysO_some (.inr h0) h2] at h3; cases h3
  · intro h1
    by_cases hp : t.pol = 7
    · unfold gapV at h1; rw [if_neg (fun h => h.1 hp)] at h1; cases h1
    · obtain ⟨h2, h3, _⟩ := (gap_least hf hp).1 h1
      have h0 : (outsL t.rules (gapV t a).1).length = 0 := by simpa using h3
      refine ⟨?_, h2⟩
      unfold saysV
      rw [if_pos ⟨hg, by rw [← hal]; exact hasBox_length h2⟩]
      exact saysO_none hp h0
  · intro h1
    rw [hs] at h1 ⊢
    have hrl : 0 < t.rules.length := (goodRs_iff.1 (goodT_iff.1 hg).2.2.2.2).1
    have hm0 : 0 < (t.rules.map (·.2)).length := by rw [List.length_map]; exact hrl
    have hcode : (saysO t.pol (outsL t.rules l)).2.2 = 0 := by
      rw [saysO_code]
      unfold saysO at h1
      by_cases h : (outsL t.rules l).length = 0 ∧ t.pol ≠ 7
      · rw [if_pos h] at h1; cases h1
      · rw [if_neg h] at h1
        cases hc : conflictB t.pol (outsL t.rules l)
        · rfl
        · rw [hc] at h1; cases h1
    have hne : t.pol = 7 ∨ (outsL t.rules l).length ≠ 0 := by
      by_cases hp : t.pol = 7
      · exact .inl hp
      · right
        intro h0
        rw [saysO_none hp h0] at h1; cases h1
    rw [saysO_some hne hcode]
    show (spanV t).1 ≤ combineV t.pol (outsL t.rules l) ∧ combineV t.pol (outsL t.rules l) ≤ (spanV t).2
    unfold spanV
    rw [if_pos hg]
    have hin : ∀ x, x ∈ outsL t.rules l → minL (t.rules.map (·.2)) ≤ x ∧ x ≤ maxL (t.rules.map (·.2)) := fun x hx => ⟨(minL_spec hm0).2 x (outs_sub hx), (maxL_spec hm0).2 x (outs_sub hx)⟩
    by_cases h7 : t.pol = 7
    · rw [if_pos h7]
      unfold combineV
      rw [h7]
      have := outsL_length t.rules l
      simp only [show (7 : Int) ≠ 4 from by decide, show (7 : Int) ≠ 5 from by decide, show (7 : Int) ≠ 6 from by decide, if_false, if_true]
      omega
    · rw [if_neg h7]
      have h0 : 0 < (outsL t.rules l).length := by
        rcases hne with h | h
        · exact absurd h h7
        · omega
      by_cases h6 : t.pol = 6
      · rw [if_pos h6]
        unfold combineV
        rw [h6]
        simp only [show (6 : Int) ≠ 4 from by decide, show (6 : Int) ≠ 5 from by decide, if_false, if_true]
        exact sum_outs t.rules l
      · rw [if_neg h6]
        unfold combineV
        by_cases h4 : t.pol = 4
        · rw [if_pos h4]; exact hin _ (minL_spec h0).1
        · rw [if_neg h4]
          by_cases h5 : t.pol = 5
          · rw [if_pos h5]; exact hin _ (maxL_spec h0).1
          · rw [if_neg h5, if_neg h6, if_neg h7]
            refine hin _ ?_
            cases ho : outsL t.rules l with
            | nil => rw [ho] at h0; simp at h0
            | cons x o => simp

theorem one_facts {t : TabD} {a : BoxD} {l : List Int} (hg : goodT t = true) (hb : goodBox a t.ins.length = true) (hl : hasBox a l = true) :
    ((clashV t a).2 = true → (saysV t (clashV t a).1).2.2 = 4 ∧ hasBox a (clashV t a).1 = true) ∧ ((clashV t a).2 = false → (saysV t l).2.2 = 0) := by
  have hf : fitsB t a = true := by simp [fitsB, hg, hb]
  have hal : a.length = t.ins.length := (fits_rules hf).2.1
  have hll : l.length = t.ins.length := by rw [← hal]; exact hasBox_length hl
  refine ⟨fun h1 => ?_, fun h1 => ?_⟩
  · obtain ⟨h2, h3, _⟩ := (clash_least hf).1 h1
    refine ⟨?_, h2⟩
    unfold saysV
    rw [if_pos ⟨hg, by rw [← hal]; exact hasBox_length h2⟩, saysO_code, show conflictB t.pol (outsL t.rules (clashV t a).1) = true from h3]; rfl
  · have := ((clash_least hf).2 h1).2 l hl
    unfold saysV
    rw [if_pos ⟨hg, hll⟩, saysO_code, show conflictB t.pol (outsL t.rules l) = false from this]; rfl

def lessK : List Int → List Int → Bool
  | [], _ => false
  | _ :: _, [] => false
  | a :: l, b :: m => if a = b then lessK l m else decide (a < b)
theorem lessK_eq {a : List Int} : ∀ {b : List Int}, a.length = b.length → lessK a b = lexLt a b := by
  induction a with
  | nil => intro b h; cases b with
    | nil => rfl
    | cons y b => simp at h
  | cons x a ih =>
    intro b h
    cases b with
    | nil => simp at h
    | cons y b =>
      have := ih (b := b) (by simpa using h)
      unfold lexLt at this ⊢
      simp only [lessK, cmpL]
      by_cases hxy : x = y
      · subst hxy; simp [this]
      · rw [if_neg hxy]
        by_cases h1 : x < y
        · simp [h1]
        · have h2 : y < x := by omega
          simp [h1, h2]
theorem least_facts {t : TabD} {a : BoxD} {l : List Int} (hg : goodT t = true) (hb : goodBox a t.ins.length = true) (hl : hasBox a l = true) :
    ((saysV t l).2.1 = true ∨ (saysV t l).2.2 ≠ 0 ∨ ((gapV t a).2 = true ∧ lessK l (gapV t a).1 = false)) ∧ ((saysV t l).2.2 ≠ 4 ∨ ((clashV t a).2 = true ∧ lessK l (clashV t a).1 = false)) := by
  have hf : fitsB t a = true := by simp [fitsB, hg, hb]
  have hal : a.length = t.ins.length := (fits_rules hf).2.1
  have hll : l.length = t.ins.length := by rw [← hal]; exact hasBox_length hl
  have hs : saysV t l = saysO t.pol (outsL t.rules l) := by unfold saysV; rw [if_pos ⟨hg, hll⟩]
  rw [hs]
  refine ⟨?_, ?_⟩
  · by_cases hc : (saysO t.pol (outsL t.rules l)).2.2 = 0
    · by_cases hp : t.pol = 7
      · left; rw [saysO_some (.inl hp) hc]
      · by_cases h0 : (outsL t.rules l).length = 0
        · right; right
          have hG := gap_least hf hp
          have h2 : (gapV t a).2 = true := by
            cases h : (gapV t a).2
            · have := (hG.2 h).2 l hl
              simp [h0] at this
            · rfl
          refine ⟨h2, ?_⟩
          obtain ⟨h3, _, h5⟩ := hG.1 h2
          rw [lessK_eq (by rw [hasBox_length hl, hasBox_length h3])]
          exact h5 l hl (by simpa using h0)
        · left; rw [saysO_some (.inr h0) hc]
    · exact .inr (.inl hc)
  · rw [saysO_code]
    cases hc : conflictB t.pol (outsL t.rules l)
    · left; simp
    · right
      have hG := clash_least hf
      have h2 : (clashV t a).2 = true := by
        cases h : (clashV t a).2
        · have : conflictB t.pol (outsL t.rules l) = false := (hG.2 h).2 l hl
          rw [hc] at this; cases this
        · rfl
      refine ⟨h2, ?_⟩
      obtain ⟨h3, _, h5⟩ := hG.1 h2
      rw [lessK_eq (by rw [hasBox_length hl, hasBox_length h3])]
      exact h5 l hl hc

end Go.Proofs.Ythnfkghgaagaiab
