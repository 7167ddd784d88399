/- Plain mathematics: merging sorted ranges gives the set of their numbers; how many numbers a set has. No condition; no program is named. -/
import Derived.Test.YtadbdpgcdpjgmaaDoorSetsMath
namespace Go.Proofs.YtadbdpgcdpjgmaaDoor

def lastOf (L : Int) : List (Int × Int) → Int
  | [] => L
  | r :: l => lastOf r.2 l
theorem lastOf_snoc (L p q : Int) (l : List (Int × Int)) : lastOf L (l ++ [(p, q)]) = q := by
  induction l generalizing L with
  | nil => rfl
  | cons a l ih => exact ih _
theorem good_snoc {L p q : Int} {l : List (Int × Int)} : goodFrom L (l ++ [(p, q)]) = true ↔ goodFrom L l = true ∧ -1000000 ≤ p ∧ q ≤ 1000000 ∧ p ≤ q ∧ lastOf L l + 1 < p := by
  induction l generalizing L with
  | nil => rw [List.nil_append, goodFrom_cons]; simp [goodFrom, lastOf]
  | cons a l ih =>
    obtain ⟨x, y⟩ := a
    rw [List.cons_append, goodFrom_cons, goodFrom_cons, ih]
    simp only [lastOf]
    constructor <;> (rintro ⟨h1, h2⟩; simp_all)
theorem mergeStep_nil (r : Int × Int) : mergeStep [] r = [r] := rfl
theorem mergeStep_snoc (l : List (Int × Int)) (p q x y : Int) : mergeStep (l ++ [(p, q)]) (x, y) = if x ≤ q + 1 then l ++ [(p, max q y)] else l ++ [(p, q)] ++ [(x, y)] := by
  unfold mergeStep
  have e : (l ++ [(p, q)])[(l ++ [(p, q)]).length - 1]? = some (p, q) := by simp
  rw [e]
  simp only
  split
  · simp
  · rfl

/-- what is asked of the ranges that are merged -/
def clean (l : List (Int × Int)) : Prop := ∀ r, r ∈ l → -1000000 ≤ r.1 ∧ r.1 ≤ r.2 ∧ r.2 ≤ 1000000

theorem merge_fold {l : List (Int × Int)} : ∀ (out : List (Int × Int)), clean l → l.Pairwise (fun x y => x.1 ≤ y.1) → goodB out = true → (∀ i p q, out = i ++ [(p, q)] → ∀ r, r ∈ l → p ≤ r.1) →
    goodB (l.foldl mergeStep out) = true ∧ ∀ n, hasB (l.foldl mergeStep out) n = (hasB out n || hasB l n) := by
  induction l with
  | nil => intro out _ _ h _; exact ⟨h, fun n => by simp [hasB]⟩
  | cons r l ih =>
    intro out hc hs hg hle
    obtain ⟨x, y⟩ := r
    obtain ⟨c1, c2, c3⟩ := hc (x, y) List.mem_cons_self
    simp only at c1 c2 c3
    have hc' : clean l := fun r hr => hc r (List.mem_cons_of_mem _ hr)
    obtain ⟨s1, s2⟩ := List.pairwise_cons.1 hs
    have hn : ∀ n, hasB ((x, y) :: l) n = ((decide (x ≤ n) && decide (n ≤ y)) || hasB l n) := fun n => by simp [hasB]
    rcases List.eq_nil_or_concat out with rfl | ⟨i, ⟨p, q⟩, rfl⟩
    · have hg' : goodB [(x, y)] = true := goodFrom_cons.2 ⟨c1, c3, c2, by omega, rfl⟩
      obtain ⟨g, m⟩ := ih [(x, y)] hc' s2 hg' (fun i p q e r hr => by
        have : i = [] ∧ (p, q) = (x, y) := by
          cases i with
          | nil => simp at e; exact ⟨rfl, by simp [e]⟩
          | cons a i => simp at e
        obtain ⟨_, e2⟩ := this
        injection e2 with e2 e3; subst e2; exact s1 r hr)
      rw [List.foldl_cons, mergeStep_nil]
      exact ⟨g, fun n => by rw [m, hn]; simp [hasB]⟩
    · rw [List.concat_eq_append] at *
      rw [List.foldl_cons, mergeStep_snoc]
      obtain ⟨g0, g1, g2, g3, g4⟩ := good_snoc.1 hg
      have hpx : p ≤ x := hle i p q rfl (x, y) List.mem_cons_self
      by_cases hx : x ≤ q + 1
      · rw [if_pos hx]
        obtain ⟨g, m⟩ := ih (i ++ [(p, max q y)]) hc' s2 (good_snoc.2 ⟨g0, g1, by omega, by omega, g4⟩) (fun i' p' q' e r hr => by
          have e2 := (List.append_inj' e rfl).2
          simp at e2
          have := s1 r hr
          have : p' ≤ x := by omega
          omega)
        refine ⟨g, fun n => ?_⟩
        rw [m, hn, Bool.eq_iff_iff]
        simp only [Bool.or_eq_true, hasB_append, Bool.and_eq_true, decide_eq_true_eq]
        have e1 : hasB [(p, max q y)] n = true ↔ p ≤ n ∧ n ≤ max q y := by simp [hasB]
        have e2 : hasB [(p, q)] n = true ↔ p ≤ n ∧ n ≤ q := by simp [hasB]
        rw [e1, e2]
        constructor
        · rintro ((h | h) | h)
          · exact .inl (.inl h)
          · by_cases hq : n ≤ q
            · exact .inl (.inr ⟨h.1, hq⟩)
            · exact .inr (.inl (by omega))
          · exact .inr (.inr h)
        · rintro ((h | h) | (h | h))
          · exact .inl (.inl h)
          · exact .inl (.inr (by omega))
          · exact .inl (.inr (by omega))
          · exact .inr h
      · rw [if_neg hx]
        obtain ⟨g, m⟩ := ih (i ++ [(p, q)] ++ [(x, y)]) hc' s2 (good_snoc.2 ⟨hg, c1, c3, c2, by rw [lastOf_snoc]; omega⟩) (fun i' p' q' e r hr => by
          have e2 := (List.append_inj' e rfl).2
          simp at e2
          have := s1 r hr
          have : p' = x := e2.1.symm
          omega)
        refine ⟨g, fun n => ?_⟩
        rw [m, hn, Bool.eq_iff_iff]
        simp only [Bool.or_eq_true, hasB_append, Bool.and_eq_true, decide_eq_true_eq]
        have e1 : hasB [(x, y)] n = true ↔ x ≤ n ∧ n ≤ y := by simp [hasB]
        rw [e1]
        constructor
        · rintro (((h | h) | h) | h)
          · exact .inl (.inl h)
          · exact .inl (.inr h)
          · exact .inr (.inl h)
          · exact .inr (.inr h)
        · rintro ((h | h) | (h | h))
          · exact .inl (.inl (.inl h))
          · exact .inl (.inl (.inr h))
          · exact .inl (.inr h)
          · exact .inr h

theorem mergeL_good {l : List (Int × Int)} (hc : clean l) (hs : l.Pairwise (fun x y => x.1 ≤ y.1)) : goodB (mergeL l) = true ∧ ∀ n, hasB (mergeL l) n = hasB l n := by
  obtain ⟨g, m⟩ := merge_fold [] hc hs rfl (fun i p q e => by simp at e)
  exact ⟨g, fun n => by rw [mergeL, m]; simp [hasB]⟩

theorem clipL_clean (l : List (Int × Int)) : clean (clipL l) := by
  intro r hr
  simp only [clipL, List.mem_flatMap] at hr
  obtain ⟨a, _, h⟩ := hr
  unfold addL at h
  split at h
  · simp at h
  · simp at h; subst h; simp; omega
theorem clipL_has (l : List (Int × Int)) (n : Int) : hasB (clipL l) n = (decide (-1000000 ≤ n) && decide (n ≤ 1000000) && hasB l n) := by
  induction l with
  | nil => simp [clipL, hasB]
  | cons a l ih =>
    obtain ⟨x, y⟩ := a
    have e : clipL ((x, y) :: l) = addL (max x (-1000000)) (min y 1000000) ++ clipL l := by simp [clipL]
    rw [e, Bool.eq_iff_iff, hasB_append, hasB_addL, ih]
    simp only [Bool.and_eq_true, decide_eq_true_eq, hasB_cons]
    constructor
    · rintro (h | h)
      · exact ⟨by omega, .inl (by omega)⟩
      · exact ⟨h.1, .inr h.2⟩
    · rintro ⟨h, h' | h'⟩
      · exact .inl (by omega)
      · exact .inr ⟨h, h'⟩
theorem hasB_perm {l m : List (Int × Int)} (h : l.Perm m) (n : Int) : hasB l n = hasB m n := by
  rw [Bool.eq_iff_iff, hasB_iff, hasB_iff]
  exact ⟨fun ⟨r, h1, h2⟩ => ⟨r, h.mem_iff.1 h1, h2⟩, fun ⟨r, h1, h2⟩ => ⟨r, h.mem_iff.2 h1, h2⟩⟩

/-- THE SET OF ALL NUMBERS WITHIN BOUNDS THAT ARE IN A RANGE OF l -/
def normL (l : List (Int × Int)) : List (Int × Int) := mergeL ((clipL l).mergeSort fun x y => decide (x.1 ≤ y.1))
theorem norm_any {l l' : List (Int × Int)} (hp : l'.Perm (clipL l)) (hs : l'.Pairwise (fun x y => x.1 ≤ y.1)) : goodB (mergeL l') = true ∧ ∀ n, hasB (mergeL l') n = (decide (-1000000 ≤ n) && decide (n ≤ 1000000) && hasB l n) := by
  obtain ⟨g, m⟩ := mergeL_good (l := l') (fun r hr => clipL_clean l r (hp.mem_iff.1 hr)) hs
  exact ⟨g, fun n => by rw [m, hasB_perm hp, clipL_has]⟩
theorem normL_good (l : List (Int × Int)) : goodB (normL l) = true ∧ ∀ n, hasB (normL l) n = (decide (-1000000 ≤ n) && decide (n ≤ 1000000) && hasB l n) := by
  refine norm_any (List.mergeSort_perm _ _) ?_
  have := List.pairwise_mergeSort (le := fun (x y : Int × Int) => decide (x.1 ≤ y.1)) (fun a b c h1 h2 => by simp at *; omega) (fun a b => by simp; omega) (clipL l)
  exact this.imp (by intro a b h; simpa using h)
theorem normL_eq {l l' : List (Int × Int)} (hp : l'.Perm (clipL l)) (hs : l'.Pairwise (fun x y => x.1 ≤ y.1)) : mergeL l' = normL l :=
  good_unique (norm_any hp hs).1 (normL_good l).1 (fun n => by rw [(norm_any hp hs).2, (normL_good l).2])
theorem normL_of_good {l : List (Int × Int)} (h : goodB l = true) : normL l = l :=
  good_unique (normL_good l).1 h (fun n => by
    rw [(normL_good l).2]
    cases hh : hasB l n with
    | false => simp
    | true => have := good_in h hh; simp [this.1, this.2])
theorem clean_hiIn {l : List (Int × Int)} (h : clean l) : hiIn l := fun r hr => by have := h r hr; omega

/-- how many numbers from -1000000 on, N of them, are such -/
def cnt (N : Nat) (f : Int → Bool) : Nat := (List.range N).countP fun i : Nat => f ((i : Int) - 1000000)
theorem cnt_le (N : Nat) (f : Int → Bool) : cnt N f ≤ N := by
  have := List.countP_le_length (p := fun i : Nat => f ((i : Int) - 1000000)) (l := List.range N)
  rw [List.length_range] at this
  exact this
theorem countP_or {α : Type} (f g : α → Bool) (l : List α) (h : ∀ x, f x = true → g x = true → False) : l.countP (fun x => f x || g x) = l.countP f + l.countP g := by
  induction l with
  | nil => rfl
  | cons a l ih =>
    rw [List.countP_cons, List.countP_cons, List.countP_cons, ih]
    have := h a
    cases hf : f a <;> cases hg : g a <;> simp_all <;> omega
theorem cnt_or (N : Nat) (f g : Int → Bool) (h : ∀ x, f x = true → g x = true → False) : cnt N (fun x => f x || g x) = cnt N f + cnt N g := countP_or _ _ _ (fun _ => h _)
theorem countP_range (N a b : Nat) (h : a ≤ b) (hb : b ≤ N) : (List.range N).countP (fun i => decide (a ≤ i) && decide (i < b)) = b - a := by
  induction N generalizing b with
  | zero => simp; omega
  | succ N ih =>
    rw [List.range_succ, List.countP_append, List.countP_cons, List.countP_nil]
    by_cases hbN : b ≤ N
    · rw [ih b h hbN, if_neg (by simp; omega)]; omega
    · have : b = N + 1 := by omega
      subst this
      by_cases haN : a ≤ N
      · have e : (List.range N).countP (fun i => decide (a ≤ i) && decide (i < N + 1)) = (List.range N).countP (fun i => decide (a ≤ i) && decide (i < N)) := by
          apply List.countP_congr
          intro x hx
          have := List.mem_range.1 hx
          simp; omega
        rw [e, ih N haN (Nat.le_refl _), if_pos (by simp [haN])]; omega
      · have e : (List.range N).countP (fun i => decide (a ≤ i) && decide (i < N + 1)) = 0 := by
          rw [List.countP_eq_zero]
          intro x hx
          have := List.mem_range.1 hx
          simp; omega
        rw [e, if_neg (by simp; omega)]; omega
theorem cnt_range (N : Nat) (hN : N = 2000001) (x y : Int) (h1 : -1000000 ≤ x) (h2 : x ≤ y) (h3 : y ≤ 1000000) : (cnt N (fun n => decide (x ≤ n) && decide (n ≤ y)) : Int) = y - x + 1 := by
  have := countP_range N (x + 1000000).toNat (y + 1000001).toNat (by omega) (by omega)
  unfold cnt
  have e : (List.range N).countP (fun i : Nat => decide (x ≤ (i : Int) - 1000000) && decide ((i : Int) - 1000000 ≤ y)) = (List.range N).countP (fun i => decide ((x + 1000000).toNat ≤ i) && decide (i < (y + 1000001).toNat)) := by
    apply List.countP_congr
    intro i _
    simp; omega
  rw [e, this]; omega

/-- how many numbers the ranges have, one by one -/
def sumL (l : List (Int × Int)) : Int := (l.map fun r => r.2 - r.1 + 1).sum
theorem sumL_cons (x y : Int) (l : List (Int × Int)) : sumL ((x, y) :: l) = (y - x + 1) + sumL l := by simp [sumL]
theorem sumL_cnt (N : Nat) (hN : N = 2000001) {L : Int} {l : List (Int × Int)} (h : goodFrom L l = true) : sumL l = cnt N (hasB l) := by
  induction l generalizing L with
  | nil =>
    have : cnt N (hasB []) = 0 := by unfold cnt; rw [List.countP_eq_zero]; intro x _; simp [hasB]
    rw [this]; rfl
  | cons a l ih =>
    obtain ⟨x, y⟩ := a
    obtain ⟨h1, h2, h3, h4, h5⟩ := goodFrom_cons.1 h
    have e2 : hasB ((x, y) :: l) = fun n => (decide (x ≤ n) && decide (n ≤ y)) || hasB l n := by funext n; simp [hasB]
    rw [sumL_cons, e2, cnt_or N _ _ (fun n g1 g2 => by simp at g1; have := good_gt h5 g2; omega), ih h5]
    have := cnt_range N hN x y h1 h3 h2
    omega
theorem good_take {L : Int} {l : List (Int × Int)} (h : goodFrom L l = true) (k : Nat) : goodFrom L (l.take k) = true := by
  induction l generalizing L k with
  | nil => simp [goodFrom]
  | cons a l ih =>
    obtain ⟨x, y⟩ := a
    obtain ⟨h1, h2, h3, h4, h5⟩ := goodFrom_cons.1 h
    cases k with
    | zero => rfl
    | succ k => exact goodFrom_cons.2 ⟨h1, h2, h3, h4, ih h5 k⟩
theorem sumL_bounds {l : List (Int × Int)} (h : goodB l = true) (k : Nat) : 0 ≤ sumL (l.take k) ∧ sumL (l.take k) ≤ 2000001 := by
  obtain ⟨N, hN⟩ : ∃ N, N = 2000001 := ⟨_, rfl⟩
  have := sumL_cnt N hN (good_take (k := k) h)
  have := cnt_le N (hasB (l.take k))
  omega
theorem sumL_at {l : List (Int × Int)} {k : Nat} {x y : Int} (h : l[k]? = some (x, y)) : sumL (l.take (k + 1)) = sumL (l.take k) + (y - x + 1) := by
  rw [take_at h]; simp [sumL]
theorem sum_split {a b : List (Int × Int)} (ha : goodB a = true) (hb : goodB b = true) : sumL (bothF a b) + sumL (lessF a b) = sumL a := by
  obtain ⟨N, hN⟩ : ∃ N, N = 2000001 := ⟨_, rfl⟩
  obtain ⟨g1, m1⟩ := bothF_good ha hb
  obtain ⟨g2, m2⟩ := lessF_good ha hb
  have e : hasB a = fun n => hasB (bothF a b) n || hasB (lessF a b) n := by
    funext n; rw [m1, m2]; cases hasB a n <;> cases hasB b n <;> rfl
  have := cnt_or N (hasB (bothF a b)) (hasB (lessF a b)) (fun n h1 h2 => by rw [m1, Bool.and_eq_true] at h1; rw [m2, h1.2] at h2; simp at h2)
  rw [sumL_cnt N hN g1, sumL_cnt N hN g2, sumL_cnt N hN ha, e]; omega
theorem good_length {L : Int} {l : List (Int × Int)} (h : goodFrom L l = true) : (l.length : Int) ≤ sumL l := by
  induction l generalizing L with
  | nil => simp [sumL]
  | cons a l ih =>
    obtain ⟨x, y⟩ := a
    obtain ⟨h1, h2, h3, h4, h5⟩ := goodFrom_cons.1 h
    have := ih h5
    rw [sumL_cons, List.length_cons]; omega
theorem good_length_le {l : List (Int × Int)} (h : goodB l = true) : l.length ≤ 2000001 := by
  have h1 := good_length h
  have h2 := sumL_bounds h l.length
  rw [List.take_length] at h2
  omega

end Go.Proofs.YtadbdpgcdpjgmaaDoor
