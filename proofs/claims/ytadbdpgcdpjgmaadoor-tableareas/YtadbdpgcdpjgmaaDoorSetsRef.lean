/- Plain mathematics: what is made of edges is the set of the numbers of which it holds; so the reference's sets are the program's. No condition; no program is named. -/
import Derived.Test.YtadbdpgcdpjgmaaDoorSetsMade
namespace Go.Proofs.YtadbdpgcdpjgmaaDoor

theorem madeStep_snoc (l : List (Int × Int)) (p q n e : Int) : madeStep (l ++ [(p, q)]) n e = if q = n - 1 then l ++ [(p, e)] else l ++ [(p, q)] ++ [(n, e)] := by
  unfold madeStep
  have e1 : (l ++ [(p, q)])[(l ++ [(p, q)]).length - 1]? = some (p, q) := by simp
  rw [e1]
  simp only
  split
  · simp
  · rfl
theorem madeStep_good {out : List (Int × Int)} {n e : Int} (hg : goodB out = true) (hl : lastOf (-1000002) out < n) (hn : -1000000 ≤ n) (he : n ≤ e) (heM : e ≤ 1000000) :
    goodB (madeStep out n e) = true ∧ lastOf (-1000002) (madeStep out n e) = e ∧ ∀ x, hasB (madeStep out n e) x = (hasB out x || (decide (n ≤ x) && decide (x ≤ e))) := by
  rcases List.eq_nil_or_concat out with rfl | ⟨i, ⟨p, q⟩, rfl⟩
  · refine ⟨goodFrom_cons.2 ⟨hn, heM, he, by omega, rfl⟩, rfl, fun x => ?_⟩
    show hasB [(n, e)] x = _
    simp [hasB]
  · rw [List.concat_eq_append] at *
    rw [lastOf_snoc] at hl
    rw [madeStep_snoc]
    obtain ⟨g0, g1, g2, g3, g4⟩ := good_snoc.1 hg
    have e2 : ∀ a b x : Int, hasB [(a, b)] x = true ↔ a ≤ x ∧ x ≤ b := fun a b x => by simp [hasB]
    by_cases hq : q = n - 1
    · rw [if_pos hq]
      refine ⟨good_snoc.2 ⟨g0, g1, heM, by omega, g4⟩, lastOf_snoc _ _ _ _, fun x => ?_⟩
      rw [Bool.eq_iff_iff]
      simp only [Bool.or_eq_true, hasB_append, Bool.and_eq_true, decide_eq_true_eq, e2]
      constructor
      · rintro (h | h)
        · exact .inl (.inl h)
        · by_cases hx : x ≤ q
          · exact .inl (.inr ⟨h.1, hx⟩)
          · exact .inr (by omega)
      · rintro ((h | h) | h)
        · exact .inl h
        · exact .inr (by omega)
        · exact .inr (by omega)
    · rw [if_neg hq]
      refine ⟨good_snoc.2 ⟨hg, hn, heM, he, by rw [lastOf_snoc]; omega⟩, lastOf_snoc _ _ _ _, fun x => ?_⟩
      rw [Bool.eq_iff_iff]
      simp only [Bool.or_eq_true, hasB_append, Bool.and_eq_true, decide_eq_true_eq, e2]

theorem madeF_good {f : Int → Bool} {l : List Int} : ∀ (out : List (Int × Int)), Incr l → goodB out = true → (∀ n, l.head? = some n → lastOf (-1000002) out < n) →
    (∀ i n, l[i]? = some n → ∀ x, n ≤ x → x ≤ endOf (l.drop (i + 1)) → f x = f n) →
    goodB (madeF f out l) = true ∧ ∀ x, hasB (madeF f out l) x = (hasB out x || (match l.head? with | some n => decide (n ≤ x) && decide (x ≤ 1000000) && f x | none => false)) := by
  induction l with
  | nil => intro out _ hg _ _; exact ⟨hg, fun x => by simp [madeF]⟩
  | cons n rest ih =>
    intro out hinc hg hl hc
    obtain ⟨p1, p2⟩ := List.pairwise_cons.1 hinc.1
    obtain ⟨b1, b2⟩ := hinc.2 n List.mem_cons_self
    have hrest : Incr rest := ⟨p2, fun x hx => hinc.2 x (List.mem_cons_of_mem _ hx)⟩
    have hln := hl n rfl
    have he : n ≤ endOf rest ∧ endOf rest ≤ 1000000 := by
      cases rest with
      | nil => simp [endOf]; omega
      | cons m rest =>
        have := p1 m List.mem_cons_self
        have := hrest.2 m List.mem_cons_self
        simp [endOf]; omega
    have hhead : ∀ m, rest.head? = some m → endOf rest = m - 1 := by
      intro m hm
      cases rest with
      | nil => simp at hm
      | cons a rest => simp at hm; subst hm; rfl
    have hc0 : ∀ x, n ≤ x → x ≤ endOf rest → f x = f n := fun x h1 h2 => hc 0 n rfl x h1 (by simpa using h2)
    have hc' : ∀ i n, rest[i]? = some n → ∀ x, n ≤ x → x ≤ endOf (rest.drop (i + 1)) → f x = f n := fun i m hm x h1 h2 => hc (i + 1) m (by simpa using hm) x h1 (by simpa using h2)
    cases hfn : f n with
    | false =>
      have e : madeF f out (n :: rest) = madeF f out rest := by simp [madeF, hfn]
      obtain ⟨g, m⟩ := ih out hrest hg (fun a ha => by have := hhead a ha; omega) hc'
      rw [e]
      refine ⟨g, fun x => ?_⟩
      rw [m x]
      congr 1
      simp only [List.head?_cons]
      cases hr : rest.head? with
      | none =>
        have : endOf rest = 1000000 := by cases rest with | nil => rfl | cons a r => simp at hr
        simp only
        by_cases hx : n ≤ x ∧ x ≤ 1000000
        · rw [hc0 x hx.1 (by omega), hfn]; simp
        · symm
          rw [Bool.and_eq_false_iff]
          left
          rw [← Bool.not_eq_true]
          simp; omega
      | some a =>
        have ha := hhead a hr
        simp only
        by_cases hx : a ≤ x
        · rw [decide_eq_true hx, decide_eq_true (show n ≤ x by omega)]
        · rw [decide_eq_false hx]
          by_cases hnx : n ≤ x
          · rw [hc0 x hnx (by omega), hfn]; simp
          · rw [decide_eq_false hnx]
    | true =>
      have e : madeF f out (n :: rest) = madeF f (madeStep out n (endOf rest)) rest := by simp [madeF, hfn]
      obtain ⟨g1, g2, g3⟩ := madeStep_good hg hln b1 he.1 he.2
      obtain ⟨g, m⟩ := ih _ hrest g1 (fun a ha => by have := hhead a ha; omega) hc'
      rw [e]
      refine ⟨g, fun x => ?_⟩
      rw [m x, g3 x, Bool.or_assoc]
      congr 1
      simp only [List.head?_cons]
      cases hr : rest.head? with
      | none =>
        have : endOf rest = 1000000 := by cases rest with | nil => rfl | cons a r => simp at hr
        simp only [Bool.or_false, this]
        by_cases hx : n ≤ x ∧ x ≤ 1000000
        · rw [hc0 x hx.1 (by omega), hfn]; simp
        · rw [Bool.eq_iff_iff]; simp; omega
      | some a =>
        have ha := hhead a hr
        simp only
        by_cases hx : n ≤ x ∧ x ≤ endOf rest
        · rw [hc0 x hx.1 hx.2, hfn, decide_eq_true hx.1, decide_eq_true hx.2, decide_eq_true (show x ≤ 1000000 by omega)]; rfl
        · have : (decide (n ≤ x) && decide (x ≤ endOf rest)) = false := by rw [← Bool.not_eq_true]; simp; omega
          rw [this, Bool.false_or]
          by_cases hnx : n ≤ x
          · rw [decide_eq_true hnx, decide_eq_true (show a ≤ x by omega)]
          · rw [decide_eq_false hnx, decide_eq_false (show ¬ a ≤ x by omega)]

theorem incr_min {l : List Int} (h : Incr l) (hm : (-1000000 : Int) ∈ l) : l.head? = some (-1000000) := by
  cases l with
  | nil => simp at hm
  | cons a l =>
    obtain ⟨p1, _⟩ := List.pairwise_cons.1 h.1
    rcases List.mem_cons.1 hm with e | hm
    · simp [e]
    · have := p1 _ hm
      have := (h.2 a List.mem_cons_self).1
      omega
theorem no_between {l : List Int} (h : Incr l) {i : Nat} {n x y : Int} (hn : l[i]? = some n) (hx : x ≤ endOf (l.drop (i + 1))) (hy : y ∈ l) (h1 : n < y) (h2 : y ≤ x) : False := by
  obtain ⟨j, hj, e⟩ := List.mem_iff_getElem.1 hy
  obtain ⟨hi, e2⟩ := List.getElem?_eq_some_iff.1 hn
  have hij : i < j := by
    rcases Nat.lt_trichotomy i j with h' | h' | h'
    · exact h'
    · subst h'; omega
    · have := List.pairwise_iff_getElem.1 h.1 j i hj hi h'; omega
  have hk : i + 1 < l.length := by omega
  have : endOf (l.drop (i + 1)) = l[i + 1] - 1 := endOf_some (List.getElem?_eq_getElem hk)
  by_cases hj2 : j = i + 1
  · subst hj2; omega
  · have := List.pairwise_iff_getElem.1 h.1 (i + 1) j hk hj (by omega); omega
theorem has_const {l : List Int} {sets : List (List (Int × Int))} (h : Incr l) (hm : ∀ x, x ∈ l ↔ EdgeOf sets x) {s : List (Int × Int)} (hs : s ∈ sets) {i : Nat} {n : Int} (hn : l[i]? = some n) {x : Int} (h1 : n ≤ x) (h2 : x ≤ endOf (l.drop (i + 1))) : hasB s x = hasB s n := by
  have hb := h.2 n (List.mem_of_getElem? hn)
  have hxM : x ≤ 1000000 := by
    by_cases hk : i + 1 < l.length
    · have e : endOf (l.drop (i + 1)) = l[i + 1] - 1 := endOf_some (List.getElem?_eq_getElem hk)
      have := (h.2 l[i + 1] (List.getElem_mem hk)).2
      omega
    · have e := endOf_none (l := l) (k := i + 1) (by omega)
      omega
  have hno : ∀ y, n < y → y ≤ x → EdgeIn s y → False := fun y a b c => no_between h hn h2 ((hm y).2 (.inr ⟨s, hs, c⟩)) a b
  rw [Bool.eq_iff_iff, hasB_iff, hasB_iff]
  constructor
  · rintro ⟨r, hr, r1, r2⟩
    by_cases hrn : r.1 ≤ n
    · exact ⟨r, hr, hrn, by omega⟩
    · exact absurd ⟨by omega, r, hr, .inl rfl⟩ (hno r.1 (by omega) r1)
  · rintro ⟨r, hr, r1, r2⟩
    by_cases hrx : x ≤ r.2
    · exact ⟨r, hr, by omega, hrx⟩
    · exact absurd ⟨by omega, r, hr, .inr ⟨by omega, rfl⟩⟩ (hno (r.2 + 1) (by omega) (by omega))
theorem made_set {l : List Int} {sets : List (List (Int × Int))} (h : Incr l) (hm : ∀ x, x ∈ l ↔ EdgeOf sets x) (f : Int → Bool)
    (hc : ∀ i n, l[i]? = some n → ∀ x, n ≤ x → x ≤ endOf (l.drop (i + 1)) → f x = f n) :
    goodB (madeF f [] l) = true ∧ ∀ x, hasB (madeF f [] l) x = (decide (-1000000 ≤ x) && decide (x ≤ 1000000) && f x) := by
  have h0 := incr_min h ((hm _).2 (.inl rfl))
  obtain ⟨g, m⟩ := madeF_good (f := f) [] h rfl (fun n hn => by rw [h0] at hn; injection hn with hn; subst hn; simp [lastOf]) hc
  refine ⟨g, fun x => ?_⟩
  rw [m x, h0]; simp [hasB]
theorem made_norm {l : List Int} {s : List (Int × Int)} (h : Incr l) (hm : ∀ x, x ∈ l ↔ EdgeOf [s] x) : madeF (hasB s) [] l = normL s := by
  obtain ⟨g, m⟩ := made_set h hm (hasB s) (fun i n hn x h1 h2 => has_const h hm (by simp) hn h1 h2)
  exact good_unique g (normL_good s).1 (fun n => by rw [m, (normL_good s).2])
theorem made_both {l : List Int} {a b : List (Int × Int)} (ha : goodB a = true) (hb : goodB b = true) (h : Incr l) (hm : ∀ x, x ∈ l ↔ EdgeOf [a, b] x) : madeF (fun n => hasB a n && hasB b n) [] l = bothF a b := by
  obtain ⟨g, m⟩ := made_set h hm (fun n => hasB a n && hasB b n) (fun i n hn x h1 h2 => by rw [has_const h hm (s := a) (by simp) hn h1 h2, has_const h hm (s := b) (by simp) hn h1 h2])
  obtain ⟨g2, m2⟩ := bothF_good ha hb
  refine good_unique g g2 (fun n => ?_)
  rw [m, m2]
  cases hh : hasB a n with
  | false => simp
  | true => have := good_in ha hh; simp [this.1, this.2]
theorem made_less {l : List Int} {a b : List (Int × Int)} (ha : goodB a = true) (hb : goodB b = true) (h : Incr l) (hm : ∀ x, x ∈ l ↔ EdgeOf [a, b] x) : madeF (fun n => hasB a n && !hasB b n) [] l = lessF a b := by
  obtain ⟨g, m⟩ := made_set h hm (fun n => hasB a n && !hasB b n) (fun i n hn x h1 h2 => by rw [has_const h hm (s := a) (by simp) hn h1 h2, has_const h hm (s := b) (by simp) hn h1 h2])
  obtain ⟨g2, m2⟩ := lessF_good ha hb
  refine good_unique g g2 (fun n => ?_)
  rw [m, m2]
  cases hh : hasB a n with
  | false => simp
  | true => have := good_in ha hh; simp [this.1, this.2]

end Go.Proofs.YtadbdpgcdpjgmaaDoor
