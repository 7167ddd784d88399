/- Tables as Lean data: what is good, what matches, what is said. No condition; no program is named. -/
import Derived.Test.YtmdljknlbmlacabGreatDoorTab
import Derived.Test.YtmdljknlbmlacabGreatDoorBoxes
namespace Go.Proofs.YtmdljknlbmlacabGreatDoor

def letterB (b : UInt8) : Bool := decide (97 ≤ b.toNat) && decide (b.toNat ≤ 122)
def nameB (s : ByteArray) : Bool := decide (0 < s.size) && decide (s.size ≤ 8) && s.data.toList.all letterB
def sameS (a b : ByteArray) : Bool := a.toList == b.toList
def insOk (seen : List ByteArray) : List ByteArray → Bool
  | [] => true
  | s :: l => (nameB s && !seen.any (sameS s)) && insOk (seen ++ [s]) l
def goodIns (l : List ByteArray) : Bool := decide (0 < l.length) && decide (l.length ≤ 3) && insOk [] l
def goodC (c : CellD) : Bool := !(c.1 && decide (c.2.length = 0)) && decide (c.2.length ≤ 4) && goodB c.2
def goodR (n : Int) (r : RuleD) : Bool := decide (-1000000 ≤ r.2) && decide (r.2 ≤ 1000000) && decide ((r.1.length : Int) = n) && r.1.all goodC
def goodRs (n : Int) (l : List RuleD) : Bool := decide (0 < l.length) && decide (l.length ≤ 6) && l.all (goodR n)
def goodT (t : TabD) : Bool := nameB t.name && decide (1 ≤ t.pol) && decide (t.pol ≤ 7) && goodIns t.ins && goodRs t.ins.length t.rules

def holdsC (c : CellD) (n : Int) : Bool := decide (c.2.length = 0) || (hasB c.2 n != c.1)
def matchC : List CellD → List Int → Bool
  | [], [] => true
  | c :: cs, n :: l => holdsC c n && matchC cs l
  | _, _ => false
def idxL (k : Nat) (l : List RuleD) (i : List Int) : List Int :=
  match l with
  | [] => []
  | r :: l => (if matchC r.1 i then [(k : Int)] else []) ++ idxL (k + 1) l i
def outsL (l : List RuleD) (i : List Int) : List Int := (l.filter fun r => matchC r.1 i).map (·.2)
def forbidsB (p a b : Int) : Bool := decide (p = 1) || (decide (p = 2) && decide (a ≠ b))
def conflictB (p : Int) : List Int → Bool
  | [] => false
  | a :: l => l.any (forbidsB p a)
def minL : List Int → Int
  | [] => 0
  | a :: l => l.foldl min a
def maxL : List Int → Int
  | [] => 0
  | a :: l => l.foldl max a
def combineV (p : Int) (l : List Int) : Int := if p = 4 then minL l else if p = 5 then maxL l else if p = 6 then l.sum else if p = 7 then l.length else l.headD 0
def saysO (p : Int) (o : List Int) : Int × Bool × Int :=
  if o.length = 0 ∧ p ≠ 7 then (0, false, 0) else if conflictB p o then (0, false, 4) else (combineV p o, true, 0)
def saysV (t : TabD) (i : List Int) : Int × Bool × Int :=
  if goodT t = true ∧ i.length = t.ins.length then saysO t.pol (outsL t.rules i) else (0, false, 1)
def spanV (t : TabD) : Int × Int :=
  if goodT t then (if t.pol = 7 then (0, t.rules.length) else if t.pol = 6 then ((t.rules.map fun r => min r.2 0).sum, (t.rules.map fun r => max r.2 0).sum) else (minL (t.rules.map (·.2)), maxL (t.rules.map (·.2)))) else (0, 0)

theorem insOk_at {l : List ByteArray} {k : Nat} {s : ByteArray} (h : l[k]? = some s) : insOk (l.take k) (l.drop k) = ((nameB s && !(l.take k).any (sameS s)) && insOk (l.take (k + 1)) (l.drop (k + 1))) := by
  rw [drop_at h, take_at h]; rfl
theorem all_at {α : Type} {f : α → Bool} {l : List α} {k : Nat} {x : α} (h : l[k]? = some x) : (l.drop k).all f = (f x && (l.drop (k + 1)).all f) := by
  rw [drop_at h]; rfl
theorem matchC_at {cs : List CellD} {l : List Int} {k : Nat} {c : CellD} {n : Int} (h : cs[k]? = some c) (h' : l[k]? = some n) : matchC (cs.drop k) (l.drop k) = (holdsC c n && matchC (cs.drop (k + 1)) (l.drop (k + 1))) := by
  rw [drop_at h, drop_at h']; rfl
theorem matchC_length {cs : List CellD} : ∀ {l : List Int}, matchC cs l = true → cs.length = l.length := by
  induction cs with
  | nil => intro l h; cases l <;> simp_all [matchC]
  | cons c cs ih =>
    intro l h
    cases l with
    | nil => simp [matchC] at h
    | cons n l => simp [matchC] at h; simp [ih h.2]
theorem matchC_ne {cs : List CellD} {l : List Int} (h : ¬ cs.length = l.length) : matchC cs l = false := by
  cases hm : matchC cs l
  · rfl
  · exact absurd (matchC_length hm) h
theorem idxL_append (a b : List RuleD) (i : List Int) : ∀ k, idxL k (a ++ b) i = idxL k a i ++ idxL (k + a.length) b i := by
  induction a with
  | nil => intro k; simp [idxL]
  | cons r a ih => intro k; simp only [List.cons_append, idxL, ih, List.append_assoc, List.length_cons]; rw [show k + (a.length + 1) = k + 1 + a.length from by omega]
theorem idxL_take {l : List RuleD} {k : Nat} {r : RuleD} (h : l[k]? = some r) (i : List Int) : idxL 0 (l.take (k + 1)) i = idxL 0 (l.take k) i ++ (if matchC r.1 i then [(k : Int)] else []) := by
  have hk := (List.getElem?_eq_some_iff.1 h).1
  rw [take_at h, idxL_append, List.length_take, Nat.min_eq_left (by omega)]
  simp [idxL]
theorem idxL_length (l : List RuleD) (i : List Int) : ∀ k, (idxL k l i).length ≤ l.length := by
  induction l with
  | nil => intro k; simp [idxL]
  | cons r l ih => intro k; have := ih (k + 1); simp only [idxL, List.length_append, List.length_cons]; split <;> simp <;> omega
/-- what the indices lead to -/
theorem idxL_outs (l : List RuleD) (i : List Int) : ∀ (pre : List RuleD), (∀ j, j ∈ idxL pre.length l i → ∃ n : Nat, j = (n : Int) ∧ n < (pre ++ l).length) ∧ (idxL pre.length l i).map (fun j => ((pre ++ l)[j.toNat]?.map (·.2)).getD 0) = outsL l i := by
  induction l with
  | nil => intro pre; simp [idxL, outsL]
  | cons r l ih =>
    intro pre
    have h := ih (pre ++ [r])
    rw [List.length_append, List.length_singleton, List.append_assoc, List.singleton_append] at h
    obtain ⟨h1, h2⟩ := h
    cases hm : matchC r.1 i
    · simp only [idxL, hm, Bool.false_eq_true, if_false, List.nil_append]
      exact ⟨h1, by rw [h2]; simp [outsL, hm]⟩
    · simp only [idxL, hm, if_true, List.singleton_append, List.map_cons, h2]
      refine ⟨fun j hj => ?_, ?_⟩
      · rcases List.mem_cons.1 hj with rfl | hj
        · exact ⟨pre.length, rfl, by simp⟩
        · exact h1 j hj
      · simp [outsL, hm]
theorem outsL_length (l : List RuleD) (i : List Int) : (outsL l i).length ≤ l.length := by
  unfold outsL; rw [List.length_map]; exact List.length_filter_le _ _
theorem outsL_mem {l : List RuleD} {i : List Int} {x : Int} (h : x ∈ outsL l i) : ∃ r, r ∈ l ∧ matchC r.1 i = true ∧ r.2 = x := by
  obtain ⟨r, hr, rfl⟩ := List.mem_map.1 h
  rw [List.mem_filter] at hr
  exact ⟨r, hr.1, hr.2, rfl⟩

theorem goodT_iff {t : TabD} : goodT t = true ↔ nameB t.name = true ∧ 1 ≤ t.pol ∧ t.pol ≤ 7 ∧ goodIns t.ins = true ∧ goodRs t.ins.length t.rules = true := by
  simp [goodT, and_assoc]
theorem goodIns_iff {l : List ByteArray} : goodIns l = true ↔ 0 < l.length ∧ l.length ≤ 3 ∧ insOk [] l = true := by simp [goodIns, and_assoc]
theorem goodRs_iff {n : Int} {l : List RuleD} : goodRs n l = true ↔ 0 < l.length ∧ l.length ≤ 6 ∧ ∀ r, r ∈ l → goodR n r = true := by simp [goodRs, and_assoc]
theorem goodR_iff {n : Int} {r : RuleD} : goodR n r = true ↔ -1000000 ≤ r.2 ∧ r.2 ≤ 1000000 ∧ (r.1.length : Int) = n ∧ ∀ c, c ∈ r.1 → goodC c = true := by simp [goodR, and_assoc]
theorem goodC_iff {c : CellD} : goodC c = true ↔ ¬ (c.1 = true ∧ c.2.length = 0) ∧ c.2.length ≤ 4 ∧ goodB c.2 = true := by
  simp [goodC, and_assoc]
  cases c.1 <;> simp
theorem outs_small {t : TabD} (h : goodT t = true) (i : List Int) : (outsL t.rules i).length ≤ 6 ∧ ∀ x, x ∈ outsL t.rules i → -1000000 ≤ x ∧ x ≤ 1000000 := by
  obtain ⟨_, _, _, _, h5⟩ := goodT_iff.1 h
  obtain ⟨_, h6, h7⟩ := goodRs_iff.1 h5
  refine ⟨Nat.le_trans (outsL_length _ _) h6, fun x hx => ?_⟩
  obtain ⟨r, hr, _, rfl⟩ := outsL_mem hx
  obtain ⟨a, b, _⟩ := goodR_iff.1 (h7 r hr)
  exact ⟨a, b⟩

/- the order of rules -/
theorem foldl_min (l : List Int) : ∀ a, (l.foldl min a ≤ a ∧ ∀ x, x ∈ l → l.foldl min a ≤ x) ∧ (l.foldl min a = a ∨ l.foldl min a ∈ l) := by
  induction l with
  | nil => intro a; simp
  | cons b l ih =>
    intro a
    obtain ⟨⟨h1, h2⟩, h3⟩ := ih (min a b)
    simp only [List.foldl_cons, List.mem_cons]
    refine ⟨⟨by omega, fun x hx => ?_⟩, ?_⟩
    · rcases hx with rfl | hx
      · omega
      · exact h2 x hx
    · rcases h3 with h3 | h3
      · rw [h3]
        by_cases hab : a ≤ b
        · left; omega
        · right; left; omega
      · exact .inr (.inr h3)
theorem foldl_max (l : List Int) : ∀ a, (a ≤ l.foldl max a ∧ ∀ x, x ∈ l → x ≤ l.foldl max a) ∧ (l.foldl max a = a ∨ l.foldl max a ∈ l) := by
  induction l with
  | nil => intro a; simp
  | cons b l ih =>
    intro a
    obtain ⟨⟨h1, h2⟩, h3⟩ := ih (max a b)
    simp only [List.foldl_cons, List.mem_cons]
    refine ⟨⟨by omega, fun x hx => ?_⟩, ?_⟩
    · rcases hx with rfl | hx
      · omega
      · exact h2 x hx
    · rcases h3 with h3 | h3
      · rw [h3]
        by_cases hab : b ≤ a
        · left; omega
        · right; left; omega
      · exact .inr (.inr h3)
theorem minL_spec {l : List Int} (h : 0 < l.length) : minL l ∈ l ∧ ∀ x, x ∈ l → minL l ≤ x := by
  cases l with
  | nil => simp at h
  | cons a l =>
    obtain ⟨⟨h1, h2⟩, h3⟩ := foldl_min l a
    refine ⟨?_, fun x hx => ?_⟩
    · rcases h3 with h3 | h3
      · show l.foldl min a ∈ _; rw [h3]; simp
      · exact List.mem_cons_of_mem _ h3
    · rcases List.mem_cons.1 hx with rfl | hx
      · exact h1
      · exact h2 x hx
theorem maxL_spec {l : List Int} (h : 0 < l.length) : maxL l ∈ l ∧ ∀ x, x ∈ l → x ≤ maxL l := by
  cases l with
  | nil => simp at h
  | cons a l =>
    obtain ⟨⟨h1, h2⟩, h3⟩ := foldl_max l a
    refine ⟨?_, fun x hx => ?_⟩
    · rcases h3 with h3 | h3
      · show l.foldl max a ∈ _; rw [h3]; simp
      · exact List.mem_cons_of_mem _ h3
    · rcases List.mem_cons.1 hx with rfl | hx
      · exact h1
      · exact h2 x hx
theorem minL_perm {a b : List Int} (h : a.Perm b) : minL a = minL b := by
  by_cases h0 : 0 < a.length
  · have h1 : 0 < b.length := by rw [← h.length_eq]; exact h0
    obtain ⟨p, q⟩ := minL_spec h0
    obtain ⟨p', q'⟩ := minL_spec h1
    have := q _ (h.mem_iff.2 p')
    have := q' _ (h.mem_iff.1 p)
    omega
  · obtain rfl : a = [] := List.length_eq_zero_iff.1 (by omega)
    rw [List.nil_perm.1 h]
theorem maxL_perm {a b : List Int} (h : a.Perm b) : maxL a = maxL b := by
  by_cases h0 : 0 < a.length
  · have h1 : 0 < b.length := by rw [← h.length_eq]; exact h0
    obtain ⟨p, q⟩ := maxL_spec h0
    obtain ⟨p', q'⟩ := maxL_spec h1
    have := q _ (h.mem_iff.2 p')
    have := q' _ (h.mem_iff.1 p)
    omega
  · obtain rfl : a = [] := List.length_eq_zero_iff.1 (by omega)
    rw [List.nil_perm.1 h]
theorem sum_perm {a b : List Int} (h : a.Perm b) : a.sum = b.sum := by
  induction h with
  | nil => rfl
  | cons x _ ih => simp [ih]
  | swap x y l => simp; omega
  | trans _ _ ih1 ih2 => rw [ih1, ih2]
theorem conflict_one {l : List Int} : conflictB 1 l = decide (1 < l.length) := by
  cases l with
  | nil => rfl
  | cons a l => cases l <;> simp [conflictB, forbidsB]
theorem conflict_two {l : List Int} : conflictB 2 l = false ↔ ∀ x, x ∈ l → ∀ y, y ∈ l → x = y := by
  cases l with
  | nil => simp [conflictB]
  | cons a l =>
    simp only [conflictB, forbidsB, List.any_eq_false]
    constructor
    · intro h
      have hk : ∀ x, x ∈ a :: l → a = x := by
        intro x hx
        rcases List.mem_cons.1 hx with rfl | hx
        · rfl
        · simpa using h x hx
      intro x hx y hy
      rw [← hk x hx, ← hk y hy]
    · intro h x hx
      have := h a (by simp) x (by simp [hx])
      simp [this]
theorem conflict_other {p : Int} {l : List Int} (h1 : p ≠ 1) (h2 : p ≠ 2) : conflictB p l = false := by
  cases l with
  | nil => rfl
  | cons a l => simp [conflictB, forbidsB, h1, h2]
theorem conflict_perm {p : Int} {a b : List Int} (h : a.Perm b) : conflictB p a = conflictB p b := by
  by_cases h1 : p = 1
  · subst h1; rw [conflict_one, conflict_one, h.length_eq]
  · by_cases h2 : p = 2
    · subst h2
      have : conflictB 2 a = false ↔ conflictB 2 b = false := by
        rw [conflict_two, conflict_two]
        exact ⟨fun k x hx y hy => k x (h.mem_iff.2 hx) y (h.mem_iff.2 hy), fun k x hx y hy => k x (h.mem_iff.1 hx) y (h.mem_iff.1 hy)⟩
      cases ha : conflictB 2 a <;> cases hb : conflictB 2 b <;> simp_all
    · rw [conflict_other h1 h2, conflict_other h1 h2]
theorem saysO_perm {p : Int} {a b : List Int} (h : a.Perm b) (hp : p ≠ 3) (hr : 1 ≤ p ∧ p ≤ 7) : saysO p a = saysO p b := by
  unfold saysO
  rw [h.length_eq, conflict_perm h]
  split
  · rfl
  · split
    · rfl
    · rename_i h1 h2
      have h2' : conflictB p b = false := by simpa using h2
      have e : combineV p a = combineV p b := by
        unfold combineV
        rw [minL_perm h, maxL_perm h, sum_perm h, h.length_eq]
        split
        · rfl
        split
        · rfl
        split
        · rfl
        split
        · rfl
        have hl : a.length = b.length := h.length_eq
        cases a with
        | nil => rw [List.nil_perm.1 h]
        | cons x a =>
          cases b with
          | nil => simp at hl
          | cons y b =>
            show x = y
            rcases (by omega : p = 1 ∨ p = 2) with rfl | rfl
            · rw [conflict_one] at h2'
              simp at h2'
              subst h2'
              simp at hl
              subst hl
              simpa using h
            · exact conflict_two.1 h2' x (h.mem_iff.1 (by simp)) y (by simp)
      rw [e]
theorem outsL_perm {a b : List RuleD} (h : a.Perm b) (i : List Int) : (outsL a i).Perm (outsL b i) := (h.filter _).map _
theorem goodRs_perm {n : Int} {a b : List RuleD} (h : a.Perm b) : goodRs n a = goodRs n b := by
  have : goodRs n a = true ↔ goodRs n b = true := by
    rw [goodRs_iff, goodRs_iff, h.length_eq]
    exact ⟨fun k => ⟨k.1, k.2.1, fun r hr => k.2.2 r (h.mem_iff.2 hr)⟩, fun k => ⟨k.1, k.2.1, fun r hr => k.2.2 r (h.mem_iff.1 hr)⟩⟩
  cases ha : goodRs n a <;> cases hb : goodRs n b <;> simp_all
theorem saysV_perm {t u : TabD} (h : t.rules.Perm u.rules) (hn : t.name = u.name) (hp : t.pol = u.pol) (hi : t.ins = u.ins) (h3 : t.pol ≠ 3) (i : List Int) : saysV t i = saysV u i := by
  have hg : goodT t = goodT u := by unfold goodT; rw [hn, hp, hi, goodRs_perm h]
  unfold saysV
  rw [hg, hi]
  by_cases hgu : goodT u = true ∧ i.length = u.ins.length
  · rw [if_pos hgu, if_pos hgu, hp]
    obtain ⟨_, h1, h7, _⟩ := goodT_iff.1 hgu.1
    exact saysO_perm (outsL_perm h i) (by omega) ⟨h1, h7⟩
  · rw [if_neg hgu, if_neg hgu]

end Go.Proofs.YtmdljknlbmlacabGreatDoor
