/- Areas, gaps and clashes of tables as Lean data, and why they are the least. No condition; no program is named. What tables say, their gaps, clashes and spans, held against one another. No condition; no program is named. -/
import Derived.Test.YtmdljknlbmlacabGreatDoorTabs
import Derived.Test.YtmdljknlbmlacabGreatDoorSets
namespace Go.Proofs.YtmdljknlbmlacabGreatDoor

abbrev BoxD := List (List (Int × Int))

def partV (c : CellD) (s : List (Int × Int)) : List (Int × Int) := if c.2.length = 0 then s else if c.1 then lessF s (normL c.2) else bothF s (normL c.2)
theorem part_good {c : CellD} {s : List (Int × Int)} (hs : goodB s = true) : goodB (partV c s) = true ∧ ∀ n, hasB (partV c s) n = (hasB s n && holdsC c n) := by
  have hn := normL_good c.2
  unfold partV holdsC
  by_cases h0 : c.2.length = 0
  · simp [h0, hs]
  · rw [if_neg h0]
    have key : ∀ n, hasB s n = true → hasB (normL c.2) n = hasB c.2 n := by
      intro n h
      rw [hn.2]
      have := good_in hs h
      simp [this]
    cases hc : c.1
    · obtain ⟨g1, g2⟩ := bothF_good (La := -1000002) (Lb := -1000002) hs hn.1
      refine ⟨by simpa [goodB] using g1, fun n => ?_⟩
      simp only [Bool.false_eq_true, if_false, h0, decide_false, Bool.false_or]
      rw [g2]
      cases h : hasB s n
      · rfl
      · rw [key n h]; simp
    · obtain ⟨g1, g2⟩ := less_sets hs hn.1
      refine ⟨by simpa using g1, fun n => ?_⟩
      simp only [if_true, h0, decide_false, Bool.false_or]
      rw [g2]
      cases h : hasB s n
      · rfl
      · rw [key n h]; simp

def areaL (cs : List CellD) (a : BoxD) : BoxD := List.zipWith partV cs a
def areaOk (cs : List CellD) (a : BoxD) : Bool := decide (cs.length = a.length) && goodBox a a.length && fullB (areaL cs a)
def areaV (cs : List CellD) (a : BoxD) : BoxD := if areaOk cs a then areaL cs a else []
theorem areaOk_iff {cs : List CellD} {a : BoxD} : areaOk cs a = true ↔ cs.length = a.length ∧ goodBox a a.length = true ∧ fullB (areaL cs a) = true := by simp [areaOk, and_assoc]
theorem area_sets {a : BoxD} : ∀ {cs : List CellD}, setsB a = true → fullB (areaL cs a) = true → setsB (areaL cs a) = true := by
  induction a with
  | nil => intro cs _ _; cases cs <;> rfl
  | cons s a ih =>
    intro cs ha hf
    cases cs with
    | nil => rfl
    | cons c cs =>
      rw [setsB_cons] at ha
      simp only [areaL, List.zipWith_cons_cons] at hf ⊢
      rw [fullB_cons] at hf
      rw [setsB_cons]
      exact ⟨⟨hf.1, (part_good ha.1.2).1⟩, ih ha.2 hf.2⟩
theorem area_has {a : BoxD} : ∀ {cs : List CellD}, setsB a = true → cs.length = a.length → ∀ {i : List Int}, hasBox (areaL cs a) i = (hasBox a i && matchC cs i) := by
  induction a with
  | nil =>
    intro cs _ hl i
    cases cs with
    | nil => cases i <;> rfl
    | cons c cs => simp at hl
  | cons s a ih =>
    intro cs ha hl i
    cases cs with
    | nil => simp at hl
    | cons c cs =>
      rw [setsB_cons] at ha
      cases i with
      | nil => rfl
      | cons n i =>
        simp only [areaL, List.zipWith_cons_cons, hasBox, matchC]
        have := ih (cs := cs) ha.2 (by simpa using hl) (i := i)
        unfold areaL at this
        rw [(part_good ha.1.2).2, this]
        cases hasB s n <;> cases holdsC c n <;> cases hasBox a i <;> cases matchC cs i <;> rfl
theorem area_length {cs : List CellD} {a : BoxD} (h : cs.length = a.length) : (areaL cs a).length = a.length := by
  unfold areaL; rw [List.length_zipWith]; omega
theorem area_good {cs : List CellD} {a : BoxD} (h : areaOk cs a = true) : goodBox (areaL cs a) a.length = true := by
  obtain ⟨h1, h2, h3⟩ := areaOk_iff.1 h
  have := goodBox_iff.1 h2
  exact goodBox_iff.2 ⟨⟨by rw [area_length h1], this.1.2⟩, area_sets this.2 h3⟩
theorem area_none {cs : List CellD} {a : BoxD} (h1 : cs.length = a.length) (h2 : goodBox a a.length = true) (h : areaOk cs a = false) (i : List Int) : (hasBox a i && matchC cs i) = false := by
  rw [← area_has (goodBox_iff.1 h2).2 h1]
  refine empty_has ?_
  cases hf : fullB (areaL cs a)
  · rfl
  · rw [areaOk_iff.2 ⟨h1, h2, hf⟩] at h; cases h

def areaO (a : BoxD) (r : RuleD) : Option BoxD := if areaOk r.1 a then some (areaL r.1 a) else none
def areasL (l : List RuleD) (a : BoxD) : List BoxD := l.filterMap (areaO a)
theorem areasL_take {l : List RuleD} {k : Nat} {r : RuleD} (h : l[k]? = some r) (a : BoxD) : areasL (l.take (k + 1)) a = areasL (l.take k) a ++ (if areaOk r.1 a then [areaL r.1 a] else []) := by
  unfold areasL
  rw [take_at h, List.filterMap_append]
  congr 1
  simp only [List.filterMap_cons, List.filterMap_nil, areaO]
  split <;> simp_all
theorem areasL_length (l : List RuleD) (a : BoxD) : (areasL l a).length ≤ l.length := List.length_filterMap_le ..

/- the order of inputs -/
def cmpL : List Int → List Int → Int
  | [], [] => 0
  | [], _ :: _ => -1
  | _ :: _, [] => 1
  | a :: l, b :: m => if a < b then -1 else if b < a then 1 else cmpL l m
def lexLt (a b : List Int) : Bool := decide (cmpL a b < 0)
theorem lexLt_cons {a b : Int} {l m : List Int} : lexLt (a :: l) (b :: m) = true ↔ a < b ∨ (a = b ∧ lexLt l m = true) := by
  unfold lexLt
  simp only [cmpL]
  by_cases h1 : a < b
  · simp [h1]
  · by_cases h2 : b < a
    · simp [h1, h2]; omega
    · have : a = b := by omega
      subst this; simp
theorem lexLt_irrefl (a : List Int) : lexLt a a = false := by
  induction a with
  | nil => rfl
  | cons x a ih =>
    cases h : lexLt (x :: a) (x :: a)
    · rfl
    · rw [lexLt_cons] at h
      rcases h with h | h
      · omega
      · rw [ih] at h; cases h.2
theorem lexLt_asymm {a : List Int} : ∀ {b : List Int}, lexLt a b = true → lexLt b a = false := by
  induction a with
  | nil => intro b _; cases b <;> rfl
  | cons x a ih =>
    intro b h
    cases b with
    | nil => simp [lexLt, cmpL] at h
    | cons y b =>
      cases h2 : lexLt (y :: b) (x :: a)
      · rfl
      · rw [lexLt_cons] at h h2
        rcases h with h | h
        · rcases h2 with h2 | h2 <;> omega
        · rcases h2 with h2 | h2
          · omega
          · rw [ih h.2] at h2; cases h2.2
/-- below what is not above -/
theorem lexLt_le {i : List Int} : ∀ {a b : List Int}, lexLt i a = true → lexLt b a = false → lexLt i b = true := by
  induction i with
  | nil =>
    intro a b h1 h2
    cases a with
    | nil => simp [lexLt, cmpL] at h1
    | cons x a => cases b with
      | nil => simp [lexLt, cmpL] at h2
      | cons y b => simp [lexLt, cmpL]
  | cons n i ih =>
    intro a b h1 h2
    cases a with
    | nil => simp [lexLt, cmpL] at h1
    | cons x a =>
      cases b with
      | nil => simp [lexLt, cmpL] at h2
      | cons y b =>
        rw [lexLt_cons] at h1 ⊢
        have h2' : ¬ (y < x ∨ (y = x ∧ lexLt b a = true)) := by rw [← lexLt_cons, h2]; simp
        by_cases hxy : x < y
        · omega
        · have : x = y := by omega
          subst this
          rcases h1 with h1 | h1
          · exact .inl h1
          · refine .inr ⟨h1.1, ih h1.2 ?_⟩
            cases hb : lexLt b a
            · rfl
            · exact absurd (.inr ⟨rfl, hb⟩) h2'
theorem lexLt_total {a : List Int} : ∀ {b : List Int}, lexLt a b = false → lexLt b a = false → a = b := by
  induction a with
  | nil => intro b h1 h2; cases b with
    | nil => rfl
    | cons y b => simp [lexLt, cmpL] at h1
  | cons x a ih =>
    intro b h1 h2
    cases b with
    | nil => simp [lexLt, cmpL] at h2
    | cons y b =>
      have h1' : ¬ (x < y ∨ (x = y ∧ lexLt a b = true)) := by rw [← lexLt_cons, h1]; simp
      have h2' : ¬ (y < x ∨ (y = x ∧ lexLt b a = true)) := by rw [← lexLt_cons, h2]; simp
      have e : x = y := by omega
      subst e
      have f1 : lexLt a b = false := by
        cases h : lexLt a b
        · rfl
        · exact absurd (.inr ⟨rfl, h⟩) h1'
      have f2 : lexLt b a = false := by
        cases h : lexLt b a
        · rfl
        · exact absurd (.inr ⟨rfl, h⟩) h2'
      rw [ih f1 f2]
theorem point_least {b : BoxD} : ∀ {i : List Int}, setsB b = true → hasBox b i = true → lexLt i (pointL b) = false := by
  induction b with
  | nil => intro i _ h; cases i with
    | nil => rfl
    | cons n i => simp [hasBox] at h
  | cons s b ih =>
    intro i hs h
    cases i with
    | nil => simp [hasBox] at h
    | cons n i =>
      rw [setsB_cons] at hs
      simp only [hasBox, Bool.and_eq_true] at h
      cases s with
      | nil => simp at hs
      | cons r s =>
        obtain ⟨x, y⟩ := r
        have e : pointL (((x, y) :: s) :: b) = x :: pointL b := by simp [pointL]
        rw [e]
        have hg := goodFrom_cons.1 hs.1.2
        have hx : x ≤ n := by
          rcases hasB_cons.1 h.1 with h1 | h1
          · exact h1.1
          · have := good_gt hg.2.2.2.2 h1; omega
        cases hl : lexLt (n :: i) (x :: pointL b)
        · rfl
        · rw [lexLt_cons, ih hs.2 h.2] at hl
          rcases hl with hl | hl
          · omega
          · cases hl.2

def leastL (p : List Int) (l : List BoxD) : List Int := l.foldl (fun p b => if lexLt (pointL b) p then pointL b else p) p
def smallV : List BoxD → List Int × Bool
  | [] => ([], false)
  | b :: l => (leastL (pointL b) l, true)
theorem leastL_take {l : List BoxD} {k : Nat} {b : BoxD} (h : l[k]? = some b) (p : List Int) : leastL p (l.take (k + 1)) = (if lexLt (pointL b) (leastL p (l.take k)) then pointL b else leastL p (l.take k)) := by
  unfold leastL
  rw [take_at h, List.foldl_append]; rfl
theorem leastL_spec (l : List BoxD) : ∀ p, (leastL p l = p ∨ ∃ b, b ∈ l ∧ leastL p l = pointL b) ∧ lexLt p (leastL p l) = false ∧ ∀ b, b ∈ l → lexLt (pointL b) (leastL p l) = false := by
  induction l with
  | nil => intro p; exact ⟨.inl rfl, lexLt_irrefl _, fun b hb => by simp at hb⟩
  | cons c l ih =>
    intro p
    have e : leastL p (c :: l) = leastL (if lexLt (pointL c) p then pointL c else p) l := rfl
    rw [e]
    obtain ⟨h1, h2, h3⟩ := ih (if lexLt (pointL c) p then pointL c else p)
    by_cases hc : lexLt (pointL c) p = true
    · rw [if_pos hc] at h1 h2 h3 ⊢
      refine ⟨.inr ?_, ?_, fun b hb => ?_⟩
      · rcases h1 with h1 | ⟨b, hb, h1⟩
        · exact ⟨c, by simp, h1⟩
        · exact ⟨b, by simp [hb], h1⟩
      · cases hp : lexLt p (leastL (pointL c) l)
        · rfl
        · have := lexLt_le hp h2
          rw [lexLt_asymm hc] at this; cases this
      · rcases List.mem_cons.1 hb with rfl | hb
        · exact h2
        · exact h3 b hb
    · rw [if_neg hc] at h1 h2 h3 ⊢
      have hc' : lexLt (pointL c) p = false := by simpa using hc
      refine ⟨?_, h2, fun b hb => ?_⟩
      · rcases h1 with h1 | ⟨b, hb, h1⟩
        · exact .inl h1
        · exact .inr ⟨b, by simp [hb], h1⟩
      · rcases List.mem_cons.1 hb with rfl | hb
        · cases hp : lexLt (pointL b) (leastL p l)
          · rfl
          · have := lexLt_le hp h2
            rw [hc'] at this; cases this
        · exact h3 b hb

theorem smallV_spec {l : List BoxD} (hl : ∀ b, b ∈ l → setsB b = true) : ((smallV l).2 = true → (∃ b, b ∈ l ∧ hasBox b (smallV l).1 = true) ∧ ∀ b i, b ∈ l → hasBox b i = true → lexLt i (smallV l).1 = false) ∧ ((smallV l).2 = false → l = []) := by
  cases l with
  | nil => exact ⟨fun h => by simp [smallV] at h, fun _ => rfl⟩
  | cons c l =>
    refine ⟨fun _ => ?_, fun h => by simp [smallV] at h⟩
    obtain ⟨h1, h2, h3⟩ := leastL_spec l (pointL c)
    show (∃ b, b ∈ c :: l ∧ hasBox b (leastL (pointL c) l) = true) ∧ ∀ b i, b ∈ c :: l → hasBox b i = true → lexLt i (leastL (pointL c) l) = false
    refine ⟨?_, fun b i hb hi => ?_⟩
    · rcases h1 with h1 | ⟨b, hb, h1⟩
      · exact ⟨c, by simp, by rw [h1]; exact point_has (hl c (by simp))⟩
      · exact ⟨b, by simp [hb], by rw [h1]; exact point_has (hl b (by simp [hb]))⟩
    · have hp : lexLt (pointL b) (leastL (pointL c) l) = false := by
        rcases List.mem_cons.1 hb with rfl | hb
        · exact h2
        · exact h3 b hb
      have hq := point_least (hl b hb) hi
      cases h : lexLt i (leastL (pointL c) l)
      · rfl
      · have := lexLt_le h hp
        rw [hq] at this; cases this

def fitsB (t : TabD) (a : BoxD) : Bool := goodT t && goodBox a t.ins.length
def gapV (t : TabD) (a : BoxD) : List Int × Bool := if t.pol ≠ 7 ∧ fitsB t a = true then smallV (restBox a (areasL t.rules a)) else ([], false)
def overV (p : Int) (a : BoxD) (r s : RuleD) : Option BoxD := if forbidsB p r.2 s.2 && (areaOk r.1 a && areaOk s.1 (areaL r.1 a)) then some (areaL s.1 (areaL r.1 a)) else none
def clashR (p : Int) (a : BoxD) (pre : List RuleD) : List RuleD → List BoxD
  | [] => []
  | r :: l => pre.filterMap (overV p a r) ++ clashR p a (pre ++ [r]) l
def clashV (t : TabD) (a : BoxD) : List Int × Bool := if fitsB t a then smallV (clashR t.pol a [] t.rules) else ([], false)

/-- LEAST: the first in the order of inputs that is in the box and meets f; whether there is one -/
def Least (a : BoxD) (f : List Int → Bool) (g : List Int × Bool) : Prop :=
  (g.2 = true → hasBox a g.1 = true ∧ f g.1 = true ∧ ∀ i, hasBox a i = true → f i = true → lexLt i g.1 = false) ∧ (g.2 = false → g.1 = [] ∧ ∀ i, hasBox a i = true → f i = false)
theorem Least.uniq {a : BoxD} {f : List Int → Bool} {g h : List Int × Bool} (hg : Least a f g) (hh : Least a f h) : g = h := by
  obtain ⟨p, b⟩ := g
  obtain ⟨q, c⟩ := h
  cases b <;> cases c
  · have e1 : p = [] := (hg.2 rfl).1
    have e2 : q = [] := (hh.2 rfl).1
    rw [e1, e2]
  · obtain ⟨h1, h2, _⟩ := hh.1 rfl
    have := (hg.2 rfl).2 _ h1
    rw [h2] at this; cases this
  · obtain ⟨h1, h2, _⟩ := hg.1 rfl
    have := (hh.2 rfl).2 _ h1
    rw [h2] at this; cases this
  · obtain ⟨h1, h2, h3⟩ := hg.1 rfl
    obtain ⟨k1, k2, k3⟩ := hh.1 rfl
    have e : p = q := lexLt_total (k3 _ h1 h2) (h3 _ k1 k2)
    rw [e]
theorem least_small {a : BoxD} {f : List Int → Bool} {l : List BoxD} (hl : ∀ b, b ∈ l → setsB b = true) (h : ∀ i, (∃ b, b ∈ l ∧ hasBox b i = true) ↔ hasBox a i = true ∧ f i = true) : Least a f (smallV l) := by
  obtain ⟨h1, h2⟩ := smallV_spec hl
  refine ⟨fun hs => ?_, fun hs => ?_⟩
  · obtain ⟨h3, h4⟩ := h1 hs
    obtain ⟨h5, h6⟩ := (h _).1 h3
    exact ⟨h5, h6, fun i hi hf => by obtain ⟨b, hb, hbi⟩ := (h i).2 ⟨hi, hf⟩; exact h4 b i hb hbi⟩
  · have e := h2 hs
    subst e
    refine ⟨rfl, fun i hi => ?_⟩
    cases hf : f i
    · rfl
    · obtain ⟨b, hb, _⟩ := (h i).2 ⟨hi, hf⟩
      simp at hb

theorem fits_rules {t : TabD} {a : BoxD} (h : fitsB t a = true) : goodBox a a.length = true ∧ a.length = t.ins.length ∧ ∀ r, r ∈ t.rules → r.1.length = a.length := by
  simp only [fitsB, Bool.and_eq_true] at h
  obtain ⟨hg, hb⟩ := h
  have hl := (goodBox_iff.1 hb).1.1
  have hl' : a.length = t.ins.length := by omega
  refine ⟨goodBox_self hb, hl', fun r hr => ?_⟩
  have := (goodR_iff.1 ((goodRs_iff.1 (goodT_iff.1 hg).2.2.2.2).2.2 r hr)).2.2.1
  omega
theorem outs_none {l : List RuleD} {i : List Int} : (outsL l i).length = 0 ↔ ∀ r, r ∈ l → matchC r.1 i = false := by
  unfold outsL
  rw [List.length_map, List.length_eq_zero_iff, List.filter_eq_nil_iff]
  simp
theorem gap_least {t : TabD} {a : BoxD} (h : fitsB t a = true) (hp : t.pol ≠ 7) : Least a (fun i => decide ((outsL t.rules i).length = 0)) (gapV t a) := by
  obtain ⟨hg, hl, hr⟩ := fits_rules h
  unfold gapV
  rw [if_pos ⟨hp, h⟩, restBox_eq, if_pos hg]
  obtain ⟨r1, _, _, r4⟩ := restF_all hg (areasL t.rules a) _ (Nat.le_refl _)
  rw [List.take_length] at r1 r4
  refine least_small (fun b hb => (goodBox_iff.1 (r1 b hb)).2) (fun i => ?_)
  have hc : (∃ b, b ∈ restF a (areasL t.rules a) ∧ hasBox b i = true) ↔ 0 < cntBox (restF a (areasL t.rules a)) i := by
    unfold cntBox; rw [List.countP_pos_iff]
  rw [hc, r4]
  have hin : inGood a.length (areasL t.rules a) i = true ↔ hasBox a i = true ∧ ∃ r, r ∈ t.rules ∧ matchC r.1 i = true := by
    unfold inGood
    rw [List.any_eq_true]
    constructor
    · rintro ⟨b, hb, h2⟩
      obtain ⟨r, hr', he⟩ := List.mem_filterMap.1 hb
      unfold areaO at he
      split at he
      · injection he with he
        subst he
        simp only [Bool.and_eq_true] at h2
        rw [area_has (goodBox_iff.1 hg).2 (hr r hr')] at h2
        simp only [Bool.and_eq_true] at h2
        exact ⟨h2.2.1, r, hr', h2.2.2⟩
      · cases he
    · rintro ⟨h1, r, hr', hm⟩
      have hok : areaOk r.1 a = true := by
        cases hh : areaOk r.1 a
        · have := area_none (hr r hr') hg hh i
          rw [h1, hm] at this; cases this
        · rfl
      refine ⟨areaL r.1 a, List.mem_filterMap.2 ⟨r, hr', by simp [areaO, hok]⟩, ?_⟩
      rw [area_good hok, area_has (goodBox_iff.1 hg).2 (hr r hr'), h1, hm]; rfl
  have hb : ∀ b : Bool, 0 < bit b ↔ b = true := fun b => by cases b <;> simp [bit]
  rw [hb]
  simp only [Bool.and_eq_true, Bool.not_eq_true', decide_eq_true_eq, outs_none]
  constructor
  · rintro ⟨h1, h2⟩
    refine ⟨h1, fun r hr' => ?_⟩
    cases hm : matchC r.1 i
    · rfl
    · have := hin.2 ⟨h1, r, hr', hm⟩
      rw [h2] at this; cases this
  · rintro ⟨h1, h2⟩
    refine ⟨h1, ?_⟩
    cases hh : inGood a.length (areasL t.rules a) i
    · rfl
    · obtain ⟨_, r, hr', hm⟩ := hin.1 hh
      rw [h2 r hr'] at hm; cases hm

def pairB (p : Int) (pre : List Int) : List Int → Bool
  | [] => false
  | a :: l => pre.any (forbidsB p a) || pairB p (pre ++ [a]) l
theorem pair_one (l : List Int) : ∀ pre, pairB 1 pre l = (decide (0 < pre.length ∧ 0 < l.length) || decide (1 < l.length)) := by
  induction l with
  | nil => intro pre; simp [pairB]
  | cons a l ih =>
    intro pre
    simp only [pairB, ih]
    have : pre.any (forbidsB 1 a) = decide (0 < pre.length) := by cases pre <;> simp [forbidsB]
    rw [this]
    cases pre <;> cases l <;> simp
theorem pair_two (l : List Int) : ∀ pre, pairB 2 pre l = false ↔ (∀ x, x ∈ l → ∀ y, y ∈ pre → x = y) ∧ ∀ x, x ∈ l → ∀ y, y ∈ l → x = y := by
  induction l with
  | nil => intro pre; simp [pairB]
  | cons a l ih =>
    intro pre
    simp only [pairB, Bool.or_eq_false_iff, ih]
    have : pre.any (forbidsB 2 a) = false ↔ ∀ y, y ∈ pre → a = y := by
      rw [List.any_eq_false]
      exact ⟨fun h y hy => by simpa [forbidsB] using h y hy, fun h y hy => by simp [forbidsB, h y hy]⟩
    rw [this]
    constructor
    · rintro ⟨h1, h2, h3⟩
      refine ⟨fun x hx y hy => ?_, fun x hx y hy => ?_⟩
      · rcases List.mem_cons.1 hx with rfl | hx
        · exact h1 y hy
        · exact h2 x hx y (by simp [hy])
      · rcases List.mem_cons.1 hx with ex | hx' <;> rcases List.mem_cons.1 hy with ey | hy'
        · rw [ex, ey]
        · rw [ex]; exact (h2 y hy' a (by simp)).symm
        · rw [ey]; exact h2 x hx' a (by simp)
        · exact h3 x hx' y hy'
    · rintro ⟨h1, h2⟩
      refine ⟨fun y hy => h1 a (by simp) y hy, fun x hx y hy => ?_, fun x hx y hy => h2 x (by simp [hx]) y (by simp [hy])⟩
      rcases List.mem_append.1 hy with hy | hy
      · exact h1 x (by simp [hx]) y hy
      · simp at hy; subst hy; exact h2 x (by simp [hx]) y (by simp)
theorem pair_other {p : Int} (h1 : p ≠ 1) (h2 : p ≠ 2) (l : List Int) : ∀ pre, pairB p pre l = false := by
  induction l with
  | nil => intro pre; rfl
  | cons a l ih => intro pre; simp [pairB, ih, forbidsB, h1, h2]
theorem pair_conflict (p : Int) (l : List Int) : pairB p [] l = conflictB p l := by
  by_cases h1 : p = 1
  · subst h1; rw [pair_one, conflict_one]; simp
  · by_cases h2 : p = 2
    · subst h2
      have : pairB 2 [] l = false ↔ conflictB 2 l = false := by rw [pair_two, conflict_two]; simp
      cases ha : pairB 2 [] l <;> cases hb : conflictB 2 l <;> simp_all
    · rw [pair_other h1 h2, conflict_other h1 h2]

theorem over_has {p : Int} {a : BoxD} {r s : RuleD} (hg : goodBox a a.length = true) (hr : r.1.length = a.length) (hs : s.1.length = a.length) (i : List Int) (hi : hasBox a i = true) :
    (match overV p a r s with | some b => hasBox b i | none => false) = (forbidsB p r.2 s.2 && matchC r.1 i && matchC s.1 i) := by
  unfold overV
  cases hf : forbidsB p r.2 s.2
  · simp
  · cases h1 : areaOk r.1 a
    · have := area_none hr hg h1 i
      rw [hi] at this
      have hm : matchC r.1 i = false := by simpa using this
      simp [hm]
    · have hg1 := area_good h1
      have e1 := area_length hr
      have hh1 : hasBox (areaL r.1 a) i = matchC r.1 i := by rw [area_has (goodBox_iff.1 hg).2 hr, hi]; rfl
      have hg1' : goodBox (areaL r.1 a) (areaL r.1 a).length = true := by rw [e1]; exact hg1
      cases h2 : areaOk s.1 (areaL r.1 a)
      · have := area_none (by rw [e1]; exact hs) hg1' h2 i
        rw [hh1] at this
        simp [this]
      · simp only [Bool.true_and, Bool.and_self, if_true]
        rw [area_has (goodBox_iff.1 hg1').2 (by rw [e1]; exact hs), hh1]
theorem over_good {p : Int} {a : BoxD} {r s : RuleD} {b : BoxD} (h : overV p a r s = some b) : setsB b = true := by
  unfold overV at h
  split at h
  · rename_i hc
    injection h with h
    subst h
    simp only [Bool.and_eq_true] at hc
    exact (goodBox_iff.1 (area_good hc.2.2)).2
  · cases h
theorem clash_good {p : Int} {a : BoxD} {l : List RuleD} : ∀ {pre : List RuleD} {b : BoxD}, b ∈ clashR p a pre l → setsB b = true := by
  induction l with
  | nil => intro pre b h; simp [clashR] at h
  | cons r l ih =>
    intro pre b h
    rcases List.mem_append.1 h with h | h
    · obtain ⟨s, _, he⟩ := List.mem_filterMap.1 h
      exact over_good he
    · exact ih h
theorem over_any {p : Int} {a : BoxD} {r : RuleD} (hg : goodBox a a.length = true) (hr : r.1.length = a.length) (i : List Int) (hi : hasBox a i = true) (pre : List RuleD) (hs : ∀ s, s ∈ pre → s.1.length = a.length) :
    (pre.filterMap (overV p a r)).any (fun b => hasBox b i) = (matchC r.1 i && (outsL pre i).any (forbidsB p r.2)) := by
  induction pre with
  | nil => simp [outsL]
  | cons s pre ih =>
    have ih' := ih (fun s hs' => hs s (by simp [hs']))
    have ho := over_has (p := p) hg hr (hs s (by simp)) i hi
    have eo : (outsL (s :: pre) i).any (forbidsB p r.2) = ((matchC s.1 i && forbidsB p r.2 s.2) || (outsL pre i).any (forbidsB p r.2)) := by
      unfold outsL
      cases hm : matchC s.1 i <;> simp [hm]
    rw [eo]
    cases hov : overV p a r s with
    | none =>
      rw [hov] at ho
      simp only [List.filterMap_cons, hov, ih']
      simp only at ho
      revert ho
      cases matchC r.1 i <;> cases matchC s.1 i <;> cases forbidsB p r.2 s.2 <;> simp
    | some b =>
      rw [hov] at ho
      simp only [List.filterMap_cons, hov, List.any_cons, ih']
      simp only at ho
      rw [ho]
      cases matchC r.1 i <;> cases matchC s.1 i <;> cases forbidsB p r.2 s.2 <;> simp
theorem clash_any {p : Int} {a : BoxD} (hg : goodBox a a.length = true) (i : List Int) (hi : hasBox a i = true) (l : List RuleD) : ∀ (pre : List RuleD), (∀ s, s ∈ pre → s.1.length = a.length) → (∀ s, s ∈ l → s.1.length = a.length) →
    (clashR p a pre l).any (fun b => hasBox b i) = pairB p (outsL pre i) (outsL l i) := by
  induction l with
  | nil => intro pre _ _; rfl
  | cons r l ih =>
    intro pre hp hl
    have h1 := ih (pre ++ [r]) (fun s hs => by rcases List.mem_append.1 hs with h | h; exact hp s h; simp at h; subst h; exact hl s (by simp)) (fun s hs => hl s (by simp [hs]))
    have h2 := over_any (p := p) hg (hl r (by simp)) i hi pre hp
    simp only [clashR, List.any_append, h1, h2]
    unfold outsL
    cases hm : matchC r.1 i <;> simp [hm, pairB]
theorem clash_least {t : TabD} {a : BoxD} (h : fitsB t a = true) : Least a (fun i => conflictB t.pol (outsL t.rules i)) (clashV t a) := by
  obtain ⟨hg, hl, hr⟩ := fits_rules h
  unfold clashV
  rw [if_pos h]
  refine least_small (fun b hb => clash_good hb) (fun i => ?_)
  have hall : ∀ b, b ∈ clashR t.pol a [] t.rules → hasBox b i = true → hasBox a i = true := by
    have key : ∀ (l pre : List RuleD), (∀ s, s ∈ pre → s.1.length = a.length) → (∀ s, s ∈ l → s.1.length = a.length) → ∀ b, b ∈ clashR t.pol a pre l → hasBox b i = true → hasBox a i = true := by
      intro l
      induction l with
      | nil => intro pre _ _ b hb; simp [clashR] at hb
      | cons r l ih =>
        intro pre hp hl' b hb hbi
        rcases List.mem_append.1 hb with hb | hb
        · obtain ⟨s, hs, he⟩ := List.mem_filterMap.1 hb
          unfold overV at he
          split at he
          · rename_i hc
            injection he with he
            subst he
            simp only [Bool.and_eq_true] at hc
            have hr1 := hl' r (by simp)
            have e1 := area_length hr1
            have hg1' : goodBox (areaL r.1 a) (areaL r.1 a).length = true := by rw [e1]; exact area_good hc.2.1
            rw [area_has (goodBox_iff.1 hg1').2 (by rw [e1]; exact hp s hs), area_has (goodBox_iff.1 hg).2 hr1] at hbi
            simp only [Bool.and_eq_true] at hbi
            exact hbi.1.1
          · cases he
        · exact ih (pre ++ [r]) (fun s hs => by rcases List.mem_append.1 hs with h | h; exact hp s h; simp at h; subst h; exact hl' s (by simp)) (fun s hs => hl' s (by simp [hs])) b hb hbi
    exact key t.rules [] (fun s hs => by simp at hs) hr
  have hany := fun hi => clash_any (p := t.pol) hg i hi t.rules [] (fun s hs => by simp at hs) hr
  constructor
  · rintro ⟨b, hb, hbi⟩
    have hi := hall b hb hbi
    refine ⟨hi, ?_⟩
    rw [← pair_conflict]
    show pairB t.pol (outsL [] i) (outsL t.rules i) = true
    rw [← hany hi, List.any_eq_true]
    exact ⟨b, hb, hbi⟩
  · rintro ⟨hi, hc⟩
    rw [← pair_conflict] at hc
    have hc' : pairB t.pol (outsL [] i) (outsL t.rules i) = true := hc
    rw [← hany hi, List.any_eq_true] at hc'
    exact hc'

end Go.Proofs.YtmdljknlbmlacabGreatDoor
namespace Go.Proofs.YtmdljknlbmlacabGreatDoor

theorem saysO_code {p : Int} {o : List Int} : (saysO p o).2.2 = if conflictB p o then 4 else 0 := by
  unfold saysO
  by_cases h : o.length = 0 ∧ p ≠ 7
  · rw [if_pos h, List.length_eq_zero_iff.1 h.1]; rfl
  · rw [if_neg h]
    cases conflictB p o <;> rfl
theorem saysO_none {p : Int} {o : List Int} (hp : p ≠ 7) (h : o.length = 0) : saysO p o = (0, false, 0) := by
  unfold saysO; rw [if_pos ⟨h, hp⟩]
theorem saysO_some {p : Int} {o : List Int} (h : p = 7 ∨ o.length ≠ 0) (hc : (saysO p o).2.2 = 0) : saysO p o = (combineV p o, true, 0) := by
  rw [saysO_code] at hc
  have hc' : conflictB p o = false := by
    cases h' : conflictB p o
    · rfl
    · rw [h'] at hc; simp at hc
  unfold saysO
  rw [if_neg (by rintro ⟨h1, h2⟩; rcases h with h | h; exact h2 h; exact h h1), hc']; rfl

theorem sum_outs (l : List RuleD) (i : List Int) : (l.map fun r => min r.2 0).sum ≤ (outsL l i).sum ∧ (outsL l i).sum ≤ (l.map fun r => max r.2 0).sum := by
  induction l with
  | nil => simp [outsL]
  | cons r l ih =>
    unfold outsL at ih ⊢
    cases hm : matchC r.1 i
    · simp only [List.map_cons, List.sum_cons, List.filter_cons, hm]
      simp only [Bool.false_eq_true, if_false]
      omega
    · simp only [List.map_cons, List.sum_cons, List.filter_cons, hm]
      simp only [if_true, List.map_cons, List.sum_cons]
      omega
theorem outs_sub {l : List RuleD} {i : List Int} {x : Int} (h : x ∈ outsL l i) : x ∈ l.map (·.2) := by
  obtain ⟨r, hr, _, rfl⟩ := outsL_mem h
  exact List.mem_map.2 ⟨r, hr, rfl⟩

theorem whole_facts {t : TabD} {a : BoxD} {l : List Int} (hg : goodT t = true) (hb : goodBox a t.ins.length = true) (hl : hasBox a l = true) :
    (¬ ((gapV t a).2 = false ∧ (saysV t l).2.2 = 0 ∧ (saysV t l).2.1 = false)) ∧ ((gapV t a).2 = true → saysV t (gapV t a).1 = (0, false, 0) ∧ hasBox a (gapV t a).1 = true) ∧
    ((saysV t l).2.1 = true → (spanV t).1 ≤ (saysV t l).1 ∧ (saysV t l).1 ≤ (spanV t).2) := by
  have hf : fitsB t a = true := by simp [fitsB, hg, hb]
  have hal : a.length = t.ins.length := (fits_rules hf).2.1
  have hll : l.length = t.ins.length := by rw [← hal]; exact hasBox_length hl
  have hs : saysV t l = saysO t.pol (outsL t.rules l) := by unfold saysV; rw [if_pos ⟨hg, hll⟩]
  refine ⟨?_, ?_, ?_⟩
  · rintro ⟨h1, h2, h3⟩
    rw [hs] at h2 h3
    by_cases hp : t.pol = 7
    · rw [saysO_some (.inl hp) h2] at h3; cases h3
    · have := ((gap_least hf hp).2 h1).2 l hl
      have h0 : (outsL t.rules l).length ≠ 0 := by simpa using this
      rw [saysO_some (.inr h0) h2] at h3; cases h3
  · intro h1
    by_cases hp : t.pol = 7
    · unfold gapV at h1; rw [if_neg (fun h => h.1 hp)] at h1; cases h1
    · obtain ⟨h2, h3, _⟩ := (gap_least hf hp).1 h1
      have h0 : (outsL t.rules (gapV t a).1).length = 0 := by simpa using h3
      refine ⟨?_, h2⟩
      unfold saysV
      rw [if_pos ⟨hg, by rw [← hal]; exact hasBox_length h2⟩]
      exact saysO_none hp h0
  · intro h1
    rw [hs] at h1 ⊢
    have hrl : 0 < t.rules.length := (goodRs_iff.1 (goodT_iff.1 hg).2.2.2.2).1
    have hm0 : 0 < (t.rules.map (·.2)).length := by rw [List.length_map]; exact hrl
    have hcode : (saysO t.pol (outsL t.rules l)).2.2 = 0 := by
      rw [saysO_code]
      unfold saysO at h1
      by_cases h : (outsL t.rules l).length = 0 ∧ t.pol ≠ 7
      · rw [if_pos h] at h1; cases h1
      · rw [if_neg h] at h1
        cases hc : conflictB t.pol (outsL t.rules l)
        · rfl
        · rw [hc] at h1; cases h1
    have hne : t.pol = 7 ∨ (outsL t.rules l).length ≠ 0 := by
      by_cases hp : t.pol = 7
      · exact .inl hp
      · right
        intro h0
        rw [saysO_none hp h0] at h1; cases h1
    rw [saysO_some hne hcode]
    show (spanV t).1 ≤ combineV t.pol (outsL t.rules l) ∧ combineV t.pol (outsL t.rules l) ≤ (spanV t).2
    unfold spanV
    rw [if_pos hg]
    have hin : ∀ x, x ∈ outsL t.rules l → minL (t.rules.map (·.2)) ≤ x ∧ x ≤ maxL (t.rules.map (·.2)) := fun x hx => ⟨(minL_spec hm0).2 x (outs_sub hx), (maxL_spec hm0).2 x (outs_sub hx)⟩
    by_cases h7 : t.pol = 7
    · rw [if_pos h7]
      unfold combineV
      rw [h7]
      have := outsL_length t.rules l
      simp only [show (7 : Int) ≠ 4 from by decide, show (7 : Int) ≠ 5 from by decide, show (7 : Int) ≠ 6 from by decide, if_false, if_true]
      omega
    · rw [if_neg h7]
      have h0 : 0 < (outsL t.rules l).length := by
        rcases hne with h | h
        · exact absurd h h7
        · omega
      by_cases h6 : t.pol = 6
      · rw [if_pos h6]
        unfold combineV
        rw [h6]
        simp only [show (6 : Int) ≠ 4 from by decide, show (6 : Int) ≠ 5 from by decide, if_false, if_true]
        exact sum_outs t.rules l
      · rw [if_neg h6]
        unfold combineV
        by_cases h4 : t.pol = 4
        · rw [if_pos h4]; exact hin _ (minL_spec h0).1
        · rw [if_neg h4]
          by_cases h5 : t.pol = 5
          · rw [if_pos h5]; exact hin _ (maxL_spec h0).1
          · rw [if_neg h5, if_neg h6, if_neg h7]
            refine hin _ ?_
            cases ho : outsL t.rules l with
            | nil => rw [ho] at h0; simp at h0
            | cons x o => simp

theorem one_facts {t : TabD} {a : BoxD} {l : List Int} (hg : goodT t = true) (hb : goodBox a t.ins.length = true) (hl : hasBox a l = true) :
    ((clashV t a).2 = true → (saysV t (clashV t a).1).2.2 = 4 ∧ hasBox a (clashV t a).1 = true) ∧ ((clashV t a).2 = false → (saysV t l).2.2 = 0) := by
  have hf : fitsB t a = true := by simp [fitsB, hg, hb]
  have hal : a.length = t.ins.length := (fits_rules hf).2.1
  have hll : l.length = t.ins.length := by rw [← hal]; exact hasBox_length hl
  refine ⟨fun h1 => ?_, fun h1 => ?_⟩
  · obtain ⟨h2, h3, _⟩ := (clash_least hf).1 h1
    refine ⟨?_, h2⟩
    unfold saysV
    rw [if_pos ⟨hg, by rw [← hal]; exact hasBox_length h2⟩, saysO_code, show conflictB t.pol (outsL t.rules (clashV t a).1) = true from h3]; rfl
  · have := ((clash_least hf).2 h1).2 l hl
    unfold saysV
    rw [if_pos ⟨hg, hll⟩, saysO_code, show conflictB t.pol (outsL t.rules l) = false from this]; rfl

def lessK : List Int → List Int → Bool
  | [], _ => false
  | _ :: _, [] => false
  | a :: l, b :: m => if a = b then lessK l m else decide (a < b)
theorem lessK_eq {a : List Int} : ∀ {b : List Int}, a.length = b.length → lessK a b = lexLt a b := by
  induction a with
  | nil => intro b h; cases b with
    | nil => rfl
    | cons y b => simp at h
  | cons x a ih =>
    intro b h
    cases b with
    | nil => simp at h
    | cons y b =>
      have := ih (b := b) (by simpa using h)
      unfold lexLt at this ⊢
      simp only [lessK, cmpL]
      by_cases hxy : x = y
      · subst hxy; simp [this]
      · rw [if_neg hxy]
        by_cases h1 : x < y
        · simp [h1]
        · have h2 : y < x := by omega
          simp [h1, h2]
theorem least_facts {t : TabD} {a : BoxD} {l : List Int} (hg : goodT t = true) (hb : goodBox a t.ins.length = true) (hl : hasBox a l = true) :
    ((saysV t l).2.1 = true ∨ (saysV t l).2.2 ≠ 0 ∨ ((gapV t a).2 = true ∧ lessK l (gapV t a).1 = false)) ∧ ((saysV t l).2.2 ≠ 4 ∨ ((clashV t a).2 = true ∧ lessK l (clashV t a).1 = false)) := by
  have hf : fitsB t a = true := by simp [fitsB, hg, hb]
  have hal : a.length = t.ins.length := (fits_rules hf).2.1
  have hll : l.length = t.ins.length := by rw [← hal]; exact hasBox_length hl
  have hs : saysV t l = saysO t.pol (outsL t.rules l) := by unfold saysV; rw [if_pos ⟨hg, hll⟩]
  rw [hs]
  refine ⟨?_, ?_⟩
  · by_cases hc : (saysO t.pol (outsL t.rules l)).2.2 = 0
    · by_cases hp : t.pol = 7
      · left; rw [saysO_some (.inl hp) hc]
      · by_cases h0 : (outsL t.rules l).length = 0
        · right; right
          have hG := gap_least hf hp
          have h2 : (gapV t a).2 = true := by
            cases h : (gapV t a).2
            · have := (hG.2 h).2 l hl
              simp [h0] at this
            · rfl
          refine ⟨h2, ?_⟩
          obtain ⟨h3, _, h5⟩ := hG.1 h2
          rw [lessK_eq (by rw [hasBox_length hl, hasBox_length h3])]
          exact h5 l hl (by simpa using h0)
        · left; rw [saysO_some (.inr h0) hc]
    · exact .inr (.inl hc)
  · rw [saysO_code]
    cases hc : conflictB t.pol (outsL t.rules l)
    · left; simp
    · right
      have hG := clash_least hf
      have h2 : (clashV t a).2 = true := by
        cases h : (clashV t a).2
        · have : conflictB t.pol (outsL t.rules l) = false := (hG.2 h).2 l hl
          rw [hc] at this; cases this
        · rfl
      refine ⟨h2, ?_⟩
      obtain ⟨h3, _, h5⟩ := hG.1 h2
      rw [lessK_eq (by rw [hasBox_length hl, hasBox_length h3])]
      exact h5 l hl hc

end Go.Proofs.YtmdljknlbmlacabGreatDoor
