/- Books as Lean data: what is found, the boxes of tables, their order, what is checked and what is asked. No condition; no program is named. -/
import Derived.Test.YthnfkghgaagaiabTabsSays
import Derived.Test.YthnfkghgaagaiabTxt
namespace Go.Proofs.Ythnfkghgaagaiab

structure BookD where
  doms : List DomD
  tabs : List TabD

def findD (l : List DomD) (s : ByteArray) : Option DomD := l.find? fun d => sameS d.1 s
def findT (l : List TabD) (s : ByteArray) : Option TabD := l.find? fun t => sameS t.name s
def allO (b : BookD) (s : ByteArray) : Option (Int × Int) :=
  match findD b.doms s with
  | some d => some (d.2.1, d.2.2)
  | none => (findT b.tabs s).map spanV
def inBd (n : Int) : Bool := decide (-1000000 ≤ n) && decide (n ≤ 1000000)
def rngO (b : BookD) (s : ByteArray) : Option (Int × Int) :=
  match allO b s with
  | some r => if inBd r.1 && inBd r.2 then some r else none
  | none => none
def boxOk (b : BookD) (l : List ByteArray) : Bool := l.all fun s => (rngO b s).isSome
def boxL (b : BookD) (l : List ByteArray) : BoxD := l.map fun s => [(rngO b s).getD (0, 0)]
def boxV (b : BookD) (t : TabD) : BoxD × Bool := if boxOk b t.ins then (boxL b t.ins, true) else ([], false)

def hasN (l : List ByteArray) (s : ByteArray) : Bool := l.any (sameS s)
def waitsB (wait : List ByteArray) (t : TabD) : Bool := t.ins.any (hasN wait)
def readyT (wait : List ByteArray) (t : TabD) : Bool := hasN wait t.name && !waitsB wait t
def dropN (l : List ByteArray) (s : ByteArray) : List ByteArray := l.filter fun x => !sameS x s
def orderF (ts : List TabD) : Nat → List ByteArray → Option (List ByteArray)
  | 0, _ => some []
  | n + 1, wait => match ts.find? (readyT wait) with
    | none => none
    | some t => (orderF ts n (dropN wait t.name)).map (t.name :: ·)
def namesT (ts : List TabD) : List ByteArray := ts.map (·.name)
def orderO (ts : List TabD) : Option (List ByteArray) := orderF ts ts.length (namesT ts)

def leS (a b : ByteArray) : Bool := Op.bytesLess a.toList b.toList || a.toList == b.toList
/-- rising: none is at most the one ahead of it -/
def riseF {α : Type} (f : α → ByteArray) : List α → Bool
  | [] => true
  | [_] => true
  | a :: b :: l => !leS (f b) (f a) && riseF f (b :: l)
def goodDs (l : List DomD) : Bool := l.all goodD && riseF (·.1) l
def goodTs (b : BookD) : Bool := b.tabs.all goodT && riseF (·.name) b.tabs && b.tabs.all fun t => (findD b.doms t.name).isNone
def badT (b : BookD) (t : TabD) : Option (List Int × Int) :=
  if (clashV t (boxL b t.ins)).2 then some ((clashV t (boxL b t.ins)).1, 8)
  else if t.comp && (gapV t (boxL b t.ins)).2 then some ((gapV t (boxL b t.ins)).1, 7)
  else none
def noS : ByteArray := ⟨#[]⟩
def checkV (b : BookD) : ByteArray × List Int × Int :=
  if 4 < b.doms.length ∨ 4 < b.tabs.length then (noS, [], 11)
  else if goodDs b.doms = false ∨ goodTs b = false then (noS, [], 1)
  else match b.tabs.find? (fun t => !boxOk b t.ins) with
    | some t => (t.name, [], 3)
    | none => match orderO b.tabs with
      | none => (noS, [], 6)
      | some _ => match b.tabs.find? (fun t => (badT b t).isSome) with
        | some t => (t.name, (badT b t).getD ([], 0))
        | none => (noS, [], 0)

/-- Name, Found, N -/
abbrev AnsD := ByteArray × Bool × Int
def foundA (k : ByteArray → Option AnsD) (s : ByteArray) : Bool := ((k s).map (·.2.1)).getD false
def numA (k : ByteArray → Option AnsD) (s : ByteArray) : Int := ((k s).map (·.2.2)).getD 0
def ansOf (k : ByteArray → Option AnsD) (t : TabD) : AnsD :=
  if t.ins.all (foundA k) then (t.name, (saysV t (t.ins.map (numA k))).2.1, (saysV t (t.ins.map (numA k))).1) else (t.name, false, 0)
def putA (k : ByteArray → Option AnsD) (s : ByteArray) (a : AnsD) : ByteArray → Option AnsD := fun x => if sameS x s then some a else k x
def domK : List DomD → List Int → (ByteArray → Option AnsD) → ByteArray → Option AnsD
  | d :: l, n :: m, k => domK l m (putA k d.1 (d.1, true, n))
  | _, _, k => k
def askK (ts : List TabD) : List ByteArray → (ByteArray → Option AnsD) → ByteArray → Option AnsD
  | [], k => k
  | s :: l, k => askK ts l (putA k s (ansOf k ((findT ts s).getD ⟨noS, 0, false, [], []⟩)))
def inDoms : List DomD → List Int → Bool
  | d :: l, n :: m => decide (d.2.1 ≤ n) && decide (n ≤ d.2.2) && inDoms l m
  | _, _ => true
def askR (b : BookD) (l : List Int) : ByteArray → Option AnsD := askK b.tabs ((orderO b.tabs).getD []) (domK b.doms l fun _ => none)
def zeroA : AnsD := (noS, false, 0)
def askV (b : BookD) (l : List Int) : List AnsD × Int :=
  if (checkV b).2.2 ≠ 0 then ([], (checkV b).2.2)
  else if l.length ≠ b.doms.length then ([], 1)
  else if inDoms b.doms l = false then ([], 2)
  else (b.tabs.map fun t => (askR b l t.name).getD zeroA, 0)

/- names -/
theorem sameS_eq {s t : ByteArray} : sameS s t = true ↔ s = t := by
  unfold sameS
  rw [ByteArray.toList_eq, ByteArray.toList_eq]
  constructor
  · intro h
    have h' : s.data.toList = t.data.toList := by simpa using h
    cases s; cases t
    simp at h'
    rw [h']
  · intro h; subst h; simp
theorem sameS_comm (s t : ByteArray) : sameS s t = sameS t s := by
  have : sameS s t = true ↔ sameS t s = true := by rw [sameS_eq, sameS_eq]; exact eq_comm
  cases h : sameS s t <;> cases h' : sameS t s <;> simp_all
theorem sameS_refl (s : ByteArray) : sameS s s = true := sameS_eq.2 rfl
theorem sameS_ne {s t : ByteArray} : sameS s t = false ↔ s ≠ t := by rw [← Bool.not_eq_true, sameS_eq]
theorem hasN_iff {l : List ByteArray} {s : ByteArray} : hasN l s = true ↔ s ∈ l := by
  unfold hasN; rw [List.any_eq_true]
  exact ⟨fun ⟨x, h1, h2⟩ => by rw [sameS_eq.1 h2]; exact h1, fun h => ⟨s, h, sameS_refl s⟩⟩
theorem hasN_false {l : List ByteArray} {s : ByteArray} : hasN l s = false ↔ s ∉ l := by rw [← Bool.not_eq_true, hasN_iff]
theorem mem_dropN {l : List ByteArray} {s x : ByteArray} : x ∈ dropN l s ↔ x ∈ l ∧ x ≠ s := by
  unfold dropN; rw [List.mem_filter]; simp [sameS_ne]
theorem dropN_nodup {l : List ByteArray} (s : ByteArray) (h : l.Nodup) : (dropN l s).Nodup := h.filter _
theorem dropN_length {l : List ByteArray} {s : ByteArray} (h : l.Nodup) (hs : s ∈ l) : (dropN l s).length + 1 = l.length := by
  induction l with
  | nil => simp at hs
  | cons a l ih =>
    rw [List.nodup_cons] at h
    by_cases e : a = s
    · subst e
      have : dropN (a :: l) a = l := by
        unfold dropN
        rw [List.filter_cons, sameS_refl]
        simp only [Bool.not_true, Bool.false_eq_true, if_false]
        rw [List.filter_eq_self]
        intro x hx
        have : x ≠ a := fun e => h.1 (e ▸ hx)
        rw [sameS_ne.2 this]; rfl
      rw [this]; simp
    · have hs' : s ∈ l := by
        rcases List.mem_cons.1 hs with h | h
        · exact absurd h.symm e
        · exact h
      have := ih h.2 hs'
      have e2 : dropN (a :: l) s = a :: dropN l s := by
        unfold dropN
        rw [List.filter_cons, sameS_ne.2 e]; rfl
      rw [e2]; simp; omega

theorem findT_some {l : List TabD} {s : ByteArray} {t : TabD} (h : findT l s = some t) : t ∈ l ∧ t.name = s := by
  have h1 := List.mem_of_find?_eq_some h
  have h2 := List.find?_some h
  exact ⟨h1, sameS_eq.1 h2⟩
theorem findT_none {l : List TabD} {s : ByteArray} : findT l s = none ↔ s ∉ namesT l := by
  unfold findT namesT
  rw [List.find?_eq_none]
  simp only [List.mem_map, not_exists, not_and]
  exact ⟨fun h t ht e => h t ht (sameS_eq.2 e), fun h t ht e => h t ht (sameS_eq.1 e)⟩
theorem findT_isSome {l : List TabD} {s : ByteArray} : (findT l s).isSome = true ↔ s ∈ namesT l := by
  cases h : findT l s
  · simp [findT_none.1 h]
  · rename_i t
    obtain ⟨h1, h2⟩ := findT_some h
    simp only [Option.isSome_some, true_iff]
    exact List.mem_map.2 ⟨t, h1, h2⟩
theorem nodup_name {l : List TabD} (h : (namesT l).Nodup) {t u : TabD} (ht : t ∈ l) (hu : u ∈ l) (e : t.name = u.name) : t = u := by
  induction l with
  | nil => simp at ht
  | cons a l ih =>
    simp only [namesT, List.map_cons, List.nodup_cons] at h
    rcases List.mem_cons.1 ht with e1 | ht <;> rcases List.mem_cons.1 hu with e2 | hu
    · rw [e1, e2]
    · exact absurd (List.mem_map.2 ⟨u, hu, by rw [← e, e1]⟩) h.1
    · exact absurd (List.mem_map.2 ⟨t, ht, by rw [e, e2]⟩) h.1
    · exact ih h.2 ht hu
theorem findT_mem {l : List TabD} (h : (namesT l).Nodup) {t : TabD} (ht : t ∈ l) : findT l t.name = some t := by
  cases hf : findT l t.name with
  | none => exact absurd (List.mem_map.2 ⟨t, ht, rfl⟩) (findT_none.1 hf)
  | some u =>
    obtain ⟨h1, h2⟩ := findT_some hf
    rw [nodup_name h h1 ht h2]

/- the order -/
/-- each name stands behind those on which its table waits -/
inductive Placed (ts : List TabD) : List ByteArray → List ByteArray → Prop
  | nil : Placed ts [] []
  | cons {wait l : List ByteArray} {t : TabD} : t ∈ ts → t.name ∈ wait → (∀ s, s ∈ t.ins → s ∉ wait) → Placed ts (dropN wait t.name) l → Placed ts wait (t.name :: l)
theorem ready_iff {wait : List ByteArray} {t : TabD} : readyT wait t = true ↔ t.name ∈ wait ∧ ∀ s, s ∈ t.ins → s ∉ wait := by
  unfold readyT waitsB
  rw [Bool.and_eq_true, hasN_iff, Bool.not_eq_true', List.any_eq_false]
  constructor
  · rintro ⟨h1, h2⟩; exact ⟨h1, fun s hs => hasN_false.1 (by simpa using h2 s hs)⟩
  · rintro ⟨h1, h2⟩; exact ⟨h1, fun s hs => by rw [hasN_false.2 (h2 s hs)]; simp⟩
theorem orderF_placed {ts : List TabD} : ∀ {n : Nat} {wait l : List ByteArray}, wait.Nodup → wait.length = n → orderF ts n wait = some l → Placed ts wait l := by
  intro n
  induction n with
  | zero =>
    intro wait l _ hl h
    obtain rfl := List.length_eq_zero_iff.1 hl
    simp [orderF] at h; subst h; exact .nil
  | succ n ih =>
    intro wait l hn hl h
    simp only [orderF] at h
    cases hf : ts.find? (readyT wait) with
    | none => rw [hf] at h; cases h
    | some t =>
      rw [hf] at h
      simp only [Option.map_eq_some_iff] at h
      obtain ⟨l', h1, rfl⟩ := h
      obtain ⟨r1, r2⟩ := ready_iff.1 (List.find?_some hf)
      have hd := dropN_length hn r1
      exact .cons (List.mem_of_find?_eq_some hf) r1 r2 (ih (dropN_nodup _ hn) (by omega) h1)
theorem Placed.length {ts : List TabD} {wait l : List ByteArray} (h : Placed ts wait l) (hn : wait.Nodup) : l.length = wait.length := by
  induction h with
  | nil => rfl
  | cons _ h2 _ _ ih =>
    have := dropN_length hn h2
    have := ih (dropN_nodup _ hn)
    simp; omega
theorem Placed.mem {ts : List TabD} {wait l : List ByteArray} (h : Placed ts wait l) : ∀ x, x ∈ l ↔ x ∈ wait := by
  induction h with
  | nil => intro x; simp
  | cons _ h2 _ _ ih =>
    rename_i wait l t _ _ _
    intro x
    rw [List.mem_cons, ih, mem_dropN]
    constructor
    · rintro (rfl | h)
      · exact h2
      · exact h.1
    · intro h
      by_cases e : x = t.name
      · exact .inl e
      · exact .inr ⟨h, e⟩
theorem Placed.nodup {ts : List TabD} {wait l : List ByteArray} (h : Placed ts wait l) : l.Nodup := by
  induction h with
  | nil => exact List.nodup_nil
  | cons _ h2 _ h4 ih =>
    rename_i wait l t
    rw [List.nodup_cons]
    exact ⟨fun hx => (mem_dropN.1 ((h4.mem _).1 hx)).2 rfl, ih⟩
/-- what a table waits for stands ahead of it -/
theorem Placed.before {ts : List TabD} {wait l : List ByteArray} (h : Placed ts wait l) (hu : (namesT ts).Nodup) (hw : ∀ s, s ∈ wait → s ∈ namesT ts) :
    ∀ {t : TabD} {s : ByteArray} {i j : Nat}, t ∈ ts → s ∈ t.ins → l[i]? = some t.name → l[j]? = some s → j < i := by
  induction h with
  | nil => intro t s i j _ _ h; simp at h
  | cons h1 h2 h3 h4 ih =>
    rename_i wait l u
    intro t s i j ht hs hi hj
    have ih' := @ih (fun s hs => hw s (mem_dropN.1 hs).1)
    have hnd : u.name ∉ l := fun hx => (mem_dropN.1 ((h4.mem _).1 hx)).2 rfl
    cases i with
    | zero =>
      simp at hi
      have : u = t := nodup_name hu h1 ht hi
      subst this
      have hsw : s ∈ wait := by
        have := List.mem_of_getElem? hj
        exact ((Placed.cons h1 h2 h3 h4).mem s).1 this
      exact absurd hsw (h3 s hs)
    | succ i =>
      cases j with
      | zero => omega
      | succ j =>
        simp at hi hj
        have := ih' ht hs hi hj
        omega
theorem orderO_facts {ts : List TabD} {l : List ByteArray} (hn : (namesT ts).Nodup) (h : orderO ts = some l) : Placed ts (namesT ts) l := orderF_placed hn (by simp [namesT]) h

/- the answers -/
theorem ansOf_congr {k k' : ByteArray → Option AnsD} {t : TabD} (h : ∀ s, s ∈ t.ins → k s = k' s) : ansOf k t = ansOf k' t := by
  have h1 : t.ins.all (foundA k) = t.ins.all (foundA k') := by
    have : ∀ l : List ByteArray, (∀ s, s ∈ l → k s = k' s) → l.all (foundA k) = l.all (foundA k') := by
      intro l
      induction l with
      | nil => intro _; rfl
      | cons s l ih => intro h; simp only [List.all_cons]; rw [ih fun x hx => h x (by simp [hx])]; unfold foundA; rw [h s (by simp)]
    exact this _ h
  have h2 : t.ins.map (numA k) = t.ins.map (numA k') := List.map_congr_left fun s hs => by unfold numA; rw [h s hs]
  unfold ansOf
  rw [h1, h2]
theorem putA_same (k : ByteArray → Option AnsD) (s : ByteArray) (a : AnsD) : putA k s a s = some a := by unfold putA; rw [sameS_refl]; rfl
theorem putA_other (k : ByteArray → Option AnsD) {s x : ByteArray} (a : AnsD) (h : x ≠ s) : putA k s a x = k x := by unfold putA; rw [sameS_ne.2 h]; rfl
theorem askK_spec {ts : List TabD} (hu : (namesT ts).Nodup) {wait l : List ByteArray} (h : Placed ts wait l) :
    ∀ k, (∀ x, x ∉ wait → askK ts l k x = k x) ∧ ∀ t, t ∈ ts → t.name ∈ wait → askK ts l k t.name = some (ansOf (askK ts l k) t) := by
  induction h with
  | nil => intro k; exact ⟨fun _ _ => rfl, fun t _ h => by simp at h⟩
  | cons h1 h2 h3 h4 ih =>
    rename_i wait l u
    intro k
    have e : (findT ts u.name).getD ⟨noS, 0, false, [], []⟩ = u := by rw [findT_mem hu h1]; rfl
    have ea : askK ts (u.name :: l) k = askK ts l (putA k u.name (ansOf k u)) := by simp only [askK, e]
    obtain ⟨i1, i2⟩ := ih (putA k u.name (ansOf k u))
    rw [ea]
    have key : ∀ x, x ∉ wait → askK ts l (putA k u.name (ansOf k u)) x = k x := by
      intro x hx
      rw [i1 x (fun hh => hx (mem_dropN.1 hh).1), putA_other _ _ (fun e => hx (by rw [e]; exact h2))]
    refine ⟨key, fun t ht hw => ?_⟩
    by_cases e2 : t.name = u.name
    · have : t = u := nodup_name hu ht h1 e2
      subst this
      rw [i1 t.name (fun hh => (mem_dropN.1 hh).2 rfl), putA_same]
      congr 1
      exact ansOf_congr fun s hs => (key s (h3 s hs)).symm
    · exact i2 t ht (mem_dropN.2 ⟨hw, e2⟩)

theorem says_span {t : TabD} {l : List Int} (hg : goodT t = true) (h1 : (saysV t l).2.1 = true) : (spanV t).1 ≤ (saysV t l).1 ∧ (saysV t l).1 ≤ (spanV t).2 := by
  have hll : l.length = t.ins.length := by
    by_cases h : l.length = t.ins.length
    · exact h
    · unfold saysV at h1; rw [if_neg (fun hh => h hh.2)] at h1; cases h1
  have hs : saysV t l = saysO t.pol (outsL t.rules l) := by unfold saysV; rw [if_pos ⟨hg, hll⟩]
  rw [hs] at h1 ⊢
  have hrl : 0 < t.rules.length := (goodRs_iff.1 (goodT_iff.1 hg).2.2.2.2).1
  have hm0 : 0 < (t.rules.map (·.2)).length := by rw [List.length_map]; exact hrl
  have hcode : (saysO t.pol (outsL t.rules l)).2.2 = 0 := by
    rw [saysO_code]
    unfold saysO at h1
    by_cases h : (outsL t.rules l).length = 0 ∧ t.pol ≠ 7
    · rw [if_pos h] at h1; cases h1
    · rw [if_neg h] at h1
      cases hc : conflictB t.pol (outsL t.rules l)
      · rfl
      · rw [hc] at h1; cases h1
  have hne : t.pol = 7 ∨ (outsL t.rules l).length ≠ 0 := by
    by_cases hp : t.pol = 7
    · exact .inl hp
    · right
      intro h0
      rw [saysO_none hp h0] at h1; cases h1
  rw [saysO_some hne hcode]
  show (spanV t).1 ≤ combineV t.pol (outsL t.rules l) ∧ combineV t.pol (outsL t.rules l) ≤ (spanV t).2
  unfold spanV
  rw [if_pos hg]
  have hin : ∀ x, x ∈ outsL t.rules l → minL (t.rules.map (·.2)) ≤ x ∧ x ≤ maxL (t.rules.map (·.2)) := fun x hx => ⟨(minL_spec hm0).2 x (outs_sub hx), (maxL_spec hm0).2 x (outs_sub hx)⟩
  by_cases h7 : t.pol = 7
  · rw [if_pos h7]
    unfold combineV
    rw [h7]
    have := outsL_length t.rules l
    simp only [show (7 : Int) ≠ 4 from by decide, show (7 : Int) ≠ 5 from by decide, show (7 : Int) ≠ 6 from by decide, if_false, if_true]
    omega
  · rw [if_neg h7]
    have h0 : 0 < (outsL t.rules l).length := by
      rcases hne with h | h
      · exact absurd h h7
      · omega
    by_cases h6 : t.pol = 6
    · rw [if_pos h6]
      unfold combineV
      rw [h6]
      simp only [show (6 : Int) ≠ 4 from by decide, show (6 : Int) ≠ 5 from by decide, if_false, if_true]
      exact sum_outs t.rules l
    · rw [if_neg h6]
      unfold combineV
      by_cases h4 : t.pol = 4
      · rw [if_pos h4]; exact hin _ (minL_spec h0).1
      · rw [if_neg h4]
        by_cases h5 : t.pol = 5
        · rw [if_pos h5]; exact hin _ (maxL_spec h0).1
        · rw [if_neg h5, if_neg h6, if_neg h7]
          refine hin _ ?_
          cases ho : outsL t.rules l with
          | nil => rw [ho] at h0; simp at h0
          | cons x o => simp
theorem span_le {t : TabD} (hg : goodT t = true) : (spanV t).1 ≤ (spanV t).2 := by
  have hrl : 0 < t.rules.length := (goodRs_iff.1 (goodT_iff.1 hg).2.2.2.2).1
  have hm0 : 0 < (t.rules.map (·.2)).length := by rw [List.length_map]; exact hrl
  have hsum : ∀ l : List RuleD, (l.map fun r => min r.2 0).sum ≤ (l.map fun r => max r.2 0).sum := by
    intro l
    induction l with
    | nil => simp
    | cons r l ih => simp only [List.map_cons, List.sum_cons]; omega
  unfold spanV
  rw [if_pos hg]
  split
  · simp
  · split
    · exact hsum _
    · exact (minL_spec hm0).2 _ (maxL_spec hm0).1

/- rising names are different -/
theorem bytesLess_irrefl (a : List UInt8) : Op.bytesLess a a = false := by
  induction a with
  | nil => rfl
  | cons x a ih => simp [Op.bytesLess, ih]
theorem bytesLess_trans {a : List UInt8} : ∀ {b c : List UInt8}, Op.bytesLess a b = true → Op.bytesLess b c = true → Op.bytesLess a c = true := by
  induction a with
  | nil =>
    intro b c h1 h2
    cases c with
    | nil => cases b <;> simp [Op.bytesLess] at h2
    | cons z c => rfl
  | cons x a ih =>
    intro b c h1 h2
    cases b with
    | nil => simp [Op.bytesLess] at h1
    | cons y b =>
      cases c with
      | nil => simp [Op.bytesLess] at h2
      | cons z c =>
        simp only [Op.bytesLess, Bool.or_eq_true, Bool.and_eq_true, decide_eq_true_eq, beq_iff_eq] at h1 h2 ⊢
        rcases h1 with h1 | ⟨rfl, h1⟩ <;> rcases h2 with h2 | ⟨rfl, h2⟩
        · exact .inl (UInt8.lt_trans h1 h2)
        · exact .inl h1
        · exact .inl h2
        · exact .inr ⟨rfl, ih h1 h2⟩
theorem bytesLess_total {a : List UInt8} : ∀ {b : List UInt8}, Op.bytesLess a b = false → a ≠ b → Op.bytesLess b a = true := by
  induction a with
  | nil =>
    intro b h1 h2
    cases b with
    | nil => exact absurd rfl h2
    | cons y b => simp [Op.bytesLess] at h1
  | cons x a ih =>
    intro b h1 h2
    cases b with
    | nil => rfl
    | cons y b =>
      simp only [Op.bytesLess, Bool.or_eq_false_iff, Bool.and_eq_false_iff, decide_eq_false_iff_not, beq_eq_false_iff_ne] at h1
      simp only [Op.bytesLess, Bool.or_eq_true, Bool.and_eq_true, decide_eq_true_eq, beq_iff_eq]
      by_cases e : x = y
      · subst e
        right
        refine ⟨rfl, ih ?_ (fun e => h2 (by rw [e]))⟩
        rcases h1.2 with h | h
        · exact absurd rfl h
        · exact h
      · left
        have := h1.1
        rcases Nat.lt_trichotomy x.toNat y.toNat with h | h | h
        · exact absurd h this
        · exact absurd (UInt8.toNat_inj.1 h) e
        · exact h
theorem leS_false {a b : ByteArray} : leS a b = false ↔ Op.bytesLess b.toList a.toList = true := by
  unfold leS
  rw [Bool.or_eq_false_iff, beq_eq_false_iff_ne]
  constructor
  · rintro ⟨h1, h2⟩; exact bytesLess_total h1 h2
  · intro h
    refine ⟨?_, fun e => ?_⟩
    · cases hh : Op.bytesLess a.toList b.toList
      · rfl
      · have := bytesLess_trans hh h; rw [bytesLess_irrefl] at this; cases this
    · rw [e, bytesLess_irrefl] at h; cases h
theorem rise_all {α : Type} {f : α → ByteArray} {l : List α} : ∀ {a : α}, riseF f (a :: l) = true → ∀ x, x ∈ l → Op.bytesLess (f a).toList (f x).toList = true := by
  induction l with
  | nil => intro a _ x hx; simp at hx
  | cons b l ih =>
    intro a h x hx
    simp only [riseF, Bool.and_eq_true, Bool.not_eq_true'] at h
    have h1 := leS_false.1 h.1
    rcases List.mem_cons.1 hx with rfl | hx
    · exact h1
    · exact bytesLess_trans h1 (ih h.2 x hx)
theorem rise_tail {α : Type} {f : α → ByteArray} {a : α} {l : List α} (h : riseF f (a :: l) = true) : riseF f l = true := by
  cases l with
  | nil => rfl
  | cons b l => simp only [riseF, Bool.and_eq_true] at h; exact h.2
theorem rise_nodup {α : Type} {f : α → ByteArray} {l : List α} (h : riseF f l = true) : (l.map f).Nodup := by
  induction l with
  | nil => exact List.nodup_nil
  | cons a l ih =>
    rw [List.map_cons, List.nodup_cons]
    refine ⟨fun hx => ?_, ih (rise_tail h)⟩
    obtain ⟨x, hx, e⟩ := List.mem_map.1 hx
    have := rise_all h x hx
    rw [e, bytesLess_irrefl] at this; cases this

end Go.Proofs.Ythnfkghgaagaiab
