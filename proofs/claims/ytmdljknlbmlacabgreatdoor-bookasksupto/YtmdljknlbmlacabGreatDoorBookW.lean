/- Books as Lean data: what is found, the boxes of tables, their order, what is checked and what is asked. No condition; no program is named. Books as Lean data, more: what a book that Check lets pass has, its boxes, its answers, and positions in its order. No condition; no program is named. -/
import Derived.Test.YtmdljknlbmlacabGreatDoorTabsSays
import Derived.Test.YtmdljknlbmlacabGreatDoorTxt
namespace Go.Proofs.YtmdljknlbmlacabGreatDoor

structure BookD where
  doms : List DomD
  tabs : List TabD

def findD (l : List DomD) (s : ByteArray) : Option DomD := l.find? fun d => sameS d.1 s
def findT (l : List TabD) (s : ByteArray) : Option TabD := l.find? fun t => sameS t.name s
def allO (b : BookD) (s : ByteArray) : Option (Int × Int) :=
  match findD b.doms s with
  | some d => some (d.2.1, d.2.2)
  | none => (findT b.tabs s).map spanV
def inBd (n : Int) : Bool := decide (-1000000 ≤ n) && decide (n ≤ 1000000)
def rngO (b : BookD) (s : ByteArray) : Option (Int × Int) :=
  match allO b s with
  | some r => if inBd r.1 && inBd r.2 then some r else none
  | none => none
def boxOk (b : BookD) (l : List ByteArray) : Bool := l.all fun s => (rngO b s).isSome
def boxL (b : BookD) (l : List ByteArray) : BoxD := l.map fun s => [(rngO b s).getD (0, 0)]
def boxV (b : BookD) (t : TabD) : BoxD × Bool := if boxOk b t.ins then (boxL b t.ins, true) else ([], false)

def hasN (l : List ByteArray) (s : ByteArray) : Bool := l.any (sameS s)
def waitsB (wait : List ByteArray) (t : TabD) : Bool := t.ins.any (hasN wait)
def readyT (wait : List ByteArray) (t : TabD) : Bool := hasN wait t.name && !waitsB wait t
def dropN (l : List ByteArray) (s : ByteArray) : List ByteArray := l.filter fun x => !sameS x s
def orderF (ts : List TabD) : Nat → List ByteArray → Option (List ByteArray)
  | 0, _ => some []
  | n + 1, wait => match ts.find? (readyT wait) with
    | none => none
    | some t => (orderF ts n (dropN wait t.name)).map (t.name :: ·)
def namesT (ts : List TabD) : List ByteArray := ts.map (·.name)
def orderO (ts : List TabD) : Option (List ByteArray) := orderF ts ts.length (namesT ts)

def leS (a b : ByteArray) : Bool := Op.bytesLess a.toList b.toList || a.toList == b.toList
/-- rising: none is at most the one ahead of it -/
def riseF {α : Type} (f : α → ByteArray) : List α → Bool
  | [] => true
  | [_] => true
  | a :: b :: l => !leS (f b) (f a) && riseF f (b :: l)
def goodDs (l : List DomD) : Bool := l.all goodD && riseF (·.1) l
def goodTs (b : BookD) : Bool := b.tabs.all goodT && riseF (·.name) b.tabs && b.tabs.all fun t => (findD b.doms t.name).isNone
def badT (b : BookD) (t : TabD) : Option (List Int × Int) :=
  if (clashV t (boxL b t.ins)).2 then some ((clashV t (boxL b t.ins)).1, 8)
  else if t.comp && (gapV t (boxL b t.ins)).2 then some ((gapV t (boxL b t.ins)).1, 7)
  else none
def noS : ByteArray := ⟨#[]⟩
def checkV (b : BookD) : ByteArray × List Int × Int :=
  if 4 < b.doms.length ∨ 4 < b.tabs.length then (noS, [], 11)
  else if goodDs b.doms = false ∨ goodTs b = false then (noS, [], 1)
  else match b.tabs.find? (fun t => !boxOk b t.ins) with
    | some t => (t.name, [], 3)
    | none => match orderO b.tabs with
      | none => (noS, [], 6)
      | some _ => match b.tabs.find? (fun t => (badT b t).isSome) with
        | some t => (t.name, (badT b t).getD ([], 0))
        | none => (noS, [], 0)

/-- Name, Found, N -/
abbrev AnsD := ByteArray × Bool × Int
def foundA (k : ByteArray → Option AnsD) (s : ByteArray) : Bool := ((k s).map (·.2.1)).getD false
def numA (k : ByteArray → Option AnsD) (s : ByteArray) : Int := ((k s).map (·.2.2)).getD 0
def ansOf (k : ByteArray → Option AnsD) (t : TabD) : AnsD :=
  if t.ins.all (foundA k) then (t.name, (saysV t (t.ins.map (numA k))).2.1, (saysV t (t.ins.map (numA k))).1) else (t.name, false, 0)
def putA (k : ByteArray → Option AnsD) (s : ByteArray) (a : AnsD) : ByteArray → Option AnsD := fun x => if sameS x s then some a else k x
def domK : List DomD → List Int → (ByteArray → Option AnsD) → ByteArray → Option AnsD
  | d :: l, n :: m, k => domK l m (putA k d.1 (d.1, true, n))
  | _, _, k => k
def askK (ts : List TabD) : List ByteArray → (ByteArray → Option AnsD) → ByteArray → Option AnsD
  | [], k => k
  | s :: l, k => askK ts l (putA k s (ansOf k ((findT ts s).getD ⟨noS, 0, false, [], []⟩)))
def inDoms : List DomD → List Int → Bool
  | d :: l, n :: m => decide (d.2.1 ≤ n) && decide (n ≤ d.2.2) && inDoms l m
  | _, _ => true
def askR (b : BookD) (l : List Int) : ByteArray → Option AnsD := askK b.tabs ((orderO b.tabs).getD []) (domK b.doms l fun _ => none)
def zeroA : AnsD := (noS, false, 0)
def askV (b : BookD) (l : List Int) : List AnsD × Int :=
  if (checkV b).2.2 ≠ 0 then ([], (checkV b).2.2)
  else if l.length ≠ b.doms.length then ([], 1)
  else if inDoms b.doms l = false then ([], 2)
  else (b.tabs.map fun t => (askR b l t.name).getD zeroA, 0)

/- names -/
theorem sameS_eq {s t : ByteArray} : sameS s t = true ↔ s = t := by
  unfold sameS
  rw [ByteArray.toList_eq, ByteArray.toList_eq]
  constructor
  · intro h
    have h' : s.data.toList = t.data.toList := by simpa using h
    cases s; cases t
    simp at h'
    rw [h']
  · intro h; subst h; simp
theorem sameS_comm (s t : ByteArray) : sameS s t = sameS t s := by
  have : sameS s t = true ↔ sameS t s = true := by rw [sameS_eq, sameS_eq]; exact eq_comm
  cases h : sameS s t <;> cases h' : sameS t s <;> simp_all
theorem sameS_refl (s : ByteArray) : sameS s s = true := sameS_eq.2 rfl
theorem sameS_ne {s t : ByteArray} : sameS s t = false ↔ s ≠ t := by rw [← Bool.not_eq_true, sameS_eq]
theorem hasN_iff {l : List ByteArray} {s : ByteArray} : hasN l s = true ↔ s ∈ l := by
  unfold hasN; rw [List.any_eq_true]
  exact ⟨fun ⟨x, h1, h2⟩ => by rw [sameS_eq.1 h2]; exact h1, fun h => ⟨s, h, sameS_refl s⟩⟩
theorem hasN_false {l : List ByteArray} {s : ByteArray} : hasN l s = false ↔ s ∉ l := by rw [← Bool.not_eq_true, hasN_iff]
theorem mem_dropN {l : List ByteArray} {s x : ByteArray} : x ∈ dropN l s ↔ x ∈ l ∧ x ≠ s := by
  unfold dropN; rw [List.mem_filter]; simp [sameS_ne]
theorem dropN_nodup {l : List ByteArray} (s : ByteArray) (h : l.Nodup) : (dropN l s).Nodup := h.filter _
theorem dropN_length {l : List ByteArray} {s : ByteArray} (h : l.Nodup) (hs : s ∈ l) : (dropN l s).length + 1 = l.length := by
  induction l with
  | nil => simp at hs
  | cons a l ih =>
    rw [List.nodup_cons] at h
    by_cases e : a = s
    · subst e
      have : dropN (a :: l) a = l := by
        unfold dropN
        rw [List.filter_cons, sameS_refl]
        simp only [Bool.not_true, Bool.false_eq_true, if_false]
        rw [List.filter_eq_self]
        intro x hx
        have : x ≠ a := fun e => h.1 (e ▸ hx)
        rw [sameS_ne.2 this]; rfl
      rw [this]; simp
    · have hs' : s ∈ l := by
        rcases List.mem_cons.1 hs with h | h
        · exact absurd h.symm e
        · exact h
      have := ih h.2 hs'
      have e2 : dropN (a :: l) s = a :: dropN l s := by
        unfold dropN
        rw [List.filter_cons, sameS_ne.2 e]; rfl
      rw [e2]; simp; omega

theorem findT_some {l : List TabD} {s : ByteArray} {t : TabD} (h : findT l s = some t) : t ∈ l ∧ t.name = s := by
  have h1 := List.mem_of_find?_eq_some h
  have h2 := List.find?_some h
  exact ⟨h1, sameS_eq.1 h2⟩
theorem findT_none {l : List TabD} {s : ByteArray} : findT l s = none ↔ s ∉ namesT l := by
  unfold findT namesT
  rw [List.find?_eq_none]
  simp only [List.mem_map, not_exists, not_and]
  exact ⟨fun h t ht e => h t ht (sameS_eq.2 e), fun h t ht e => h t ht (sameS_eq.1 e)⟩
theorem findT_isSome {l : List TabD} {s : ByteArray} : (findT l s).isSome = true ↔ s ∈ namesT l := by
  cases h : findT l s
  · simp [findT_none.1 h]
  · rename_i t
    obtain ⟨h1, h2⟩ := findT_some h
    simp only [Option.isSome_some, true_iff]
    exact List.mem_map.2 ⟨t, h1, h2⟩
theorem nodup_name {l : List TabD} (h : (namesT l).Nodup) {t u : TabD} (ht : t ∈ l) (hu : u ∈ l) (e : t.name = u.name) : t = u := by
  induction l with
  | nil => simp at ht
  | cons a l ih =>
    simp only [namesT, List.map_cons, List.nodup_cons] at h
    rcases List.mem_cons.1 ht with e1 | ht <;> rcases List.mem_cons.1 hu with e2 | hu
    · rw [e1, e2]
    · exact absurd (List.mem_map.2 ⟨u, hu, by rw [← e, e1]⟩) h.1
    · exact absurd (List.mem_map.2 ⟨t, ht, by rw [e, e2]⟩) h.1
    · exact ih h.2 ht hu
theorem findT_mem {l : List TabD} (h : (namesT l).Nodup) {t : TabD} (ht : t ∈ l) : findT l t.name = some t := by
  cases hf : findT l t.name with
  | none => exact absurd (List.mem_map.2 ⟨t, ht, rfl⟩) (findT_none.1 hf)
  | some u =>
    obtain ⟨h1, h2⟩ := findT_some hf
    rw [nodup_name h h1 ht h2]

/- the order -/
/-- each name stands behind those on which its table waits -/
inductive Placed (ts : List TabD) : List ByteArray → List ByteArray → Prop
  | nil : Placed ts [] []
  | cons {wait l : List ByteArray} {t : TabD} : t ∈ ts → t.name ∈ wait → (∀ s, s ∈ t.ins → s ∉ wait) → Placed ts (dropN wait t.name) l → Placed ts wait (t.name :: l)
theorem ready_iff {wait : List ByteArray} {t : TabD} : readyT wait t = true ↔ t.name ∈ wait ∧ ∀ s, s ∈ t.ins → s ∉ wait := by
  unfold readyT waitsB
  rw [Bool.and_eq_true, hasN_iff, Bool.not_eq_true', List.any_eq_false]
  constructor
  · rintro ⟨h1, h2⟩; exact ⟨h1, fun s hs => hasN_false.1 (by simpa using h2 s hs)⟩
  · rintro ⟨h1, h2⟩; exact ⟨h1, fun s hs => by rw [hasN_false.2 (h2 s hs)]; simp⟩
theorem orderF_placed {ts : List TabD} : ∀ {n : Nat} {wait l : List ByteArray}, wait.Nodup → wait.length = n → orderF ts n wait = some l → Placed ts wait l := by
  intro n
  induction n with
  | zero =>
    intro wait l _ hl h
    obtain rfl := List.length_eq_zero_iff.1 hl
    simp [orderF] at h; subst h; exact .nil
  | succ n ih =>
    intro wait l hn hl h
    simp only [orderF] at h
    cases hf : ts.find? (readyT wait) with
    | none => rw [hf] at h; cases h
    | some t =>
      rw [hf] at h
      simp only [Option.map_eq_some_iff] at h
      obtain ⟨l', h1, rfl⟩ := h
      obtain ⟨r1, r2⟩ := ready_iff.1 (List.find?_some hf)
      have hd := dropN_length hn r1
      exact .cons (List.mem_of_find?_eq_some hf) r1 r2 (ih (dropN_nodup _ hn) (by omega) h1)
theorem Placed.length {ts : List TabD} {wait l : List ByteArray} (h : Placed ts wait l) (hn : wait.Nodup) : l.length = wait.length := by
  induction h with
  | nil => rfl
  | cons _ h2 _ _ ih =>
    have := dropN_length hn h2
    have := ih (dropN_nodup _ hn)
    simp; omega
theorem Placed.mem {ts : List TabD} {wait l : List ByteArray} (h : Placed ts wait l) : ∀ x, x ∈ l ↔ x ∈ wait := by
  induction h with
  | nil => intro x; simp
  | cons _ h2 _ _ ih =>
    rename_i wait l t _ _ _
    intro x
    rw [List.mem_cons, ih, mem_dropN]
    constructor
    · rintro (rfl | h)
      · exact h2
      · exact h.1
    · intro h
      by_cases e : x = t.name
      · exact .inl e
      · exact .inr ⟨h, e⟩
theorem Placed.nodup {ts : List TabD} {wait l : List ByteArray} (h : Placed ts wait l) : l.Nodup := by
  induction h with
  | nil => exact List.nodup_nil
  | cons _ h2 _ h4 ih =>
    rename_i wait l t
    rw [List.nodup_cons]
    exact ⟨fun hx => (mem_dropN.1 ((h4.mem _).1 hx)).2 rfl, ih⟩
/-- what a table waits for stands ahead of it -/
theorem Placed.before {ts : List TabD} {wait l : List ByteArray} (h : Placed ts wait l) (hu : (namesT ts).Nodup) (hw : ∀ s, s ∈ wait → s ∈ namesT ts) :
    ∀ {t : TabD} {s : ByteArray} {i j : Nat}, t ∈ ts → s ∈ t.ins → l[i]? = some t.name → l[j]? = some s → j < i := by
  induction h with
  | nil => intro t s i j _ _ h; simp at h
  | cons h1 h2 h3 h4 ih =>
    rename_i wait l u
    intro t s i j ht hs hi hj
    have ih' := @ih (fun s hs => hw s (mem_dropN.1 hs).1)
    have hnd : u.name ∉ l := fun hx => (mem_dropN.1 ((h4.mem _).1 hx)).2 rfl
    cases i with
    | zero =>
      simp at hi
      have : u = t := nodup_name hu h1 ht hi
      subst this
      have hsw : s ∈ wait := by
        have := List.mem_of_getElem? hj
        exact ((Placed.cons h1 h2 h3 h4).mem s).1 this
      exact absurd hsw (h3 s hs)
    | succ i =>
      cases j with
      | zero => omega
      | succ j =>
        simp at hi hj
        have := ih' ht hs hi hj
        omega
theorem orderO_facts {ts : List TabD} {l : List ByteArray} (hn : (namesT ts).Nodup) (h : orderO ts = some l) : Placed ts (namesT ts) l := orderF_placed hn (by simp [namesT]) h

/- the answers -/
theorem ansOf_congr {k k' : ByteArray → Option AnsD} {t : TabD} (h : ∀ s, s ∈ t.ins → k s = k' s) : ansOf k t = ansOf k' t := by
  have h1 : t.ins.all (foundA k) = t.ins.all (foundA k') := by
    have : ∀ l : List ByteArray, (∀ s, s ∈ l → k s = k' s) → l.all (foundA k) = l.all (foundA k') := by
      intro l
      induction l with
      | nil => intro _; rfl
      | cons s l ih => intro h; simp only [List.all_cons]; rw [ih fun x hx => h x (by simp [hx])]; unfold foundA; rw [h s (by simp)]
    exact this _ h
  have h2 : t.ins.map (numA k) = t.ins.map (numA k') := List.map_congr_left fun s hs => by unfold numA; rw [h s hs]
  unfold ansOf
  rw [h1, h2]
theorem putA_same (k : ByteArray → Option AnsD) (s : ByteArray) (a : AnsD) : putA k s a s = some a := by unfold putA; rw [sameS_refl]; rfl
theorem putA_other (k : ByteArray → Option AnsD) {s x : ByteArray} (a : AnsD) (h : x ≠ s) : putA k s a x = k x := by unfold putA; rw [sameS_ne.2 h]; rfl
theorem askK_spec {ts : List TabD} (hu : (namesT ts).Nodup) {wait l : List ByteArray} (h : Placed ts wait l) :
    ∀ k, (∀ x, x ∉ wait → askK ts l k x = k x) ∧ ∀ t, t ∈ ts → t.name ∈ wait → askK ts l k t.name = some (ansOf (askK ts l k) t) := by
  induction h with
  | nil => intro k; exact ⟨fun _ _ => rfl, fun t _ h => by simp at h⟩
  | cons h1 h2 h3 h4 ih =>
    rename_i wait l u
    intro k
    have e : (findT ts u.name).getD ⟨noS, 0, false, [], []⟩ = u := by rw [findT_mem hu h1]; rfl
    have ea : askK ts (u.name :: l) k = askK ts l (putA k u.name (ansOf k u)) := by simp only [askK, e]
    obtain ⟨i1, i2⟩ := ih (putA k u.name (ansOf k u))
    rw [ea]
    have key : ∀ x, x ∉ wait → askK ts l (putA k u.name (ansOf k u)) x = k x := by
      intro x hx
      rw [i1 x (fun hh => hx (mem_dropN.1 hh).1), putA_other _ _ (fun e => hx (by rw [e]; exact h2))]
    refine ⟨key, fun t ht hw => ?_⟩
    by_cases e2 : t.name = u.name
    · have : t = u := nodup_name hu ht h1 e2
      subst this
      rw [i1 t.name (fun hh => (mem_dropN.1 hh).2 rfl), putA_same]
      congr 1
      exact ansOf_congr fun s hs => (key s (h3 s hs)).symm
    · exact i2 t ht (mem_dropN.2 ⟨hw, e2⟩)

theorem says_span {t : TabD} {l : List Int} (hg : goodT t = true) (h1 : (saysV t l).2.1 = true) : (spanV t).1 ≤ (saysV t l).1 ∧ (saysV t l).1 ≤ (spanV t).2 := by
  have hll : l.length = t.ins.length := by
    by_cases h : l.length = t.ins.length
    · exact h
    · unfold saysV at h1; rw [if_neg (fun hh => h hh.2)] at h1; cases h1
  have hs : saysV t l = saysO t.pol (outsL t.rules l) := by unfold saysV; rw [if_pos ⟨hg, hll⟩]
  rw [hs] at h1 ⊢
  have hrl : 0 < t.rules.length := (goodRs_iff.1 (goodT_iff.1 hg).2.2.2.2).1
  have hm0 : 0 < (t.rules.map (·.2)).length := by rw [List.length_map]; exact hrl
  have hcode : (saysO t.pol (outsL t.rules l)).2.2 = 0 := by
    rw [saysO_code]
    unfold saysO at h1
    by_cases h : (outsL t.rules l).length = 0 ∧ t.pol ≠ 7
    · rw [if_pos h] at h1; cases h1
    · rw [if_neg h] at h1
      cases hc : conflictB t.pol (outsL t.rules l)
      · rfl
      · rw [hc] at h1; cases h1
  have hne : t.pol = 7 ∨ (outsL t.rules l).length ≠ 0 := by
    by_cases hp : t.pol = 7
    · exact .inl hp
    · right
      intro h0
      rw [saysO_none hp h0] at h1; cases h1
  rw [saysO_some hne hcode]
  show (spanV t).1 ≤ combineV t.pol (outsL t.rules l) ∧ combineV t.pol (outsL t.rules l) ≤ (spanV t).2
  unfold spanV
  rw [if_pos hg]
  have hin : ∀ x, x ∈ outsL t.rules l → minL (t.rules.map (·.2)) ≤ x ∧ x ≤ maxL (t.rules.map (·.2)) := fun x hx => ⟨(minL_spec hm0).2 x (outs_sub hx), (maxL_spec hm0).2 x (outs_sub hx)⟩
  by_cases h7 : t.pol = 7
  · rw [if_pos h7]
    unfold combineV
    rw [h7]
    have := outsL_length t.rules l
    simp only [show (7 : Int) ≠ 4 from by decide, show (7 : Int) ≠ 5 from by decide, show (7 : Int) ≠ 6 from by decide, if_false, if_true]
    omega
  · rw [if_neg h7]
    have h0 : 0 < (outsL t.rules l).length := by
      rcases hne with h | h
      · exact absurd h h7
      · omega
    by_cases h6 : t.pol = 6
    · rw [if_pos h6]
      unfold combineV
      rw [h6]
      simp only [show (6 : Int) ≠ 4 from by decide, show (6 : Int) ≠ 5 from by decide, if_false, if_true]
      exact sum_outs t.rules l
    · rw [if_neg h6]
      unfold combineV
      by_cases h4 : t.pol = 4
      · rw [if_pos h4]; exact hin _ (minL_spec h0).1
      · rw [if_neg h4]
        by_cases h5 : t.pol = 5
        · rw [if_pos h5]; exact hin _ (maxL_spec h0).1
        · rw [if_neg h5, if_neg h6, if_neg h7]
          refine hin _ ?_
          cases ho : outsL t.rules l with
          | nil => rw [ho] at h0; simp at h0
          | cons x o => simp
theorem span_le {t : TabD} (hg : goodT t = true) : (spanV t).1 ≤ (spanV t).2 := by
  have hrl : 0 < t.rules.length := (goodRs_iff.1 (goodT_iff.1 hg).2.2.2.2).1
  have hm0 : 0 < (t.rules.map (·.2)).length := by rw [List.length_map]; exact hrl
  have hsum : ∀ l : List RuleD, (l.map fun r => min r.2 0).sum ≤ (l.map fun r => max r.2 0).sum := by
    intro l
    induction l with
    | nil => simp
    | cons r l ih => simp only [List.map_cons, List.sum_cons]; omega
  unfold spanV
  rw [if_pos hg]
  split
  · simp
  · split
    · exact hsum _
    · exact (minL_spec hm0).2 _ (maxL_spec hm0).1

/- rising names are different -/
theorem bytesLess_irrefl (a : List UInt8) : Op.bytesLess a a = false := by
  induction a with
  | nil => rfl
  | cons x a ih => simp [Op.bytesLess, ih]
theorem bytesLess_trans {a : List UInt8} : ∀ {b c : List UInt8}, Op.bytesLess a b = true → Op.bytesLess b c = true → Op.bytesLess a c = true := by
  induction a with
  | nil =>
    intro b c h1 h2
    cases c with
    | nil => cases b <;> simp [Op.bytesLess] at h2
    | cons z c => rfl
  | cons x a ih =>
    intro b c h1 h2
    cases b with
    | nil => simp [Op.bytesLess] at h1
    | cons y b =>
      cases c with
      | nil => simp [Op.bytesLess] at h2
      | cons z c =>
        simp only [Op.bytesLess, Bool.or_eq_true, Bool.and_eq_true, decide_eq_true_eq, beq_iff_eq] at h1 h2 ⊢
        rcases h1 with h1 | ⟨rfl, h1⟩ <;> rcases h2 with h2 | ⟨rfl, h2⟩
        · exact .inl (UInt8.lt_trans h1 h2)
        · exact .inl h1
        · exact .inl h2
        · exact .inr ⟨rfl, ih h1 h2⟩
theorem bytesLess_total {a : List UInt8} : ∀ {b : List UInt8}, Op.bytesLess a b = false → a ≠ b → Op.bytesLess b a = true := by
  induction a with
  | nil =>
    intro b h1 h2
    cases b with
    | nil => exact absurd rfl h2
    | cons y b => simp [Op.bytesLess] at h1
  | cons x a ih =>
    intro b h1 h2
    cases b with
    | nil => rfl
    | cons y b =>
      simp only [Op.bytesLess, Bool.or_eq_false_iff, Bool.and_eq_false_iff, decide_eq_false_iff_not, beq_eq_false_iff_ne] at h1
      simp only [Op.bytesLess, Bool.or_eq_true, Bool.and_eq_true, decide_eq_true_eq, beq_iff_eq]
      by_cases e : x = y
      · subst e
        right
        refine ⟨rfl, ih ?_ (fun e => h2 (by rw [e]))⟩
        rcases h1.2 with h | h
        · exact absurd rfl h
        · exact h
      · left
        have := h1.1
        rcases Nat.lt_trichotomy x.toNat y.toNat with h | h | h
        · exact absurd h this
        · exact absurd (UInt8.toNat_inj.1 h) e
        · exact h
theorem leS_false {a b : ByteArray} : leS a b = false ↔ Op.bytesLess b.toList a.toList = true := by
  unfold leS
  rw [Bool.or_eq_false_iff, beq_eq_false_iff_ne]
  constructor
  · rintro ⟨h1, h2⟩; exact bytesLess_total h1 h2
  · intro h
    refine ⟨?_, fun e => ?_⟩
    · cases hh : Op.bytesLess a.toList b.toList
      · rfl
      · have := bytesLess_trans hh h; rw [bytesLess_irrefl] at this; cases this
    · rw [e, bytesLess_irrefl] at h; cases h
theorem rise_all {α : Type} {f : α → ByteArray} {l : List α} : ∀ {a : α}, riseF f (a :: l) = true → ∀ x, x ∈ l → Op.bytesLess (f a).toList (f x).toList = true := by
  induction l with
  | nil => intro a _ x hx; simp at hx
  | cons b l ih =>
    intro a h x hx
    simp only [riseF, Bool.and_eq_true, Bool.not_eq_true'] at h
    have h1 := leS_false.1 h.1
    rcases List.mem_cons.1 hx with rfl | hx
    · exact h1
    · exact bytesLess_trans h1 (ih h.2 x hx)
theorem rise_tail {α : Type} {f : α → ByteArray} {a : α} {l : List α} (h : riseF f (a :: l) = true) : riseF f l = true := by
  cases l with
  | nil => rfl
  | cons b l => simp only [riseF, Bool.and_eq_true] at h; exact h.2
theorem rise_nodup {α : Type} {f : α → ByteArray} {l : List α} (h : riseF f l = true) : (l.map f).Nodup := by
  induction l with
  | nil => exact List.nodup_nil
  | cons a l ih =>
    rw [List.map_cons, List.nodup_cons]
    refine ⟨fun hx => ?_, ih (rise_tail h)⟩
    obtain ⟨x, hx, e⟩ := List.mem_map.1 hx
    have := rise_all h x hx
    rw [e, bytesLess_irrefl] at this; cases this

end Go.Proofs.YtmdljknlbmlacabGreatDoor
namespace Go.Proofs.YtmdljknlbmlacabGreatDoor

theorem check_ok {b : BookD} (h : (checkV b).2.2 = 0) :
    b.doms.length ≤ 4 ∧ b.tabs.length ≤ 4 ∧ goodDs b.doms = true ∧ goodTs b = true ∧ (∀ t, t ∈ b.tabs → boxOk b t.ins = true) ∧ (∃ l, orderO b.tabs = some l) ∧ ∀ t, t ∈ b.tabs → badT b t = none := by
  unfold checkV at h
  split at h
  · cases h
  · rename_i h1
    split at h
    · cases h
    · rename_i h2
      split at h
      · cases h
      · rename_i h3
        split at h
        · cases h
        · rename_i l h4
          split at h
          · rename_i t h5
            have hb := List.find?_some h5
            cases hbt : badT b t with
            | none => rw [hbt] at hb; cases hb
            | some r =>
              rw [hbt] at h
              unfold badT at hbt
              split at hbt
              · injection hbt with hbt; subst hbt; cases h
              · split at hbt
                · injection hbt with hbt; subst hbt; cases h
                · cases hbt
          · rename_i h5
            refine ⟨by omega, by omega, by simpa using fun e => h2 (.inl e), by simpa using fun e => h2 (.inr e), fun t ht => ?_, ⟨l, h4⟩, fun t ht => ?_⟩
            · have := List.find?_eq_none.1 h3 t ht
              simpa using this
            · have := List.find?_eq_none.1 h5 t ht
              simpa using this

theorem good_dom {b : BookD} (h : goodDs b.doms = true) {d : DomD} (hd : d ∈ b.doms) : goodD d = true := by
  unfold goodDs at h; rw [Bool.and_eq_true] at h; exact List.all_eq_true.1 h.1 d hd
theorem good_tab {b : BookD} (h : goodTs b = true) {t : TabD} (ht : t ∈ b.tabs) : goodT t = true := by
  unfold goodTs at h; simp only [Bool.and_eq_true] at h; exact List.all_eq_true.1 h.1.1 t ht
theorem good_nodup {b : BookD} (h : goodTs b = true) : (namesT b.tabs).Nodup := by
  unfold goodTs at h; simp only [Bool.and_eq_true] at h; exact rise_nodup h.1.2
theorem good_apart {b : BookD} (h : goodTs b = true) {t : TabD} (ht : t ∈ b.tabs) : findD b.doms t.name = none := by
  unfold goodTs at h; simp only [Bool.and_eq_true] at h; simpa using List.all_eq_true.1 h.2 t ht
theorem goodD_iff {d : DomD} : goodD d = true ↔ nameB d.1 = true ∧ -1000000 ≤ d.2.1 ∧ d.2.1 ≤ d.2.2 ∧ d.2.2 ≤ 1000000 := by simp [goodD, and_assoc]
theorem findD_some {l : List DomD} {s : ByteArray} {d : DomD} (h : findD l s = some d) : d ∈ l ∧ d.1 = s :=
  ⟨List.mem_of_find?_eq_some h, sameS_eq.1 (List.find?_some (p := fun d : DomD => sameS d.1 s) h)⟩
theorem findD_none {l : List DomD} {s : ByteArray} (h : findD l s = none) {d : DomD} (hd : d ∈ l) : d.1 ≠ s := by
  have := List.find?_eq_none.1 h d hd
  exact fun e => this (sameS_eq.2 e)

/-- the range of an input: where it is from -/
theorem rng_from {b : BookD} (hd : goodDs b.doms = true) (ht : goodTs b = true) {s : ByteArray} (h : (rngO b s).isSome = true) :
    ∃ r, rngO b s = some r ∧ goodB [r] = true ∧ ((∃ d, d ∈ b.doms ∧ d.1 = s ∧ findD b.doms s = some d ∧ r = (d.2.1, d.2.2)) ∨ (findD b.doms s = none ∧ ∃ t, t ∈ b.tabs ∧ t.name = s ∧ r = spanV t)) := by
  obtain ⟨r, hr⟩ := Option.isSome_iff_exists.1 h
  refine ⟨r, hr, ?_⟩
  unfold rngO at hr
  cases ha : allO b s with
  | none => rw [ha] at hr; cases hr
  | some q =>
    rw [ha] at hr
    simp only at hr
    split at hr
    · rename_i hin
      injection hr with hr
      subst hr
      simp only [inBd, Bool.and_eq_true, decide_eq_true_eq] at hin
      have good : q.1 ≤ q.2 → goodB [q] = true := by
        intro hle
        obtain ⟨x, y⟩ := q
        simp [goodB, goodFrom] at *
        omega
      unfold allO at ha
      cases hf : findD b.doms s with
      | some d =>
        rw [hf] at ha
        injection ha with ha
        subst ha
        obtain ⟨h1, h2⟩ := findD_some hf
        exact ⟨good (goodD_iff.1 (good_dom hd h1)).2.2.1, .inl ⟨d, h1, h2, rfl, rfl⟩⟩
      | none =>
        rw [hf] at ha
        simp only [Option.map_eq_some_iff] at ha
        obtain ⟨t, h1, rfl⟩ := ha
        obtain ⟨h2, h3⟩ := findT_some h1
        exact ⟨good (span_le (good_tab ht h2)), .inr ⟨rfl, t, h2, h3, rfl⟩⟩
    · cases hr

theorem box_good {b : BookD} (hd : goodDs b.doms = true) (ht : goodTs b = true) {l : List ByteArray} (h : boxOk b l = true) (hl : l.length ≤ 3) : goodBox (boxL b l) l.length = true := by
  have hs : setsB (boxL b l) = true := by
    unfold setsB boxL
    rw [List.all_map, List.all_eq_true]
    intro s hs
    obtain ⟨r, h1, h2, _⟩ := rng_from hd ht (List.all_eq_true.1 h s hs)
    simp [h1, h2]
  unfold goodBox
  rw [hs]
  simp [boxL]; omega

/- the answers -/
theorem domK_none {ds : List DomD} : ∀ {l : List Int} {k : ByteArray → Option AnsD} {s : ByteArray}, (∀ d, d ∈ ds → d.1 ≠ s) → domK ds l k s = k s := by
  induction ds with
  | nil => intro l k s _; rfl
  | cons d ds ih =>
    intro l k s h
    cases l with
    | nil => rfl
    | cons n l =>
      simp only [domK]
      rw [ih (fun x hx => h x (List.mem_cons_of_mem _ hx)), putA_other _ _ (Ne.symm (h d List.mem_cons_self))]
theorem domK_some {ds : List DomD} : ∀ {l : List Int} {k : ByteArray → Option AnsD} {d : DomD}, (ds.map (·.1)).Nodup → ds.length = l.length → inDoms ds l = true → d ∈ ds → ∃ n, domK ds l k d.1 = some (d.1, true, n) ∧ d.2.1 ≤ n ∧ n ≤ d.2.2 := by
  induction ds with
  | nil => intro l k d _ _ _ h; simp at h
  | cons a ds ih =>
    intro l k d hn hl hi hd
    cases l with
    | nil => simp at hl
    | cons n l =>
      simp only [inDoms, Bool.and_eq_true, decide_eq_true_eq] at hi
      rw [List.map_cons, List.nodup_cons] at hn
      simp only [domK]
      rcases List.mem_cons.1 hd with rfl | hd'
      · refine ⟨n, ?_, hi.1.1, hi.1.2⟩
        rw [domK_none (fun x hx e => hn.1 (List.mem_map.2 ⟨x, hx, e⟩)), putA_same]
      · exact ih hn.2 (by simpa using hl) hi.2 hd'

theorem hasBox_map {b : BookD} {k : ByteArray → Option AnsD} {l : List ByteArray} (h : ∀ s, s ∈ l → hasB [(rngO b s).getD (0, 0)] (numA k s) = true) : hasBox (boxL b l) (l.map (numA k)) = true := by
  induction l with
  | nil => rfl
  | cons s l ih =>
    have := ih (fun x hx => h x (List.mem_cons_of_mem _ hx))
    simp only [boxL, List.map_cons, hasBox, Bool.and_eq_true] at *
    exact ⟨h s List.mem_cons_self, this⟩

/-- what the answers of a book that is in order are -/
theorem ask_facts {b : BookD} (hc : (checkV b).2.2 = 0) {l : List Int} (hl : l.length = b.doms.length) (hi : inDoms b.doms l = true) :
    (∀ s, s ∉ namesT b.tabs → askR b l s = domK b.doms l (fun _ => none) s) ∧
    ∀ t, t ∈ b.tabs → askR b l t.name = some (ansOf (askR b l) t) ∧ (t.ins.all (foundA (askR b l)) = true →
      (saysV t (t.ins.map (numA (askR b l)))).2.2 = 0 ∧ (t.comp = true → (saysV t (t.ins.map (numA (askR b l)))).2.1 = true)) := by
  obtain ⟨h1, h2, hgd, hgt, hbox, ⟨o, ho⟩, hbad⟩ := check_ok hc
  have hnd := good_nodup hgt
  have hP := orderO_facts hnd ho
  have hsp := askK_spec hnd hP (domK b.doms l fun _ => none)
  have eo : askR b l = askK b.tabs o (domK b.doms l fun _ => none) := by unfold askR; rw [ho]; rfl
  rw [← eo] at hsp
  refine ⟨hsp.1, fun t ht => ⟨hsp.2 t ht (List.mem_map.2 ⟨t, ht, rfl⟩), fun hall => ?_⟩⟩
  have hg := good_tab hgt ht
  have hb := hbox t ht
  have hil : t.ins.length ≤ 3 := (goodIns_iff.1 (goodT_iff.1 hg).2.2.2.1).2.1
  have hgb := box_good hgd hgt hb hil
  have hdn : (b.doms.map (·.1)).Nodup := by
    have hgd' := hgd
    unfold goodDs at hgd'; rw [Bool.and_eq_true] at hgd'; exact rise_nodup hgd'.2
  have hhas : hasBox (boxL b t.ins) (t.ins.map (numA (askR b l))) = true := by
    refine hasBox_map fun s hs => ?_
    obtain ⟨r, hr, _, hfrom⟩ := rng_from hgd hgt (List.all_eq_true.1 hb s hs)
    have hfs := List.all_eq_true.1 hall s hs
    rw [hr, Option.getD_some, hasB_iff]
    refine ⟨r, by simp, ?_⟩
    rcases hfrom with ⟨d, hd, rfl, hfd, rfl⟩ | ⟨hfd, u, hu, rfl, rfl⟩
    · have hnt : d.1 ∉ namesT b.tabs := by
        intro hm
        obtain ⟨u, hu, e⟩ := List.mem_map.1 hm
        have := good_apart hgt hu
        rw [e, hfd] at this; cases this
      obtain ⟨n, hn, hn1, hn2⟩ := domK_some (k := fun _ => none) hdn hl.symm hi hd
      have e1 : numA (askR b l) d.1 = n := by unfold numA; rw [hsp.1 _ hnt, hn]; rfl
      rw [e1]; exact ⟨hn1, hn2⟩
    · have e2 := hsp.2 u hu (List.mem_map.2 ⟨u, hu, rfl⟩)
      unfold foundA at hfs
      unfold numA
      rw [e2] at hfs ⊢
      simp only [Option.map_some, Option.getD_some] at hfs ⊢
      unfold ansOf at hfs ⊢
      split at hfs
      · rename_i h; rw [if_pos h]; exact says_span (good_tab hgt hu) hfs
      · cases hfs
  have hbt := hbad t ht
  unfold badT at hbt
  split at hbt
  · cases hbt
  · rename_i hcl
    have h0 := (one_facts hg hgb hhas).2 (by simpa using hcl)
    refine ⟨h0, fun hcm => ?_⟩
    rw [hcm] at hbt
    split at hbt
    · cases hbt
    · rename_i hgp
      have hgp' : (gapV t (boxL b t.ins)).2 = false := by simpa using hgp
      have := (whole_facts hg hgb hhas).1
      cases hq : (saysV t (t.ins.map (numA (askR b l)))).2.1
      · exact absurd ⟨hgp', h0, hq⟩ this
      · rfl

/- what a reader of the answers knows -/
def putsA : List AnsD → (ByteArray → Option AnsD) → ByteArray → Option AnsD
  | [], k => k
  | a :: l, k => putsA l (putA k a.1 a)
def domL : List DomD → List Int → (ByteArray → Option AnsD) → ByteArray → Option AnsD
  | d :: l, n :: m, k => domL l m (putA k d.1 (noS, true, n))
  | _, _, k => k
theorem domL_same {ds : List DomD} : ∀ {l : List Int} {k k' : ByteArray → Option AnsD} (s : ByteArray), (k s).map (·.2) = (k' s).map (·.2) → (domL ds l k s).map (·.2) = (domK ds l k' s).map (·.2) := by
  induction ds with
  | nil => intro l k k' s h; exact h
  | cons d ds ih =>
    intro l k k' s h
    cases l with
    | nil => exact h
    | cons n l =>
      simp only [domL, domK]
      refine ih s ?_
      unfold putA
      split
      · rfl
      · exact h
theorem putsA_none {l : List AnsD} : ∀ {k : ByteArray → Option AnsD} {s : ByteArray}, (∀ a, a ∈ l → a.1 ≠ s) → putsA l k s = k s := by
  induction l with
  | nil => intro k s _; rfl
  | cons a l ih =>
    intro k s h
    simp only [putsA]
    rw [ih (fun x hx => h x (List.mem_cons_of_mem _ hx)), putA_other _ _ (Ne.symm (h a List.mem_cons_self))]
theorem putsA_some {l : List AnsD} : ∀ {k : ByteArray → Option AnsD} {a : AnsD}, (l.map (·.1)).Nodup → a ∈ l → putsA l k a.1 = some a := by
  induction l with
  | nil => intro k a _ h; simp at h
  | cons x l ih =>
    intro k a hn ha
    rw [List.map_cons, List.nodup_cons] at hn
    simp only [putsA]
    rcases List.mem_cons.1 ha with rfl | h
    · rw [putsA_none (fun y hy e => hn.1 (List.mem_map.2 ⟨y, hy, e⟩)), putA_same]
    · exact ih hn.2 h
theorem found_congr {k k' : ByteArray → Option AnsD} {s : ByteArray} (h : (k s).map (·.2) = (k' s).map (·.2)) : foundA k s = foundA k' s ∧ numA k s = numA k' s := by
  unfold foundA numA
  cases h1 : k s <;> cases h2 : k' s <;> rw [h1, h2] at h <;> simp at h ⊢
  rw [h]; exact ⟨rfl, rfl⟩

def ansL (b : BookD) (l : List Int) : List AnsD := b.tabs.map fun t => (askR b l t.name).getD zeroA
def readK (b : BookD) (l : List Int) : ByteArray → Option AnsD := putsA (ansL b l) (domL b.doms l fun _ => none)
theorem ansL_eq {b : BookD} (hc : (checkV b).2.2 = 0) {l : List Int} (hl : l.length = b.doms.length) (hi : inDoms b.doms l = true) : ansL b l = b.tabs.map fun t => ansOf (askR b l) t := by
  refine List.map_congr_left fun t ht => ?_
  rw [((ask_facts hc hl hi).2 t ht).1]; rfl
theorem ansOf_name {k : ByteArray → Option AnsD} {t : TabD} : (ansOf k t).1 = t.name := by unfold ansOf; split <;> rfl
theorem read_facts {b : BookD} (hc : (checkV b).2.2 = 0) {l : List Int} (hl : l.length = b.doms.length) (hi : inDoms b.doms l = true) (s : ByteArray) : ((readK b l) s).map (·.2) = ((askR b l) s).map (·.2) := by
  obtain ⟨f1, f2⟩ := ask_facts hc hl hi
  have hnd := good_nodup (check_ok hc).2.2.2.1
  have el := ansL_eq hc hl hi
  have en : (ansL b l).map (·.1) = namesT b.tabs := by
    rw [el, List.map_map]; exact List.map_congr_left fun t _ => ansOf_name
  unfold readK
  by_cases hs : s ∈ namesT b.tabs
  · obtain ⟨t, ht, rfl⟩ := List.mem_map.1 hs
    have hm : ansOf (askR b l) t ∈ ansL b l := by rw [el]; exact List.mem_map.2 ⟨t, ht, rfl⟩
    have := putsA_some (k := domL b.doms l fun _ => none) (by rw [en]; exact hnd) hm
    rw [ansOf_name] at this
    rw [this, (f2 t ht).1]
  · rw [f1 s hs, putsA_none]
    · exact domL_same s rfl
    · intro a ha e
      exact hs (by rw [← en, ← e]; exact List.mem_map.2 ⟨a, ha, rfl⟩)

/-- each table says what it says of what the others say -/
theorem answers_facts {b : BookD} (hc : (checkV b).2.2 = 0) {l : List Int} (hl : l.length = b.doms.length) (hi : inDoms b.doms l = true) {i : Nat} {t : TabD} (ht : b.tabs[i]? = some t) :
    ∃ a, (ansL b l)[i]? = some a ∧ a.1 = t.name ∧ (t.ins.all (foundA (readK b l)) = false → a.2.1 = false) ∧
      (t.ins.all (foundA (readK b l)) = true → a.2.1 = (saysV t (t.ins.map (numA (readK b l)))).2.1 ∧ a.2.2 = (saysV t (t.ins.map (numA (readK b l)))).1 ∧ (saysV t (t.ins.map (numA (readK b l)))).2.2 = 0 ∧ (t.comp = true → (saysV t (t.ins.map (numA (readK b l)))).2.1 = true)) := by
  have hm := List.mem_of_getElem? ht
  obtain ⟨f1, f2⟩ := ask_facts hc hl hi
  have e1 : t.ins.all (foundA (readK b l)) = t.ins.all (foundA (askR b l)) := by
    have : foundA (readK b l) = foundA (askR b l) := funext fun s => (found_congr (read_facts hc hl hi s)).1
    rw [this]
  have e2 : numA (readK b l) = numA (askR b l) := funext fun s => (found_congr (read_facts hc hl hi s)).2
  refine ⟨ansOf (askR b l) t, ?_, ansOf_name, ?_, ?_⟩
  · rw [ansL_eq hc hl hi, List.getElem?_map, ht]; rfl
  · rw [e1]; intro h; unfold ansOf; rw [if_neg (by rw [h]; decide)]
  · rw [e1, e2]
    intro h
    obtain ⟨g1, g2⟩ := (f2 t hm).2 h
    unfold ansOf
    rw [if_pos h]
    exact ⟨rfl, rfl, g1, g2⟩

/- numbers brought into domains -/
def clipD : List DomD → List Int → List Int
  | [], _ => []
  | d :: ds, [] => max d.2.1 (min 0 d.2.2) :: clipD ds []
  | d :: ds, n :: l => max d.2.1 (min n d.2.2) :: clipD ds l
theorem clipD_length {ds : List DomD} : ∀ {l : List Int}, (clipD ds l).length = ds.length := by
  induction ds with
  | nil => intro l; rfl
  | cons d ds ih => intro l; cases l <;> simp [clipD, ih]
theorem clipD_in {ds : List DomD} : ∀ {l : List Int}, (∀ d, d ∈ ds → goodD d = true) → inDoms ds (clipD ds l) = true := by
  induction ds with
  | nil => intro l _; rfl
  | cons d ds ih =>
    intro l h
    have hd := (goodD_iff.1 (h d List.mem_cons_self)).2.2.1
    have hr := fun l => @ih l (fun x hx => h x (List.mem_cons_of_mem _ hx))
    cases l <;> simp only [clipD, inDoms, Bool.and_eq_true, decide_eq_true_eq] <;> exact ⟨⟨by omega, by omega⟩, hr _⟩
def clipN (l : List Int) (i : Nat) (d : DomD) : Int := max d.2.1 (min (l.getD i 0) d.2.2)
theorem clipD_at {ds : List DomD} : ∀ {l : List Int} {k : Nat} {d : DomD}, ds[k]? = some d → (clipD ds l)[k]? = some (clipN l k d) := by
  induction ds with
  | nil => intro l k d h; simp at h
  | cons a ds ih =>
    intro l k d h
    cases k with
    | zero =>
      simp at h; subst h
      cases l <;> simp [clipD, clipN]
    | succ k =>
      simp at h
      cases l with
      | nil => simp [clipD, ih h, clipN]
      | cons n l => simp [clipD, ih h, clipN]

/-- a book in order, asked at numbers brought into its domains -/
theorem ask_clip {b : BookD} (hc : (checkV b).2.2 = 0) (l : List Int) : askV b (clipD b.doms l) = (ansL b (clipD b.doms l), 0) := by
  have hg := (check_ok hc).2.2.1
  unfold askV
  rw [if_neg (by simp [hc]), if_neg (by simp [clipD_length]), clipD_in (fun d hd => good_dom hg hd)]
  rfl

/- positions in an order -/
theorem order_before {ts : List TabD} (hn : (namesT ts).Nodup) {l : List ByteArray} (h : orderO ts = some l) {t : TabD} {s : ByteArray} (ht : t ∈ ts) (hs : s ∈ t.ins) (hm : s ∈ namesT ts) :
    ∃ i j : Nat, l[i]? = some t.name ∧ l[j]? = some s ∧ j < i := by
  have hP := orderO_facts hn h
  obtain ⟨i, hi⟩ := List.mem_iff_getElem?.1 ((hP.mem t.name).2 (List.mem_map.2 ⟨t, ht, rfl⟩))
  obtain ⟨j, hj⟩ := List.mem_iff_getElem?.1 ((hP.mem s).2 hm)
  exact ⟨i, j, hi, hj, hP.before hn (fun _ h => h) ht hs hi hj⟩
theorem order_length {ts : List TabD} (hn : (namesT ts).Nodup) {l : List ByteArray} (h : orderO ts = some l) : l.length = ts.length := by
  rw [(orderO_facts hn h).length hn]; simp [namesT]
theorem order_nodup {ts : List TabD} (hn : (namesT ts).Nodup) {l : List ByteArray} (h : orderO ts = some l) : l.Nodup := (orderO_facts hn h).nodup

end Go.Proofs.YtmdljknlbmlacabGreatDoor
