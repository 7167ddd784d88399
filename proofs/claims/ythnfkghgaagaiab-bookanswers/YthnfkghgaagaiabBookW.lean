/- Books as Lean data, more: what a book that Check lets pass has, its boxes, its answers, and positions in its order. No condition; no program is named. -/
import Derived.Test.YthnfkghgaagaiabBookV
namespace Go.Proofs.Ythnfkghgaagaiab

theorem check_ok {b : BookD} (h : (checkV b).2.2 = 0) :
    b.doms.length ≤ 4 ∧ b.tabs.length ≤ 4 ∧ goodDs b.doms = true ∧ goodTs b = true ∧ (∀ t, t ∈ b.tabs → boxOk b t.ins = true) ∧ (∃ l, orderO b.tabs = some l) ∧ ∀ t, t ∈ b.tabs → badT b t = none := by
  unfold checkV at h
  split at h
  · cases h
  · rename_i h1
    split at h
    · cases h
    · rename_i h2
      split at h
      · cases h
      · rename_i h3
        split at h
        · cases h
        · rename_i l h4
          split at h
          · rename_i t h5
            have hb := List.find?_some h5
            cases hbt : badT b t with
            | none => rw [hbt] at hb; cases hb
            | some r =>
              rw [hbt] at h
              unfold badT at hbt
              split at hbt
              · injection hbt with hbt; subst hbt; cases h
              · split at hbt
                · injection hbt with hbt; subst hbt; cases h
                · cases hbt
          · rename_i h5
            refine ⟨by omega, by omega, by simpa using fun e => h2 (.inl e), by simpa using fun e => h2 (.inr e), fun t ht => ?_, ⟨l, h4⟩, fun t ht => ?_⟩
            · have := List.find?_eq_none.1 h3 t ht
              simpa using this
            · have := List.find?_eq_none.1 h5 t ht
              simpa using this

theorem good_dom {b : BookD} (h : goodDs b.doms = true) {d : DomD} (hd : d ∈ b.doms) : goodD d = true := by
  unfold goodDs at h; rw [Bool.and_eq_true] at h; exact List.all_eq_true.1 h.1 d hd
theorem good_tab {b : BookD} (h : goodTs b = true) {t : TabD} (ht : t ∈ b.tabs) : goodT t = true := by
  unfold goodTs at h; simp only [Bool.and_eq_true] at h; exact List.all_eq_true.1 h.1.1 t ht
theorem good_nodup {b : BookD} (h : goodTs b = true) : (namesT b.tabs).Nodup := by
  unfold goodTs at h; simp only [Bool.and_eq_true] at h; exact rise_nodup h.1.2
theorem good_apart {b : BookD} (h : goodTs b = true) {t : TabD} (ht : t ∈ b.tabs) : findD b.doms t.name = none := by
  unfold goodTs at h; simp only [Bool.and_eq_true] at h; simpa using List.all_eq_true.1 h.2 t ht
theorem goodD_iff {d : DomD} : goodD d = true ↔ nameB d.1 = true ∧ -1000000 ≤ d.2.1 ∧ d.2.1 ≤ d.2.2 ∧ d.2.2 ≤ 1000000 := by simp [goodD, and_assoc]
theorem findD_some {l : List DomD} {s : ByteArray} {d : DomD} (h : findD l s = some d) : d ∈ l ∧ d.1 = s :=
  ⟨List.mem_of_find?_eq_some h, sameS_eq.1 (List.find?_some (p := fun d : DomD => sameS d.1 s) h)⟩
theorem findD_none {l : List DomD} {s : ByteArray} (h : findD l s = none) {d : DomD} (hd : d ∈ l) : d.1 ≠ s := by
  have := List.find?_eq_none.1 h d hd
  exact fun e => this (sameS_eq.2 e)

/-- the range of an input: where it is from -/
theorem rng_from {b : BookD} (hd : goodDs b.doms = true) (ht : goodTs b = true) {s : ByteArray} (h : (rngO b s).isSome = true) :
    ∃ r, rngO b s = some r ∧ goodB [r] = true ∧ ((∃ d, d ∈ b.doms ∧ d.1 = s ∧ findD b.doms s = some d ∧ r = (d.2.1, d.2.2)) ∨ (findD b.doms s = none ∧ ∃ t, t ∈ b.tabs ∧ t.name = s ∧ r = spanV t)) := by
  obtain ⟨r, hr⟩ := Option.isSome_iff_exists.1 h
  refine ⟨r, hr, ?_⟩
  unfold rngO at hr
  cases ha : allO b s with
  | none => rw [ha] at hr; cases hr
  | some q =>
    rw [ha] at hr
    simp only at hr
    split at hr
    · rename_i hin
      injection hr with hr
      subst hr
      simp only [inBd, Bool.and_eq_true, decide_eq_true_eq] at hin
      have good : q.1 ≤ q.2 → goodB [q] = true := by
        intro hle
        obtain ⟨x, y⟩ := q
        simp [goodB, goodFrom] at *
        omega
      unfold allO at ha
      cases hf : findD b.doms s with
      | some d =>
        rw [hf] at ha
        injection ha with ha
        subst ha
        obtain ⟨h1, h2⟩ := findD_some hf
        exact ⟨good (goodD_iff.1 (good_dom hd h1)).2.2.1, .inl ⟨d, h1, h2, rfl, rfl⟩⟩
      | none =>
        rw [hf] at ha
        simp only [Option.map_eq_some_iff] at ha
        obtain ⟨t, h1, rfl⟩ := ha
        obtain ⟨h2, h3⟩ := findT_some h1
        exact ⟨good (span_le (good_tab ht h2)), .inr ⟨rfl, t, h2, h3, rfl⟩⟩
    · cases hr

theorem box_good {b : BookD} (hd : goodDs b.doms = true) (ht : goodTs b = true) {l : List ByteArray} (h : boxOk b l = true) (hl : l.length ≤ 3) : goodBox (boxL b l) l.length = true := by
  have hs : setsB (boxL b l) = true := by
    unfold setsB boxL
    rw [List.all_map, List.all_eq_true]
    intro s hs
    obtain ⟨r, h1, h2, _⟩ := rng_from hd ht (List.all_eq_true.1 h s hs)
    simp [h1, h2]
  unfold goodBox
  rw [hs]
  simp [boxL]; omega

/- the answers -/
theorem domK_none {ds : List DomD} : ∀ {l : List Int} {k : ByteArray → Option AnsD} {s : ByteArray}, (∀ d, d ∈ ds → d.1 ≠ s) → domK ds l k s = k s := by
  induction ds with
  | nil => intro l k s _; rfl
  | cons d ds ih =>
    intro l k s h
    cases l with
    | nil => rfl
    | cons n l =>
      simp only [domK]
      rw [ih (fun x hx => h x (List.mem_cons_of_mem _ hx)), putA_other _ _ (Ne.symm (h d List.mem_cons_self))]
theorem domK_some {ds : List DomD} : ∀ {l : List Int} {k : ByteArray → Option AnsD} {d : DomD}, (ds.map (·.1)).Nodup → ds.length = l.length → inDoms ds l = true → d ∈ ds → ∃ n, domK ds l k d.1 = some (d.1, true, n) ∧ d.2.1 ≤ n ∧ n ≤ d.2.2 := by
  induction ds with
  | nil => intro l k d _ _ _ h; simp at h
  | cons a ds ih =>
    intro l k d hn hl hi hd
    cases l with
    | nil => simp at hl
    | cons n l =>
      simp only [inDoms, Bool.and_eq_true, decide_eq_true_eq] at hi
      rw [List.map_cons, List.nodup_cons] at hn
      simp only [domK]
      rcases List.mem_cons.1 hd with rfl | hd'
      · refine ⟨n, ?_, hi.1.1, hi.1.2⟩
        rw [domK_none (fun x hx e => hn.1 (List.mem_map.2 ⟨x, hx, e⟩)), putA_same]
      · exact ih hn.2 (by simpa using hl) hi.2 hd'

theorem hasBox_map {b : BookD} {k : ByteArray → Option AnsD} {l : List ByteArray} (h : ∀ s, s ∈ l → hasB [(rngO b s).getD (0, 0)] (numA k s) = true) : hasBox (boxL b l) (l.map (numA k)) = true := by
  induction l with
  | nil => rfl
  | cons s l ih =>
    have := ih (fun x hx => h x (List.mem_cons_of_mem _ hx))
    simp only [boxL, List.map_cons, hasBox, Bool.and_eq_true] at *
    exact ⟨h s List.mem_cons_self, this⟩

/-- what the answers of a book that is in order are -/
theorem ask_facts {b : BookD} (hc : (checkV b).2.2 = 0) {l : List Int} (hl : l.length = b.doms.length) (hi : inDoms b.doms l = true) :
    (∀ s, s ∉ namesT b.tabs → askR b l s = domK b.doms l (fun _ => none) s) ∧
    ∀ t, t ∈ b.tabs → askR b l t.name = some (ansOf (askR b l) t) ∧ (t.ins.all (foundA (askR b l)) = true →
      (saysV t (t.ins.map (numA (askR b l)))).2.2 = 0 ∧ (t.comp = true → (saysV t (t.ins.map (numA (askR b l)))).2.1 = true)) := by
  obtain ⟨h1, h2, hgd, hgt, hbox, ⟨o, ho⟩, hbad⟩ := check_ok hc
  have hnd := good_nodup hgt
  have hP := orderO_facts hnd ho
  have hsp := askK_spec hnd hP (domK b.doms l fun _ => none)
  have eo : askR b l = askK b.tabs o (domK b.doms l fun _ => none) := by unfold askR; rw [ho]; rfl
  rw [← eo] at hsp
  refine ⟨hsp.1, fun t ht => ⟨hsp.2 t ht (List.mem_map.2 ⟨t, ht, rfl⟩), fun hall => ?_⟩⟩
  have hg := good_tab hgt ht
  have hb := hbox t ht
  have hil : t.ins.length ≤ 3 := (goodIns_iff.1 (goodT_iff.1 hg).2.2.2.1).2.1
  have hgb := box_good hgd hgt hb hil
  have hdn : (b.doms.map (·.1)).Nodup := by
    have hgd' := hgd
    unfold goodDs at hgd'; rw [Bool.and_eq_true] at hgd'; exact rise_nodup hgd'.2
  have hhas : hasBox (boxL b t.ins) (t.ins.map (numA (askR b l))) = true := by
    refine hasBox_map fun s hs => ?_
    obtain ⟨r, hr, _, hfrom⟩ := rng_from hgd hgt (List.all_eq_true.1 hb s hs)
    have hfs := List.all_eq_true.1 hall s hs
    rw [hr, Option.getD_some, hasB_iff]
    refine ⟨r, by simp, ?_⟩
    rcases hfrom with ⟨d, hd, rfl, hfd, rfl⟩ | ⟨hfd, u, hu, rfl, rfl⟩
    · have hnt : d.1 ∉ namesT b.tabs := by
        intro hm
        obtain ⟨u, hu, e⟩ := List.mem_map.1 hm
        have := good_apart hgt hu
        rw [e, hfd] at this; cases this
      obtain ⟨n, hn, hn1, hn2⟩ := domK_some (k := fun _ => none) hdn hl.symm hi hd
      have e1 : numA (askR b l) d.1 = n := by unfold numA; rw [hsp.1 _ hnt, hn]; rfl
      rw [e1]; exact ⟨hn1, hn2⟩
    · have e2 := hsp.2 u hu (List.mem_map.2 ⟨u, hu, rfl⟩)
      unfold foundA at hfs
      unfold numA
      rw [e2] at hfs ⊢
      simp only [Option.map_some, Option.getD_some] at hfs ⊢
      unfold ansOf at hfs ⊢
      split at hfs
      · rename_i h; rw [if_pos h]; exact says_span (good_tab hgt hu) hfs
      · cases hfs
  have hbt := hbad t ht
  unfold badT at hbt
  split at hbt
  · cases hbt
  · rename_i hcl
    have h0 := (one_facts hg hgb hhas).2 (by simpa using hcl)
    refine ⟨h0, fun hcm => ?_⟩
    rw [hcm] at hbt
    split at hbt
    · cases hbt
    · rename_i hgp
      have hgp' : (gapV t (boxL b t.ins)).2 = false := by simpa using hgp
      have := (whole_facts hg hgb hhas).1
      cases hq : (saysV t (t.ins.map (numA (askR b l)))).2.1
      · exact absurd ⟨hgp', h0, hq⟩ this
      · rfl

/- what a reader of the answers knows -/
def putsA : List AnsD → (ByteArray → Option AnsD) → ByteArray → Option AnsD
  | [], k => k
  | a :: l, k => putsA l (putA k a.1 a)
def domL : List DomD → List Int → (ByteArray → Option AnsD) → ByteArray → Option AnsD
  | d :: l, n :: m, k => domL l m (putA k d.1 (noS, true, n))
  | _, _, k => k
theorem domL_same {ds : List DomD} : ∀ {l : List Int} {k k' : ByteArray → Option AnsD} (s : ByteArray), (k s).map (·.2) = (k' s).map (·.2) → (domL ds l k s).map (·.2) = (domK ds l k' s).map (·.2) := by
  induction ds with
  | nil => intro l k k' s h; exact h
  | cons d ds ih =>
    intro l k k' s h
    cases l with
    | nil => exact h
    | cons n l =>
      simp only [domL, domK]
      refine ih s ?_
      unfold putA
      split
      · rfl
      · exact h
theorem putsA_none {l : List AnsD} : ∀ {k : ByteArray → Option AnsD} {s : ByteArray}, (∀ a, a ∈ l → a.1 ≠ s) → putsA l k s = k s := by
  induction l with
  | nil => intro k s _; rfl
  | cons a l ih =>
    intro k s h
    simp only [putsA]
    rw [ih (fun x hx => h x (List.mem_cons_of_mem _ hx)), putA_other _ _ (Ne.symm (h a List.mem_cons_self))]
theorem putsA_some {l : List AnsD} : ∀ {k : ByteArray → Option AnsD} {a : AnsD}, (l.map (·.1)).Nodup → a ∈ l → putsA l k a.1 = some a := by
  induction l with
  | nil => intro k a _ h; simp at h
  | cons x l ih =>
    intro k a hn ha
    rw [List.map_cons, List.nodup_cons] at hn
    simp only [putsA]
    rcases List.mem_cons.1 ha with rfl | h
    · rw [putsA_none (fun y hy e => hn.1 (List.mem_map.2 ⟨y, hy, e⟩)), putA_same]
    · exact ih hn.2 h
theorem found_congr {k k' : ByteArray → Option AnsD} {s : ByteArray} (h : (k s).map (·.2) = (k' s).map (·.2)) : foundA k s = foundA k' s ∧ numA k s = numA k' s := by
  unfold foundA numA
  cases h1 : k s <;> cases h2 : k' s <;> rw [h1, h2] at h <;> simp at h ⊢
  rw [h]; exact ⟨rfl, rfl⟩

def ansL (b : BookD) (l : List Int) : List AnsD := b.tabs.map fun t => (askR b l t.name).getD zeroA
def readK (b : BookD) (l : List Int) : ByteArray → Option AnsD := putsA (ansL b l) (domL b.doms l fun _ => none)
theorem ansL_eq {b : BookD} (hc : (checkV b).2.2 = 0) {l : List Int} (hl : l.length = b.doms.length) (hi : inDoms b.doms l = true) : ansL b l = b.tabs.map fun t => ansOf (askR b l) t := by
  refine List.map_congr_left fun t ht => ?_
  rw [((ask_facts hc hl hi).2 t ht).1]; rfl
theorem ansOf_name {k : ByteArray → Option AnsD} {t : TabD} : (ansOf k t).1 = t.name := by unfold ansOf; split <;> rfl
theorem read_facts {b : BookD} (hc : (checkV b).2.2 = 0) {l : List Int} (hl : l.length = b.doms.length) (hi : inDoms b.doms l = true) (s : ByteArray) : ((readK b l) s).map (·.2) = ((askR b l) s).map (·.2) := by
  obtain ⟨f1, f2⟩ := ask_facts hc hl hi
  have hnd := good_nodup (check_ok hc).2.2.2.1
  have el := ansL_eq hc hl hi
  have en : (ansL b l).map (·.1) = namesT b.tabs := by
    rw [el, List.map_map]; exact List.map_congr_left fun t _ => ansOf_name
  unfold readK
  by_cases hs : s ∈ namesT b.tabs
  · obtain ⟨t, ht, rfl⟩ := List.mem_map.1 hs
    have hm : ansOf (askR b l) t ∈ ansL b l := by rw [el]; exact List.mem_map.2 ⟨t, ht, rfl⟩
    have := putsA_some (k := domL b.doms l fun _ => none) (by rw [en]; exact hnd) hm
    rw [ansOf_name] at this
    rw [this, (f2 t ht).1]
  · rw [f1 s hs, putsA_none]
    · exact domL_same s rfl
    · intro a ha e
      exact hs (by rw [← en, ← e]; exact List.mem_map.2 ⟨a, ha, rfl⟩)

/-- each table says what it says of what the others say -/
theorem answers_facts {b : BookD} (hc : (checkV b).2.2 = 0) {l : List Int} (hl : l.length = b.doms.length) (hi : inDoms b.doms l = true) {i : Nat} {t : TabD} (ht : b.tabs[i]? = some t) :
    ∃ a, (ansL b l)[i]? = some a ∧ a.1 = t.name ∧ (t.ins.all (foundA (readK b l)) = false → a.2.1 = false) ∧
      (t.ins.all (foundA (readK b l)) = true → a.2.1 = (saysV t (t.ins.map (numA (readK b l)))).2.1 ∧ a.2.2 = (saysV t (t.ins.map (numA (readK b l)))).1 ∧ (saysV t (t.ins.map (numA (readK b l)))).2.2 = 0 ∧ (t.comp = true → (saysV t (t.ins.map (numA (readK b l)))).2.1 = true)) := by
  have hm := List.mem_of_getElem? ht
  obtain ⟨f1, f2⟩ := ask_facts hc hl hi
  have e1 : t.ins.all (foundA (readK b l)) = t.ins.all (foundA (askR b l)) := by
    have : foundA (readK b l) = foundA (askR b l) := funext fun s => (found_congr (read_facts hc hl hi s)).1
    rw [this]
  have e2 : numA (readK b l) = numA (askR b l) := funext fun s => (found_congr (read_facts hc hl hi s)).2
  refine ⟨ansOf (askR b l) t, ?_, ansOf_name, ?_, ?_⟩
  · rw [ansL_eq hc hl hi, List.getElem?_map, ht]; rfl
  · rw [e1]; intro h; unfold ansOf; rw [if_neg (by rw [h]; decide)]
  · rw [e1, e2]
    intro h
    obtain ⟨g1, g2⟩ := (f2 t hm).2 h
    unfold ansOf
    rw [if_pos h]
    exact ⟨rfl, rfl, g1, g2⟩

/- numbers brought into domains -/
def clipD : List DomD → List Int → List Int
  | [], _ => []
  | d :: ds, [] => max d.2.1 (min 0 d.2.2) :: clipD ds []
  | d :: ds, n :: l => max d.2.1 (min n d.2.2) :: clipD ds l
theorem clipD_length {ds : List DomD} : ∀ {l : List Int}, (clipD ds l).length = ds.length := by
  induction ds with
  | nil => intro l; rfl
  | cons d ds ih => intro l; cases l <;> simp [clipD, ih]
theorem clipD_in {ds : List DomD} : ∀ {l : List Int}, (∀ d, d ∈ ds → goodD d = true) → inDoms ds (clipD ds l) = true := by
  induction ds with
  | nil => intro l _; rfl
  | cons d ds ih =>
    intro l h
    have hd := (goodD_iff.1 (h d List.mem_cons_self)).2.2.1
    have hr := fun l => @ih l (fun x hx => h x (List.mem_cons_of_mem _ hx))
    cases l <;> simp only [clipD, inDoms, Bool.and_eq_true, decide_eq_true_eq] <;> exact ⟨⟨by omega, by omega⟩, hr _⟩
def clipN (l : List Int) (i : Nat) (d : DomD) : Int := max d.2.1 (min (l.getD i 0) d.2.2)
theorem clipD_at {ds : List DomD} : ∀ {l : List Int} {k : Nat} {d : DomD}, ds[k]? = some d → (clipD ds l)[k]? = some (clipN l k d) := by
  induction ds with
  | nil => intro l k d h; simp at h
  | cons a ds ih =>
    intro l k d h
    cases k with
    | zero =>
      simp at h; subst h
      cases l <;> simp [clipD, clipN]
    | succ k =>
      simp at h
      cases l with
      | nil => simp [clipD, ih h, clipN]
      | cons n l => simp [clipD, ih h, clipN]

/-- a book in order, asked at numbers brought into its domains -/
theorem ask_clip {b : BookD} (hc : (checkV b).2.2 = 0) (l : List Int) : askV b (clipD b.doms l) = (ansL b (clipD b.doms l), 0) := by
  have hg := (check_ok hc).2.2.1
  unfold askV
  rw [if_neg (by simp [hc]), if_neg (by simp [clipD_length]), clipD_in (fun d hd => good_dom hg hd)]
  rfl

/- positions in an order -/
theorem order_before {ts : List TabD} (hn : (namesT ts).Nodup) {l : List ByteArray} (h : orderO ts = some l) {t : TabD} {s : ByteArray} (ht : t ∈ ts) (hs : s ∈ t.ins) (hm : s ∈ namesT ts) :
    ∃ i j : Nat, l[i]? = some t.name ∧ l[j]? = some s ∧ j < i := by
  have hP := orderO_facts hn h
  obtain ⟨i, hi⟩ := List.mem_iff_getElem?.1 ((hP.mem t.name).2 (List.mem_map.2 ⟨t, ht, rfl⟩))
  obtain ⟨j, hj⟩ := List.mem_iff_getElem?.1 ((hP.mem s).2 hm)
  exact ⟨i, j, hi, hj, hP.before hn (fun _ h => h) ht hs hi hj⟩
theorem order_length {ts : List TabD} (hn : (namesT ts).Nodup) {l : List ByteArray} (h : orderO ts = some l) : l.length = ts.length := by
  rw [(orderO_facts hn h).length hn]; simp [namesT]
theorem order_nodup {ts : List TabD} (hn : (namesT ts).Nodup) {l : List ByteArray} (h : orderO ts = some l) : l.Nodup := (orderO_facts hn h).nodup

end Go.Proofs.Ythnfkghgaagaiab
