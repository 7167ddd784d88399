/- The reference's search: the first input, in the order of inputs, among those whose numbers are edges; it is the least of all where what is asked changes at edges alone. No condition; no program is named. -/
import Derived.Test.YtiejicjknenneaaGreatDoorTabsGap
namespace Go.Proofs.YtiejicjknenneaaGreatDoor

def walkF (f : List Int → Bool) : List (List Int) → List Int → Option (List Int)
  | [], pre => if f pre then some pre else none
  | l :: rest, pre => l.findSome? fun n => walkF f rest (pre ++ [n])
def inProd : List (List Int) → List Int → Prop
  | [], [] => True
  | l :: at', n :: j => n ∈ l ∧ inProd at' j
  | _, _ => False
theorem walkF_none {f : List Int → Bool} : ∀ {at' : List (List Int)} {pre : List Int}, walkF f at' pre = none → ∀ k, inProd at' k → f (pre ++ k) = false
  | [], pre, h, k, hk => by
    cases k with
    | nil =>
      simp only [walkF] at h
      rw [List.append_nil]
      cases hf : f pre
      · rfl
      · rw [hf] at h; simp at h
    | cons n k => exact hk.elim
  | l :: at', pre, h, k, hk => by
    cases k with
    | nil => exact hk.elim
    | cons n k =>
      simp only [walkF, List.findSome?_eq_none_iff] at h
      have := walkF_none (h n hk.1) k hk.2
      simpa using this
theorem walkF_some {f : List Int → Bool} : ∀ {at' : List (List Int)} {pre i : List Int}, (∀ l ∈ at', l.Pairwise (· < ·)) → walkF f at' pre = some i → ∃ j, i = pre ++ j ∧ inProd at' j ∧ f i = true ∧ ∀ k, inProd at' k → lexLt k j = true → f (pre ++ k) = false
  | [], pre, i, _, h => by
    simp only [walkF] at h
    split at h
    · rename_i hf
      injection h with h
      subst h
      refine ⟨[], by simp, trivial, hf, fun k hk hl => ?_⟩
      cases k with
      | nil => rw [lexLt_irrefl] at hl; cases hl
      | cons n k => exact hk.elim
    · cases h
  | l :: at', pre, i, hp, h => by
    simp only [walkF] at h
    obtain ⟨l1, n, l2, hl, hn, hl1⟩ := List.findSome?_eq_some_iff.1 h
    obtain ⟨j, h1, h2, h3, h4⟩ := walkF_some (fun m hm => hp m (by simp [hm])) hn
    refine ⟨n :: j, by rw [h1]; simp, ⟨by rw [hl]; simp, h2⟩, h3, fun k hk hlt => ?_⟩
    cases k with
    | nil => exact hk.elim
    | cons m k =>
      rw [lexLt_cons] at hlt
      rcases hlt with hlt | ⟨rfl, hlt⟩
      · have hm : m ∈ l1 := by
          have hml := hk.1
          rw [hl] at hml
          rcases List.mem_append.1 hml with hml | hml
          · exact hml
          · exfalso
            have hpl := hp l (by simp)
            rw [hl] at hpl
            have := (List.pairwise_append.1 hpl).2.1
            rcases List.mem_cons.1 hml with rfl | hml
            · omega
            · have := (List.pairwise_cons.1 this).1 m hml
              omega
        have := walkF_none (hl1 m hm) k hk.2
        simpa using this
      · have := h4 k hk.2 hlt
        simpa using this
def srchV (f : List Int → Bool) (at' : List (List Int)) : List Int × Bool := match walkF f at' [] with
  | some i => (i, true)
  | none => ([], false)
/-- no number of k is greater than that of i -/
def leAll : List Int → List Int → Prop
  | [], [] => True
  | n :: k, m :: i => n ≤ m ∧ leAll k i
  | _, _ => False
theorem leAll_lex : ∀ {k i : List Int}, leAll k i → lexLt i k = false
  | [], [], _ => lexLt_irrefl []
  | [], _ :: _, h => h.elim
  | _ :: _, [], h => h.elim
  | n :: k, m :: i, h => by
    cases hh : lexLt (m :: i) (n :: k)
    · rfl
    · rw [lexLt_cons] at hh
      have := h.1
      rcases hh with hh | ⟨_, hh⟩
      · omega
      · rw [leAll_lex h.2] at hh; cases hh
def inBoxes : BoxD → List (List Int) → Prop
  | [], [] => True
  | s :: a, l :: at' => (∀ n ∈ l, hasB s n = true) ∧ inBoxes a at'
  | _, _ => False
theorem inProd_box : ∀ {a : BoxD} {at' : List (List Int)} {j : List Int}, inBoxes a at' → inProd at' j → hasBox a j = true
  | [], [], [], _, _ => rfl
  | [], [], _ :: _, _, h => h.elim
  | [], _ :: _, _, h, _ => h.elim
  | _ :: _, [], _, h, _ => h.elim
  | s :: a, l :: at', [], _, h => h.elim
  | s :: a, l :: at', n :: j, h, hj => by
    simp only [hasBox, Bool.and_eq_true]
    exact ⟨h.1 n hj.1, inProd_box h.2 hj.2⟩
theorem srch_least {a : BoxD} {at' : List (List Int)} {f : List Int → Bool} (hb : inBoxes a at') (hp : ∀ l ∈ at', l.Pairwise (· < ·)) (hs : ∀ i, hasBox a i = true → ∃ k, inProd at' k ∧ leAll k i ∧ f k = f i) : Least a f (srchV f at') := by
  unfold srchV
  cases h : walkF f at' [] with
  | none =>
    refine ⟨fun hh => (by cases hh), fun _ => ⟨rfl, fun i hi => ?_⟩⟩
    obtain ⟨k, k1, k2, k3⟩ := hs i hi
    have := walkF_none h k k1
    rw [List.nil_append, k3] at this
    exact this
  | some i =>
    obtain ⟨j, h1, h2, h3, h4⟩ := walkF_some hp h
    rw [List.nil_append] at h1
    subst h1
    refine ⟨fun _ => ⟨inProd_box hb h2, h3, fun i' hi' hf' => ?_⟩, fun hh => (by cases hh)⟩
    obtain ⟨k, k1, k2, k3⟩ := hs i' hi'
    cases hl : lexLt i' i
    · rfl
    · have hle := leAll_lex k2
      have hk : lexLt k i = true := by
        cases hki : lexLt k i
        · -- i ≤ k ≤ i' < i
          have := lexLt_le hl hki
          rw [hle] at this; cases this
        · rfl
      have := h4 k k1 hk
      rw [List.nil_append, k3, hf'] at this
      cases this

/- the edges of the box's set and of the rules' cells, coordinate by coordinate -/
def colSets (s : List (Int × Int)) (rules : List RuleD) (i : Nat) : List (List (Int × Int)) := s :: rules.map fun r => (r.1.getD i (false, [])).2
/-- E is the sorted list of all edges of the sets -/
def EdgesOf (sets : List (List (Int × Int))) (E : List Int) : Prop := Incr E ∧ ∀ x, x ∈ E ↔ EdgeOf sets x
/-- at' holds, from the coordinate i on, the edges that lie in the box's sets -/
def Cols (rules : List RuleD) : Nat → BoxD → List (List Int) → Prop
  | _, [], [] => True
  | i, s :: a, l :: at' => (∃ E, EdgesOf (colSets s rules i) E ∧ l = E.filter (hasB s)) ∧ Cols rules (i + 1) a at'
  | _, _, _ => False
theorem Cols.boxes {rules : List RuleD} : ∀ {a : BoxD} {at' : List (List Int)} {i : Nat}, Cols rules i a at' → inBoxes a at'
  | [], [], _, _ => trivial
  | [], _ :: _, _, h => h.elim
  | _ :: _, [], _, h => h.elim
  | s :: a, l :: at', i, h => by
    obtain ⟨⟨E, _, rfl⟩, h2⟩ := h
    exact ⟨fun n hn => (List.mem_filter.1 hn).2, Cols.boxes h2⟩
theorem Cols.pair {rules : List RuleD} : ∀ {a : BoxD} {at' : List (List Int)} {i : Nat}, Cols rules i a at' → ∀ l ∈ at', l.Pairwise (· < ·)
  | [], [], _, _ => by simp
  | [], _ :: _, _, h => h.elim
  | _ :: _, [], _, h => h.elim
  | s :: a, l :: at', i, h => by
    obtain ⟨⟨E, hE, rfl⟩, h2⟩ := h
    intro m hm
    rcases List.mem_cons.1 hm with rfl | hm
    · exact hE.1.1.sublist List.filter_sublist
    · exact Cols.pair h2 m hm
/-- the greatest edge that is not greater -/
theorem edge_below {E : List Int} {n : Int} (hp : E.Pairwise (· < ·)) (h0 : ∃ x, x ∈ E ∧ x ≤ n) : ∃ i e, E[i]? = some e ∧ e ≤ n ∧ ∀ m, E[i + 1]? = some m → n < m := by
  induction E with
  | nil => obtain ⟨x, hx, _⟩ := h0; simp at hx
  | cons a E ih =>
    obtain ⟨h1, h2⟩ := List.pairwise_cons.1 hp
    by_cases hh : ∃ x, x ∈ E ∧ x ≤ n
    · obtain ⟨i, e, k1, k2, k3⟩ := ih h2 hh
      exact ⟨i + 1, e, by simpa using k1, k2, fun m hm => k3 m (by simpa using hm)⟩
    · refine ⟨0, a, rfl, ?_, fun m hm => ?_⟩
      · obtain ⟨x, hx, hxn⟩ := h0
        rcases List.mem_cons.1 hx with rfl | hx
        · exact hxn
        · exact absurd ⟨x, hx, hxn⟩ hh
      · have hm' : m ∈ E := List.mem_of_getElem? (by simpa using hm)
        by_cases h : n < m
        · exact h
        · exact absurd ⟨m, hm', by omega⟩ hh
theorem snap_one {sets : List (List (Int × Int))} {E : List Int} {n : Int} (hE : EdgesOf sets E) (hn : -1000000 ≤ n ∧ n ≤ 1000000) : ∃ e, e ∈ E ∧ e ≤ n ∧ ∀ s, s ∈ sets → hasB s n = hasB s e := by
  obtain ⟨i, e, h1, h2, h3⟩ := edge_below hE.1.1 ⟨-1000000, (hE.2 _).2 (.inl rfl), hn.1⟩
  refine ⟨e, List.mem_of_getElem? h1, h2, fun s hs => has_const hE.1 hE.2 hs h1 h2 ?_⟩
  by_cases hk : i + 1 < E.length
  · have e1 : endOf (E.drop (i + 1)) = E[i + 1] - 1 := endOf_some (List.getElem?_eq_getElem hk)
    have := h3 _ (List.getElem?_eq_getElem hk)
    omega
  · have e1 := endOf_none (l := E) (k := i + 1) (by omega)
    omega
/-- the cells of the rules, from the coordinate i on, hold alike of the two inputs -/
def alikeAt (rules : List RuleD) (i : Nat) (n e : Int) : Prop := ∀ r, r ∈ rules → hasB (r.1.getD i (false, [])).2 n = hasB (r.1.getD i (false, [])).2 e
def Alike (rules : List RuleD) : Nat → List Int → List Int → Prop
  | _, [], [] => True
  | i, n :: l, e :: k => alikeAt rules i n e ∧ Alike rules (i + 1) l k
  | _, _, _ => False
theorem snap_all {rules : List RuleD} : ∀ {a : BoxD} {at' : List (List Int)} {c : Nat} {i : List Int}, setsB a = true → Cols rules c a at' → hasBox a i = true → ∃ k, inProd at' k ∧ leAll k i ∧ Alike rules c i k
  | [], [], _, [], _, _, _ => ⟨[], trivial, trivial, trivial⟩
  | [], [], _, _ :: _, _, _, h => by simp [hasBox] at h
  | [], _ :: _, _, _, _, h, _ => h.elim
  | _ :: _, [], _, _, _, h, _ => h.elim
  | s :: a, l :: at', c, [], _, _, h => by simp [hasBox] at h
  | s :: a, l :: at', c, n :: i, hg, hC, h => by
    obtain ⟨⟨E, hE, rfl⟩, h2⟩ := hC
    simp only [hasBox, Bool.and_eq_true] at h
    simp only [setsB, List.all_cons, Bool.and_eq_true] at hg
    obtain ⟨k, k1, k2, k3⟩ := snap_all (a := a) (by unfold setsB; exact hg.2) h2 h.2
    have hn : -1000000 ≤ n ∧ n ≤ 1000000 := good_in hg.1.2 h.1
    obtain ⟨e, e1, e2, e3⟩ := snap_one hE hn
    refine ⟨e :: k, ⟨List.mem_filter.2 ⟨e1, ?_⟩, k1⟩, ⟨e2, k2⟩, fun r hr => e3 _ ?_, k3⟩
    · rw [← e3 s (by simp [colSets])]; exact h.1
    · unfold colSets
      exact List.mem_cons_of_mem _ (List.mem_map.2 ⟨r, hr, rfl⟩)
theorem match_alike {rules : List RuleD} {r : RuleD} (hr : r ∈ rules) : ∀ {cs : List CellD} {c : Nat} {i k : List Int}, r.1.drop c = cs → Alike rules c i k → matchC cs i = matchC cs k
  | [], _, [], [], _, _ => rfl
  | [], _, [], _ :: _, _, h => h.elim
  | [], _, _ :: _, [], _, h => h.elim
  | [], _, _ :: _, _ :: _, _, _ => rfl
  | _ :: _, _, [], [], _, _ => rfl
  | _ :: _, _, [], _ :: _, _, h => h.elim
  | _ :: _, _, _ :: _, [], _, h => h.elim
  | q :: cs, c, n :: i, e :: k, hd, h => by
    have hq : r.1[c]? = some q := by
      have := congrArg (·[0]?) hd
      simpa [List.getElem?_drop] using this
    have hd' : r.1.drop (c + 1) = cs := by
      have := congrArg (·.drop 1) hd
      simpa [List.drop_drop] using this
    have h1 := h.1 r hr
    rw [List.getD, hq] at h1
    simp only [Option.getD_some] at h1
    simp only [matchC]
    rw [match_alike hr hd' h.2]
    unfold holdsC
    rw [h1]
theorem outs_alike {rules : List RuleD} {i k : List Int} (h : Alike rules 0 i k) : outsL rules i = outsL rules k := by
  unfold outsL
  congr 1
  refine List.filter_congr fun r hr => ?_
  exact match_alike hr (c := 0) (by simp) h
/-- what is asked of an input hangs on the rules that match alone -/
theorem srch_ok {t : TabD} {a : BoxD} {at' : List (List Int)} {f : List Int → Bool} (g : List Int → Bool) (hf : ∀ i, f i = g (outsL t.rules i)) (hg : setsB a = true) (hC : Cols t.rules 0 a at') : Least a f (srchV f at') :=
  srch_least hC.boxes hC.pair fun i hi => by
    obtain ⟨k, k1, k2, k3⟩ := snap_all hg hC hi
    exact ⟨k, k1, k2, by rw [hf, hf, outs_alike k3]⟩

end Go.Proofs.YtiejicjknenneaaGreatDoor
