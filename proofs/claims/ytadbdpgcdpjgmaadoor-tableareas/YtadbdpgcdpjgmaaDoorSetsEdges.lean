/- Plain mathematics: inserting a number into an increasing list. No condition; no program is named. -/
import Derived.Test.YtadbdpgcdpjgmaaDoorSetsNorm
namespace Go.Proofs.YtadbdpgcdpjgmaaDoor

/-- increasing numbers within bounds -/
def Incr (l : List Int) : Prop := l.Pairwise (· < ·) ∧ ∀ x, x ∈ l → -1000000 ≤ x ∧ x ≤ 1000000
theorem incr_length_from {l : List Int} {a : Int} (h : l.Pairwise (· < ·)) (hb : ∀ x, x ∈ l → a ≤ x ∧ x ≤ 1000000) (ha : a ≤ 1000001) : (l.length : Int) ≤ 1000001 - a := by
  induction l generalizing a with
  | nil => simp; omega
  | cons x l ih =>
    obtain ⟨h1, h2⟩ := List.pairwise_cons.1 h
    have hx := hb x List.mem_cons_self
    have := ih (a := x + 1) h2 (fun y hy => ⟨h1 y hy, (hb y (List.mem_cons_of_mem _ hy)).2⟩) (by omega)
    rw [List.length_cons]; omega
theorem Incr.length_le {l : List Int} (h : Incr l) : l.length ≤ 2000001 := by
  have := incr_length_from (a := -1000000) h.1 h.2 (by omega)
  omega
theorem Incr.nil : Incr [] := ⟨List.Pairwise.nil, fun x hx => by simp at hx⟩
/-- l' is l with n -/
def Ins (n : Int) (l l' : List Int) : Prop := Incr l' ∧ ∀ x, x ∈ l' ↔ x ∈ l ∨ (x = n ∧ -1000000 ≤ n ∧ n ≤ 1000000)
theorem ins_out {n : Int} {l : List Int} (h : Incr l) (hn : ¬ (-1000000 ≤ n ∧ n ≤ 1000000)) : Ins n l l := ⟨h, fun _ => ⟨fun h => .inl h, fun h' => h'.elim id (fun h' => absurd h'.2 hn)⟩⟩
theorem ins_same {n : Int} {l : List Int} (h : Incr l) (hn : n ∈ l) : Ins n l l := ⟨h, fun _ => ⟨fun h => .inl h, fun h' => h'.elim id (fun h' => h'.1 ▸ hn)⟩⟩
theorem ins_at {n : Int} {l : List Int} {j : Nat} (h : Incr l) (h1 : -1000000 ≤ n) (h2 : n ≤ 1000000) (hj : j ≤ l.length) (hhi : ∀ i x, j ≤ i → l[i]? = some x → n < x) (hlo : j = 0 ∨ ∃ x, l[j - 1]? = some x ∧ x < n) :
    Ins n l (l.take j ++ n :: l.drop j) := by
  have hdrop : ∀ x, x ∈ l.drop j → n < x := by
    intro x hx
    obtain ⟨i, hi, e⟩ := List.mem_iff_getElem.1 hx
    rw [List.getElem_drop] at e
    exact hhi (j + i) x (by omega) (by rw [← e]; exact List.getElem?_eq_getElem _)
  have htake : ∀ x, x ∈ l.take j → x < n := by
    intro x hx
    obtain ⟨i, hi, e⟩ := List.mem_iff_getElem.1 hx
    rw [List.length_take] at hi
    rcases hlo with rfl | ⟨y, hy, hyn⟩
    · omega
    · obtain ⟨hy1, hy2⟩ := List.getElem?_eq_some_iff.1 hy
      rw [List.getElem_take] at e
      by_cases hij : i = j - 1
      · subst hij; omega
      · have := List.pairwise_iff_getElem.1 h.1 i (j - 1) (by omega) hy1 (by omega)
        omega
  refine ⟨⟨?_, ?_⟩, ?_⟩
  · rw [List.pairwise_append]
    refine ⟨h.1.sublist (List.take_sublist _ _), ?_, ?_⟩
    · rw [List.pairwise_cons]
      exact ⟨hdrop, h.1.sublist (List.drop_sublist _ _)⟩
    · intro a ha b hb
      have := htake a ha
      rcases List.mem_cons.1 hb with rfl | hb
      · exact this
      · have := hdrop b hb; omega
  · intro x hx
    rcases List.mem_append.1 hx with hx | hx
    · exact h.2 x (List.mem_of_mem_take hx)
    · rcases List.mem_cons.1 hx with rfl | hx
      · exact ⟨h1, h2⟩
      · exact h.2 x (List.mem_of_mem_drop hx)
  · intro x
    rw [List.mem_append, List.mem_cons]
    constructor
    · rintro (hx | rfl | hx)
      · exact .inl (List.mem_of_mem_take hx)
      · exact .inr ⟨rfl, h1, h2⟩
      · exact .inl (List.mem_of_mem_drop hx)
    · rintro (hx | ⟨rfl, _⟩)
      · rw [← List.take_append_drop j l] at hx
        rcases List.mem_append.1 hx with hx | hx
        · exact .inl hx
        · exact .inr (.inr hx)
      · exact .inr (.inl rfl)

/-- x is a number at which a set may begin or has ended -/
def EdgeIn (s : List (Int × Int)) (x : Int) : Prop := (-1000000 ≤ x ∧ x ≤ 1000000) ∧ ∃ r, r ∈ s ∧ (x = r.1 ∨ (r.2 < 1000000 ∧ x = r.2 + 1))
def EdgeOf (sets : List (List (Int × Int))) (x : Int) : Prop := x = -1000000 ∨ ∃ s, s ∈ sets ∧ EdgeIn s x
theorem edgeOf_at {sets : List (List (Int × Int))} {i : Nat} {s : List (Int × Int)} (h : sets[i]? = some s) (x : Int) : EdgeOf (sets.take (i + 1)) x ↔ EdgeOf (sets.take i) x ∨ EdgeIn s x := by
  unfold EdgeOf
  rw [take_at h]
  simp only [List.mem_append, List.mem_singleton]
  constructor
  · rintro (h | ⟨t, h | rfl, h'⟩)
    · exact .inl (.inl h)
    · exact .inl (.inr ⟨t, h, h'⟩)
    · exact .inr h'
  · rintro ((h | ⟨t, h, h'⟩) | h)
    · exact .inl h
    · exact .inr ⟨t, .inl h, h'⟩
    · exact .inr ⟨s, .inr rfl, h⟩
theorem edgeIn_at {s : List (Int × Int)} {j : Nat} {a b : Int} (h : s[j]? = some (a, b)) (x : Int) : EdgeIn (s.take (j + 1)) x ↔ EdgeIn (s.take j) x ∨ ((-1000000 ≤ x ∧ x ≤ 1000000) ∧ (x = a ∨ (b < 1000000 ∧ x = b + 1))) := by
  unfold EdgeIn
  rw [take_at h]
  simp only [List.mem_append, List.mem_singleton]
  constructor
  · rintro ⟨hb, r, h | rfl, h'⟩
    · exact .inl ⟨hb, r, h, h'⟩
    · exact .inr ⟨hb, h'⟩
  · rintro (⟨hb, r, h, h'⟩ | ⟨hb, h'⟩)
    · exact ⟨hb, r, .inl h, h'⟩
    · exact ⟨hb, (a, b), .inr rfl, h'⟩

end Go.Proofs.YtadbdpgcdpjgmaaDoor
