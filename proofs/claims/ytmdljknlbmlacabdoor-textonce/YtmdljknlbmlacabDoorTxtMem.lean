/- The parser's state in memory, and what a call that writes it and new memory alone keeps; how far the parser's functions read. No condition; no program is named. -/
import Derived.Test.YtmdljknlbmlacabDoorTxtBack
import Derived.Test.YtmdljknlbmlacabDoorMemMore
namespace Go.Proofs.YtmdljknlbmlacabDoor
open Go.RowKit

def bs (l : Bs) : ByteArray := ⟨l.toArray⟩
theorem bs_data (l : Bs) : (bs l).data.toList = l := by simp [bs]
theorem bs_size (l : Bs) : (bs l).size = l.length := by show (bs l).data.size = _; simp [bs]
theorem bs_of (s : ByteArray) : bs s.data.toList = s := by cases s; simp [bs]

/-- the parser at block g: what is left to read, and whether an error has occurred -/
def PA (w : World) (g : Nat) (p : PS) : Prop :=
  g < w.heap.size ∧ w.cell? ⟨g, 0, none⟩ = some (.string (bs p.rest)) ∧ w.cell? ⟨g, 1, none⟩ = some (.bool p.bad) ∧ w.frozen? ⟨g, 0, none⟩ = false ∧ w.frozen? ⟨g, 1, none⟩ = false
section
variable {w w' w2 : World} {g : Nat} {p : PS}
theorem PA.keep (h : PA w g p) (hb : w'.heap[g]? = w.heap[g]?) (hs : w.heap.size ≤ w'.heap.size) : PA w' g p := by
  obtain ⟨h0, h1, h2, h3, h4⟩ := h
  exact ⟨Nat.lt_of_lt_of_le h0 hs, (World.cell?_of_block hb).trans h1, (World.cell?_of_block hb).trans h2, (World.frozen?_of_block hb).trans h3, (World.frozen?_of_block hb).trans h4⟩
theorem PA.next (h : PA w g p) (hb : Below w.heap.size w w') : PA w' g p := h.keep (hb.block g h.1) hb.size
theorem PA.set0 (h : PA w g p) (l : Bs) : PA (w.setCell ⟨g, 0, none⟩ (.string (bs l))) g ⟨l, p.bad⟩ := by
  obtain ⟨h0, h1, h2, h3, h4⟩ := h
  exact ⟨by simpa [World.setCell] using h0, World.cell?_setCell_same w _ _ h1, (World.cell?_setCell_other w _ _ _ (by simp)).trans h2, by simpa using h3, by simpa using h4⟩
theorem PA.set1 (h : PA w g p) (b : Bool) : PA (w.setCell ⟨g, 1, none⟩ (.bool b)) g ⟨p.rest, b⟩ := by
  obtain ⟨h0, h1, h2, h3, h4⟩ := h
  exact ⟨by simpa [World.setCell] using h0, (World.cell?_setCell_other w _ _ _ (by simp)).trans h1, World.cell?_setCell_same w _ _ h2, by simpa using h3, by simpa using h4⟩
theorem PA.new (w : World) (l : Bs) (ty : Nat) : PA (w.alloc (.cells #[.string (bs l), .bool false] ty)) w.heap.size ⟨l, false⟩ :=
  ⟨by simp, (World.cell?_alloc_new ..).trans rfl, (World.cell?_alloc_new ..).trans rfl, by simp, by simp⟩
theorem grown_refl (w : World) (r : Option Nat) : w.grownBy w r := ⟨rfl, rfl, rfl, Nat.le_refl _, fun _ _ _ => rfl⟩
theorem grown_set (w : World) (g o : Nat) (v : Value) : w.grownBy (w.setCell ⟨g, o, none⟩ v) (some g) :=
  ⟨rfl, rfl, rfl, by simp [World.setCell], fun k _ hk => RowKit.Below.heap_setCell _ _ _ _ (by intro h; apply hk; rw [h])⟩
theorem grown_below (h : Below w.heap.size w w') : w.grownBy w' (some g) := grown_of_below h
/-- memory apart from the parser's block stands -/
theorem Sl.grown {α : Type} {E : Enc α} {S : Nat → Prop} {l : List α} {v : Value} (h : Sl E w S l v) (hg : w.grownBy w' (some g)) (hS : ∀ k, S k → k < w.heap.size ∧ k ≠ g) : Sl E w' S l v :=
  h.keep fun q hq => World.cell?_of_block (hg.block _ (hS _ hq).1 (by intro e; injection e with e; exact (hS _ hq).2 e))
theorem Sl.grownFrom {α : Type} {E : Enc α} {lo : Nat} {l : List α} {v : Value} (h : Sl E w (From lo w) l v) (hg : w.grownBy w' (some g)) (hlo : g < lo) : Sl E w' (From lo w') l v :=
  (h.grown hg fun k hk => ⟨hk.2, by have := hk.1; omega⟩).more fun k hk => ⟨hk.1, Nat.lt_of_lt_of_le hk.2 hg.size⟩
theorem OwnG.grownP {α : Type} {E : Enc α} {base lo e : Nat} {v : Value} {l : List α} (h : OwnG E w base lo e v l) (hg : w.grownBy w' (some g)) (h1 : g < lo) (h2 : g < base) : OwnG E w' base lo e v l := by
  have hlt := h.lt
  obtain ⟨us, k1, k2⟩ := h
  refine ⟨us, ownsRow_keep k1 (fun b hb => hg.block b (hlt b hb).2 (by intro e; injection e with e; have := (hlt b hb).1; omega)), ?_⟩
  refine (k2.keep (w' := w') fun q hq => World.cell?_of_block (hg.block _ hq.2.1 (by intro e; injection e with e; have := hq.1; omega))).more fun k hk => ⟨hk.1, Nat.lt_of_lt_of_le hk.2.1 hg.size, hk.2.2⟩
end

/- how far they read -/
theorem wordP_len (p : PS) : (wordP p).2.rest.length ≤ p.rest.length := Nat.le_trans (List.dropWhile_sublist _).length_le (skip_len _)
theorem takesP_len (s : Bs) (p : PS) : (takesP s p).2.rest.length + (if (takesP s p).1 then s.length else 0) ≤ p.rest.length := by
  have := skip_len p.rest
  unfold takesP
  by_cases h : s.isPrefixOf (skipL p.rest) = true
  · simp only [h, if_true, List.length_drop]
    have := (List.isPrefixOf_iff_prefix.1 h).length_le
    omega
  · simp only [Bool.not_eq_true] at h
    simp only [h, Bool.false_eq_true, if_false]
    omega
theorem wantsP_len (s : Bs) (p : PS) : (wantsP s p).rest.length + (if (wantsP s p).bad then 0 else s.length) ≤ p.rest.length := by
  have := takesP_len s p
  unfold wantsP
  simp only
  cases h : (takesP s p).1 <;> rw [h] at this <;> cases p.bad <;> simp at this ⊢ <;> omega
theorem numberP_len (p : PS) : (numberP p).2.rest.length ≤ p.rest.length := by
  have := skip_len p.rest
  unfold numberP
  split <;> simp only [List.length_drop] <;> omega
theorem optionP_len (s : Bs) (p : PS) : (optionP s p).2.rest.length ≤ p.rest.length := wordP_len p
theorem rangeP_len (p : PS) : (rangeP p).2.rest.length ≤ p.rest.length := by
  have a := numberP_len p
  have b := takesP_len [46, 46] (numberP p).2
  have c := numberP_len (takesP [46, 46] (numberP p).2).2
  unfold rangeP
  split <;> simp only <;> omega
theorem sepP_len {α : Type} {item : PS → α × PS} (hi : ∀ p, (item p).2.rest.length ≤ p.rest.length) {s : Bs} (hs : 1 ≤ s.length) : ∀ (n : Nat) (p : PS), (sepP item s n p).2.rest.length + (sepP item s n p).1.length ≤ p.rest.length
  | 0, p => by simp [sepP]
  | n + 1, p => by
    have a := takesP_len s p
    have b := hi (takesP s p).2
    have c := sepP_len hi hs n (item (takesP s p).2).2
    unfold sepP
    split
    · rename_i h
      rw [if_pos h] at a
      simp only [List.length_cons]
      omega
    · simp only [List.length_nil]; omega
theorem listP_len {α : Type} {item : PS → α × PS} (hi : ∀ p, (item p).2.rest.length ≤ p.rest.length) {s : Bs} (hs : 1 ≤ s.length) (p : PS) : (listP item s p).2.rest.length ≤ p.rest.length := by
  have b := hi p
  have c := sepP_len hi hs ((item p).2.rest.length + 1) (item p).2
  unfold listP
  simp only
  omega
theorem rangesP_len (p : PS) : (rangesP p).2.rest.length ≤ p.rest.length := listP_len rangeP_len (by simp) p
theorem cellP_len (p : PS) : (cellP p).2.rest.length ≤ p.rest.length := by
  have a := takesP_len [42] p
  have b := optionP_len [110, 111, 116] (takesP [42] p).2
  have c := rangesP_len (optionP [110, 111, 116] (takesP [42] p).2).2
  unfold cellP
  split <;> simp only <;> omega
theorem cellsP_len (p : PS) : (cellsP p).2.rest.length ≤ p.rest.length := listP_len cellP_len (by simp) p
theorem strP_len (p : PS) : (strP p).2.rest.length ≤ p.rest.length := wordP_len p
theorem inputsP_len (p : PS) : (inputsP p).2.rest.length ≤ p.rest.length := listP_len strP_len (by simp) p
theorem ruleP_len (p : PS) : (ruleP p).2.rest.length + (if (ruleP p).2.bad then 0 else 1) ≤ p.rest.length := by
  have a := cellsP_len p
  have b := wantsP_len [61, 62] (cellsP p).2
  have c := numberP_len (wantsP [61, 62] (cellsP p).2)
  have d := wantsP_len [59] (numberP (wantsP [61, 62] (cellsP p).2)).2
  unfold ruleP
  simp only [List.length_cons, List.length_nil, Nat.zero_add] at d ⊢
  omega
theorem polP_len (p : PS) : (polP p).2.rest.length ≤ p.rest.length := by
  have := wordP_len p
  unfold polP
  split <;> exact this
/-- one round of the loop over the rules -/
theorem needP_next (p : PS) (hb : p.bad = false) (ht : (takesP [125] p).1 = false) : needP (ruleP (takesP [125] p).2).2 < needP p := by
  have a := takesP_len [125] p
  have b := ruleP_len (takesP [125] p).2
  rw [ht] at a
  unfold needP
  rw [hb]
  simp at a
  cases hh : (ruleP (takesP [125] p).2).2.bad <;> rw [hh] at b <;> simp at b ⊢ <;> omega
theorem rulesP_len : ∀ (n : Nat) (p : PS), (rulesP n p).2.rest.length ≤ p.rest.length
  | 0, p => by simp [rulesP]
  | n + 1, p => by
    have a := takesP_len [125] p
    have b := ruleP_len (takesP [125] p).2
    have c := rulesP_len n (ruleP (takesP [125] p).2).2
    unfold rulesP
    split
    · simp
    · split <;> simp only <;> omega

end Go.Proofs.YtmdljknlbmlacabDoor
