/- The reference's search: the first input, in the order of inputs, among those whose numbers are edges; it is the least of all where what is asked changes at edges alone. No condition; no program is named. The closure walk of ratebookref.search, which calls itself: it finds the first input among those whose numbers are listed. Conditions: the list of inputs reads as lists in memory that the call does not write; what is asked is a Lean function of the input. ratebookref.search, as a Lean function of what its arguments read as. Conditions: argument slices read as lists in old memory; the box is one of at most three good sets, the rules are those of a good table; what is asked is a Lean function of the input. ratebookref.GapOf and ClashOf answer as table.Gap and table.Clash do. Conditions: argument slices read as lists in old memory; sizes are within bounds. -/
import Derived.Test.YtmdljknlbmlacabGreatDoorTabsSays
import Derived.Test.YtmdljknlbmlacabGreatDoorRefEdge
import Derived.Test.YtmdljknlbmlacabGreatDoorBox
import Derived.Test.YtmdljknlbmlacabGreatDoorMemMore
import Derived.Test.YtmdljknlbmlacabGreatDoorRefSets2
import Derived.Test.YtmdljknlbmlacabGreatDoorTableI
import Derived.Laws.EntriesVeiled
import Derived.Test.YtmdljknlbmlacabGreatDoorRefSays
import Derived.Test.YtmdljknlbmlacabGreatDoorRefBox
namespace Go.Proofs.YtmdljknlbmlacabGreatDoor

def walkF (f : List Int → Bool) : List (List Int) → List Int → Option (List Int)
  | [], pre => if f pre then some pre else none
  | l :: rest, pre => l.findSome? fun n => walkF f rest (pre ++ [n])
def inProd : List (List Int) → List Int → Prop
  | [], [] => True
  | l :: at', n :: j => n ∈ l ∧ inProd at' j
  | _, _ => False
theorem walkF_none {f : List Int → Bool} : ∀ {at' : List (List Int)} {pre : List Int}, walkF f at' pre = none → ∀ k, inProd at' k → f (pre ++ k) = false
  | [], pre, h, k, hk => by
    cases k with
    | nil =>
      simp only [walkF] at h
      rw [List.append_nil]
      cases hf : f pre
      · rfl
      · rw [hf] at h; simp at h
    | cons n k => exact hk.elim
  | l :: at', pre, h, k, hk => by
    cases k with
    | nil => exact hk.elim
    | cons n k =>
      simp only [walkF, List.findSome?_eq_none_iff] at h
      have := walkF_none (h n hk.1) k hk.2
      simpa using this
theorem walkF_some {f : List Int → Bool} : ∀ {at' : List (List Int)} {pre i : List Int}, (∀ l ∈ at', l.Pairwise (· < ·)) → walkF f at' pre = some i → ∃ j, i = pre ++ j ∧ inProd at' j ∧ f i = true ∧ ∀ k, inProd at' k → lexLt k j = true → f (pre ++ k) = false
  | [], pre, i, _, h => by
    simp only [walkF] at h
    split at h
    · rename_i hf
      injection h with h
      subst h
      refine ⟨[], by simp, trivial, hf, fun k hk hl => ?_⟩
      cases k with
      | nil => rw [lexLt_irrefl] at hl; cases hl
      | cons n k => exact hk.elim
    · cases h
  | l :: at', pre, i, hp, h => by
    simp only [walkF] at h
    obtain ⟨l1, n, l2, hl, hn, hl1⟩ := List.findSome?_eq_some_iff.1 h
    obtain ⟨j, h1, h2, h3, h4⟩ := walkF_some (fun m hm => hp m (by simp [hm])) hn
    refine ⟨n :: j, by rw [h1]; simp, ⟨by rw [hl]; simp, h2⟩, h3, fun k hk hlt => ?_⟩
    cases k with
    | nil => exact hk.elim
    | cons m k =>
      rw [lexLt_cons] at hlt
      rcases hlt with hlt | ⟨rfl, hlt⟩
      · have hm : m ∈ l1 := by
          have hml := hk.1
          rw [hl] at hml
          rcases List.mem_append.1 hml with hml | hml
          · exact hml
          · exfalso
            have hpl := hp l (by simp)
            rw [hl] at hpl
            have := (List.pairwise_append.1 hpl).2.1
            rcases List.mem_cons.1 hml with rfl | hml
            · omega
            · have := (List.pairwise_cons.1 this).1 m hml
              omega
        have := walkF_none (hl1 m hm) k hk.2
        simpa using this
      · have := h4 k hk.2 hlt
        simpa using this
def srchV (f : List Int → Bool) (at' : List (List Int)) : List Int × Bool := match walkF f at' [] with
  | some i => (i, true)
  | none => ([], false)
/-- no number of k is greater than that of i -/
def leAll : List Int → List Int → Prop
  | [], [] => True
  | n :: k, m :: i => n ≤ m ∧ leAll k i
  | _, _ => False
theorem leAll_lex : ∀ {k i : List Int}, leAll k i → lexLt i k = false
  | [], [], _ => lexLt_irrefl []
  | [], _ :: _, h => h.elim
  | _ :: _, [], h => h.elim
  | n :: k, m :: i, h => by
    cases hh : lexLt (m :: i) (n :: k)
    · rfl
    · rw [lexLt_cons] at hh
      have := h.1
      rcases hh with hh | ⟨_, hh⟩
      · omega
      · rw [leAll_lex h.2] at hh; cases hh
def inBoxes : BoxD → List (List Int) → Prop
  | [], [] => True
  | s :: a, l :: at' => (∀ n ∈ l, hasB s n = true) ∧ inBoxes a at'
  | _, _ => False
theorem inProd_box : ∀ {a : BoxD} {at' : List (List Int)} {j : List Int}, inBoxes a at' → inProd at' j → hasBox a j = true
  | [], [], [], _, _ => rfl
  | [], [], _ :: _, _, h => h.elim
  | [], _ :: _, _, h, _ => h.elim
  | _ :: _, [], _, h, _ => h.elim
  | s :: a, l :: at', [], _, h => h.elim
  | s :: a, l :: at', n :: j, h, hj => by
    simp only [hasBox, Bool.and_eq_true]
    exact ⟨h.1 n hj.1, inProd_box h.2 hj.2⟩
theorem srch_least {a : BoxD} {at' : List (List Int)} {f : List Int → Bool} (hb : inBoxes a at') (hp : ∀ l ∈ at', l.Pairwise (· < ·)) (hs : ∀ i, hasBox a i = true → ∃ k, inProd at' k ∧ leAll k i ∧ f k = f i) : Least a f (srchV f at') := by
  unfold srchV
  cases h : walkF f at' [] with
  | none =>
    refine ⟨fun hh => (by cases hh), fun _ => ⟨rfl, fun i hi => ?_⟩⟩
    obtain ⟨k, k1, k2, k3⟩ := hs i hi
    have := walkF_none h k k1
    rw [List.nil_append, k3] at this
    exact this
  | some i =>
    obtain ⟨j, h1, h2, h3, h4⟩ := walkF_some hp h
    rw [List.nil_append] at h1
    subst h1
    refine ⟨fun _ => ⟨inProd_box hb h2, h3, fun i' hi' hf' => ?_⟩, fun hh => (by cases hh)⟩
    obtain ⟨k, k1, k2, k3⟩ := hs i' hi'
    cases hl : lexLt i' i
    · rfl
    · have hle := leAll_lex k2
      have hk : lexLt k i = true := by
        cases hki : lexLt k i
        · -- i ≤ k ≤ i' < i
          have := lexLt_le hl hki
          rw [hle] at this; cases this
        · rfl
      have := h4 k k1 hk
      rw [List.nil_append, k3, hf'] at this
      cases this

/- the edges of the box's set and of the rules' cells, coordinate by coordinate -/
def colSets (s : List (Int × Int)) (rules : List RuleD) (i : Nat) : List (List (Int × Int)) := s :: rules.map fun r => (r.1.getD i (false, [])).2
/-- E is the sorted list of all edges of the sets -/
def EdgesOf (sets : List (List (Int × Int))) (E : List Int) : Prop := Incr E ∧ ∀ x, x ∈ E ↔ EdgeOf sets x
/-- at' holds, from the coordinate i on, the edges that lie in the box's sets -/
def Cols (rules : List RuleD) : Nat → BoxD → List (List Int) → Prop
  | _, [], [] => True
  | i, s :: a, l :: at' => (∃ E, EdgesOf (colSets s rules i) E ∧ l = E.filter (hasB s)) ∧ Cols rules (i + 1) a at'
  | _, _, _ => False
theorem Cols.boxes {rules : List RuleD} : ∀ {a : BoxD} {at' : List (List Int)} {i : Nat}, Cols rules i a at' → inBoxes a at'
  | [], [], _, _ => trivial
  | [], _ :: _, _, h => h.elim
  | _ :: _, [], _, h => h.elim
  | s :: a, l :: at', i, h => by
    obtain ⟨⟨E, _, rfl⟩, h2⟩ := h
    exact ⟨fun n hn => (List.mem_filter.1 hn).2, Cols.boxes h2⟩
theorem Cols.pair {rules : List RuleD} : ∀ {a : BoxD} {at' : List (List Int)} {i : Nat}, Cols rules i a at' → ∀ l ∈ at', l.Pairwise (· < ·)
  | [], [], _, _ => by simp
  | [], _ :: _, _, h => h.elim
  | _ :: _, [], _, h => h.elim
  | s :: a, l :: at', i, h => by
    obtain ⟨⟨E, hE, rfl⟩, h2⟩ := h
    intro m hm
    rcases List.mem_cons.1 hm with rfl | hm
    · exact hE.1.1.sublist List.filter_sublist
    · exact Cols.pair h2 m hm
/-- the greatest edge that is not greater -/
theorem edge_below {E : List Int} {n : Int} (hp : E.Pairwise (· < ·)) (h0 : ∃ x, x ∈ E ∧ x ≤ n) : ∃ i e, E[i]? = some e ∧ e ≤ n ∧ ∀ m, E[i + 1]? = some m → n < m := by
  induction E with
  | nil => obtain ⟨x, hx, _⟩ := h0; simp at hx
  | cons a E ih =>
    obtain ⟨h1, h2⟩ := List.pairwise_cons.1 hp
    by_cases hh : ∃ x, x ∈ E ∧ x ≤ n
    · obtain ⟨i, e, k1, k2, k3⟩ := ih h2 hh
      exact ⟨i + 1, e, by simpa using k1, k2, fun m hm => k3 m (by simpa using hm)⟩
    · refine ⟨0, a, rfl, ?_, fun m hm => ?_⟩
      · obtain ⟨x, hx, hxn⟩ := h0
        rcases List.mem_cons.1 hx with rfl | hx
        · exact hxn
        · exact absurd ⟨x, hx, hxn⟩ hh
      · have hm' : m ∈ E := List.mem_of_getElem? (by simpa using hm)
        by_cases h : n < m
        · exact h
        · exact absurd ⟨m, hm', by omega⟩ hh
theorem snap_one {sets : List (List (Int × Int))} {E : List Int} {n : Int} (hE : EdgesOf sets E) (hn : -1000000 ≤ n ∧ n ≤ 1000000) : ∃ e, e ∈ E ∧ e ≤ n ∧ ∀ s, s ∈ sets → hasB s n = hasB s e := by
  obtain ⟨i, e, h1, h2, h3⟩ := edge_below hE.1.1 ⟨-1000000, (hE.2 _).2 (.inl rfl), hn.1⟩
  refine ⟨e, List.mem_of_getElem? h1, h2, fun s hs => has_const hE.1 hE.2 hs h1 h2 ?_⟩
  by_cases hk : i + 1 < E.length
  · have e1 : endOf (E.drop (i + 1)) = E[i + 1] - 1 := endOf_some (List.getElem?_eq_getElem hk)
    have := h3 _ (List.getElem?_eq_getElem hk)
    omega
  · have e1 := endOf_none (l := E) (k := i + 1) (by omega)
    omega
/-- the cells of the rules, from the coordinate i on, hold alike of the two inputs -/
def alikeAt (rules : List RuleD) (i : Nat) (n e : Int) : Prop := ∀ r, r ∈ rules → hasB (r.1.getD i (false, [])).2 n = hasB (r.1.getD i (false, [])).2 e
def Alike (rules : List RuleD) : Nat → List Int → List Int → Prop
  | _, [], [] => True
  | i, n :: l, e :: k => alikeAt rules i n e ∧ Alike rules (i + 1) l k
  | _, _, _ => False
theorem snap_all {rules : List RuleD} : ∀ {a : BoxD} {at' : List (List Int)} {c : Nat} {i : List Int}, setsB a = true → Cols rules c a at' → hasBox a i = true → ∃ k, inProd at' k ∧ leAll k i ∧ Alike rules c i k
  | [], [], _, [], _, _, _ => ⟨[], trivial, trivial, trivial⟩
  | [], [], _, _ :: _, _, _, h => by simp [hasBox] at h
  | [], _ :: _, _, _, _, h, _ => h.elim
  | _ :: _, [], _, _, _, h, _ => h.elim
  | s :: a, l :: at', c, [], _, _, h => by simp [hasBox] at h
  | s :: a, l :: at', c, n :: i, hg, hC, h => by
    obtain ⟨⟨E, hE, rfl⟩, h2⟩ := hC
    simp only [hasBox, Bool.and_eq_true] at h
    simp only [setsB, List.all_cons, Bool.and_eq_true] at hg
    obtain ⟨k, k1, k2, k3⟩ := snap_all (a := a) (by unfold setsB; exact hg.2) h2 h.2
    have hn : -1000000 ≤ n ∧ n ≤ 1000000 := good_in hg.1.2 h.1
    obtain ⟨e, e1, e2, e3⟩ := snap_one hE hn
    refine ⟨e :: k, ⟨List.mem_filter.2 ⟨e1, ?_⟩, k1⟩, ⟨e2, k2⟩, fun r hr => e3 _ ?_, k3⟩
    · rw [← e3 s (by simp [colSets])]; exact h.1
    · unfold colSets
      exact List.mem_cons_of_mem _ (List.mem_map.2 ⟨r, hr, rfl⟩)
theorem match_alike {rules : List RuleD} {r : RuleD} (hr : r ∈ rules) : ∀ {cs : List CellD} {c : Nat} {i k : List Int}, r.1.drop c = cs → Alike rules c i k → matchC cs i = matchC cs k
  | [], _, [], [], _, _ => rfl
  | [], _, [], _ :: _, _, h => h.elim
  | [], _, _ :: _, [], _, h => h.elim
  | [], _, _ :: _, _ :: _, _, _ => rfl
  | _ :: _, _, [], [], _, _ => rfl
  | _ :: _, _, [], _ :: _, _, h => h.elim
  | _ :: _, _, _ :: _, [], _, h => h.elim
  | q :: cs, c, n :: i, e :: k, hd, h => by
    have hq : r.1[c]? = some q := by
      have := congrArg (·[0]?) hd
      simpa [List.getElem?_drop] using this
    have hd' : r.1.drop (c + 1) = cs := by
      have := congrArg (·.drop 1) hd
      simpa [List.drop_drop] using this
    have h1 := h.1 r hr
    rw [List.getD, hq] at h1
    simp only [Option.getD_some] at h1
    simp only [matchC]
    rw [match_alike hr hd' h.2]
    unfold holdsC
    rw [h1]
theorem outs_alike {rules : List RuleD} {i k : List Int} (h : Alike rules 0 i k) : outsL rules i = outsL rules k := by
  unfold outsL
  congr 1
  refine List.filter_congr fun r hr => ?_
  exact match_alike hr (c := 0) (by simp) h
/-- what is asked of an input hangs on the rules that match alone -/
theorem srch_ok {t : TabD} {a : BoxD} {at' : List (List Int)} {f : List Int → Bool} (g : List Int → Bool) (hf : ∀ i, f i = g (outsL t.rules i)) (hg : setsB a = true) (hC : Cols t.rules 0 a at') : Least a f (srchV f at') :=
  srch_least hC.boxes hC.pair fun i hi => by
    obtain ⟨k, k1, k2, k3⟩ := snap_all hg hC hi
    exact ⟨k, k1, k2, by rw [hf, hf, outs_alike k3]⟩

end Go.Proofs.YtmdljknlbmlacabGreatDoor
namespace Go.Proofs.YtmdljknlbmlacabGreatDoor
open Go.RowKit

/-- what is below base stands, but for the block I -/
structure FrI (I base : Nat) (w w' : World) : Prop where
  os : w'.os = w.os
  tape : w'.tape = w.tape
  output : w'.output = w.output
  size : w.heap.size ≤ w'.heap.size
  block : ∀ k, k < base → k ≠ I → w'.heap[k]? = w.heap[k]?
section
variable {I base : Nat} {w w1 w2 : World}
theorem FrI.refl (I base : Nat) (w : World) : FrI I base w w := ⟨rfl, rfl, rfl, Nat.le_refl _, fun _ _ _ => rfl⟩
theorem FrI.trans (h : FrI I base w w1) (h' : FrI I base w1 w2) : FrI I base w w2 :=
  ⟨h'.os.trans h.os, h'.tape.trans h.tape, h'.output.trans h.output, Nat.le_trans h.size h'.size, fun k h1 h2 => (h'.block k h1 h2).trans (h.block k h1 h2)⟩
theorem FrI.of_below {B : Nat} (h : Below B w w1) (hB : base ≤ B) : FrI I base w w1 := ⟨h.os, h.tape, h.output, h.size, fun k h1 _ => h.block k (by omega)⟩
theorem FrI.set (w : World) (I base o : Nat) (v : Value) : FrI I base w (w.setCell ⟨I, o, none⟩ v) :=
  ⟨rfl, rfl, rfl, by simp [World.setCell], fun k _ h2 => RowKit.Below.heap_setCell _ _ _ _ h2⟩
theorem FrI.of_grown {v : Value} (h : w.grownBy w1 v.ownBlock) (hb : base ≤ w.heap.size) (hv : ∀ k, v.ownBlock = some k → base ≤ k) : FrI I base w w1 :=
  ⟨h.os, h.tape, h.output, h.size, fun k h1 _ => h.block k (by omega) (by intro e; have := hv k e.symm; omega)⟩
end

/-- the variable in at the block I, of which the row lies from base on -/
structure InV (w : World) (I base : Nat) (v : Value) (l : List Int) : Prop where
  lt : I < w.heap.size
  cell : w.cell? ⟨I, 0, none⟩ = some v
  fz : w.frozen? ⟨I, 0, none⟩ = false
  own : OwnG Enc.int w base base 3 v l
/-- what the closure has captured, and what it reads -/
structure WOK (w0 : World) (at' : List (List Int)) (vat : Value) (fid : Nat) (cb : Array Value) (I A Hh K base : Nat) (W : World) : Prop where
  cA : W.cell? ⟨A, 0, none⟩ = some vat
  sA : Sl Enc.int.slice W (fun k => k < base ∧ k ≠ I) at' vat
  cH : W.cell? ⟨Hh, 0, none⟩ = some (.func (.func fid) #[] cb)
  cK : W.cell? ⟨K, 0, none⟩ = some (.func (.func 97) #[] #[.pointer (some ⟨I, 0, none⟩), .pointer (some ⟨A, 0, none⟩), .pointer (some ⟨Hh, 0, none⟩), .pointer (some ⟨K, 0, none⟩)])
  bel : Below w0.heap.size w0 W
  hI : w0.heap.size ≤ I ∧ I < base
  hA : A < base ∧ A ≠ I
  hH : Hh < base ∧ Hh ≠ I
  hK : K < base ∧ K ≠ I
  hb : base ≤ W.heap.size
theorem WOK.keep {w0 : World} {at' : List (List Int)} {vat : Value} {fid : Nat} {cb : Array Value} {I A Hh K base : Nat} {W W' : World} (h : WOK w0 at' vat fid cb I A Hh K base W) (hf : FrI I base W W') : WOK w0 at' vat fid cb I A Hh K base W' := by
  have k : ∀ p : Addr, p.block < base → p.block ≠ I → W'.cell? p = W.cell? p := fun p h1 h2 => World.cell?_of_block (hf.block _ h1 h2)
  obtain ⟨cA, sA, cH, cK, bel, hI, hA, hH, hK, hb⟩ := h
  refine ⟨(k _ hA.1 hA.2).trans cA, sA.keep fun p hp => k p hp.1 hp.2, (k _ hH.1 hH.2).trans cH, (k _ hK.1 hK.2).trans cK, ?_, hI, hA, hH, hK, Nat.le_trans hb hf.size⟩
  exact ⟨hf.os.trans bel.os, hf.tape.trans bel.tape, hf.output.trans bel.output, Nat.le_trans bel.size hf.size, fun j hj => (hf.block j (by omega) (by omega)).trans (bel.block j hj)⟩
theorem InV.keep {w w' : World} {I base : Nat} {v : Value} {l : List Int} (h : InV w I base v l) (hb : Below w.heap.size w w') : InV w' I base v l :=
  ⟨Nat.lt_of_lt_of_le h.lt hb.size, (hb.cell (p := ⟨I, 0, none⟩) h.lt).trans h.cell, (hb.frozen (p := ⟨I, 0, none⟩) h.lt).trans h.fz, h.own.next hb⟩
theorem InV.set {w : World} {I base : Nat} {v v' : Value} {l l' : List Int} (h : InV w I base v l) (ho : OwnG Enc.int w base base 3 v' l') (hI : I < base) : InV (w.setCell ⟨I, 0, none⟩ v') I base v' l' :=
  ⟨by simpa [World.setCell] using h.lt, World.cell?_setCell_same w _ _ h.cell, by simpa using h.fz, ho.setCell hI (fun e => by have := (ho.lt I e).1; omega)⟩
theorem OwnG.frontI {w : World} {base lo e g c : Nat} {l : List Int} {n : Nat} (h : OwnG Enc.int w base lo e (.slice (some ⟨g, 0, none⟩) n c) l) {j : Nat} (hj : j ≤ l.length) : OwnG Enc.int w base lo e (.slice (some ⟨g, 0, none⟩) j c) (l.take j) := by
  obtain ⟨us, h1, h2⟩ := h
  have es : Enc.int.size = 1 := rfl
  have hl := h1.1
  rw [es] at hl
  have el : (l.take j).length = j := by rw [List.length_take]; omega
  refine ⟨us.take j, ?_, ?_⟩
  · refine ⟨by rw [es, List.length_take, el]; omega, ?_⟩
    rcases h1.2 with ⟨h3, _⟩ | ⟨g', cap, cur, h3, h4, h5, h6, h7, h8, h9⟩
    · cases h3
    · injection h3 with e1 e2 e3
      injection e1 with e1
      injection e1 with e1
      subst e1 e3
      refine .inr ⟨g, c, cur, by rw [el], h4, h5, by omega, h7, h8, ?_⟩
      rw [es] at h9 ⊢
      have : cur.toList.take ((l.take j).length * 1) = (cur.toList.take (l.length * 1)).take j := by rw [List.take_take, el]; congr 1; omega
      rw [this, h9]
  · intro i x hx
    have hi := (List.getElem?_eq_some_iff.1 hx).1
    rw [el] at hi
    rw [List.getElem?_take_of_lt hi] at hx
    obtain ⟨cs, k1, k2⟩ := h2 i x hx
    have k1' : cs = [.int .i64 x] := k1
    refine ⟨cs, k1', fun q u hu => ?_⟩
    have := k2 q u hu
    subst k1'
    match q with
    | 0 =>
      rw [es] at this ⊢
      rw [List.getElem?_take_of_lt (by omega)]
      exact this
    | q + 1 => simp at hu
theorem walkF_step {f : List Int → Bool} {l : List Int} {rest : List (List Int)} {pre : List Int} {k : Nat} {n : Int} (hn : l[k]? = some n) (h0 : ∀ m ∈ l.take k, walkF f rest (pre ++ [m]) = none) {i : List Int} (h : walkF f rest (pre ++ [n]) = some i) : walkF f (l :: rest) pre = some i := by
  simp only [walkF]
  rw [List.findSome?_eq_some_iff]
  refine ⟨l.take k, n, l.drop (k + 1), ?_, h, h0⟩
  have hk := (List.getElem?_eq_some_iff.1 hn).1
  have : l.drop k = n :: l.drop (k + 1) := by
    rw [List.drop_eq_getElem_cons hk, (List.getElem?_eq_some_iff.1 hn).2]
  rw [← this, List.take_append_drop]

theorem x_under_i : Tryz.prog.underlying 27 = some (.slice 3) := by kernel_rfl
theorem x_info_i : (Tryz.prog.info? 3).map (fun i => (i.zero, i.size, i.bytes)) = some (some (.int .i64 0), 1, 8) := by kernel_rfl
theorem cell_one_newI (w : World) (v : Value) (e : Nat) : ∀ j u, [v][j]? = some u → (w.alloc (.cells #[v] e)).cell? ((⟨w.heap.size, 0, none⟩ : Addr).add j) = some u := by
  intro j u hu
  have ea : (⟨w.heap.size, 0, none⟩ : Addr).add j = ⟨w.heap.size, j, none⟩ := by unfold Addr.add; split <;> simp_all
  rw [ea]
  exact (World.cell?_alloc_new ..).trans (by simpa using hu)
def WPost (f : List Int → Bool) (I base : Nat) (rest : List (List Int)) (pre : List Int) (W : World) (e : Ending) (w' : World) : Prop :=
  e = .returned (.bool (walkF f rest pre).isSome) ∧ (∃ v', InV w' I base v' ((walkF f rest pre).getD pre)) ∧ FrI I base W w'

set_option maxRecDepth 100000 in
set_option maxHeartbeats 1000000 in
theorem ref_walk (w0 : World) (at' : List (List Int)) (vat : Value) (fid : Nat) (cb : Array Value) (f : List Int → Bool) (I A Hh K base : Nat) (h3 : at'.length ≤ 3)
    (eg : ∀ args w, (callFunc fid args).run Tryz.prog w = .ok (.enter fid args) w)
    (hf : ∀ (l : List Int) (v : Value) (W : World), Below w0.heap.size w0 W → l.length ≤ 3 → Sl Enc.int W (Old W) l v → Calls Tryz.prog fid (#[v] ++ cb) W fun e w' => e = .returned (.bool (f l)) ∧ Below W.heap.size W w') :
    ∀ (d : Nat) (pre : List Int) (v : Value) (W : World), at'.length = pre.length + d → WOK w0 at' vat fid cb I A Hh K base W → InV W I base v pre →
      Calls Tryz.prog 97 #[.pointer (some ⟨I, 0, none⟩), .pointer (some ⟨A, 0, none⟩), .pointer (some ⟨Hh, 0, none⟩), .pointer (some ⟨K, 0, none⟩)] W (WPost f I base (at'.drop pre.length) pre W) := by
  intro d
  induction d with
  | zero =>
    intro pre v W hd hW hV
    have HW := Lib.hid hW
    have HV := Lib.hid hV
    have HD : Hid (at'.drop pre.length = []) := List.drop_of_length_le (by omega)
    have HS := Lib.hid (hV.own.slOld (Nat.le_refl _))
    obtain ⟨Av, cv, rfl, hc1, hc2, -⟩ := hV.own.form
    obtain ⟨Aa, ca, rfl, ha1, ha2⟩ := hW.sA.form
    have c0 := hV.cell
    have c1 := hW.cA
    have c2 := hW.cH
    have HF := Lib.hid hf
    have hde : ((pre.length : Int) == (at'.length : Int)) = true := by rw [beq_iff_eq]; omega
    have hpl : pre.length ≤ 3 := by omega
    clear hW hV hf hd
    go_enter Tryz.func97, Tryz.ntmps97
    go_wp2_with fail
    refine (HF.out pre _ W HW.out.bel hpl HS.out).mono ?_
    rintro e w1 ⟨rfl, hb1⟩
    go_wp2
    go_ret
    unfold WPost
    rw [HD.out]
    have hfr : FrI I base W w1 := FrI.of_below hb1 HW.out.hb
    cases hfp : f pre
    · have e1 : walkF f [] pre = none := by simp [walkF, hfp]
      rw [e1]
      exact ⟨rfl, ⟨_, HV.out.keep hb1⟩, hfr⟩
    · have e1 : walkF f [] pre = some pre := by simp [walkF, hfp]
      rw [e1]
      exact ⟨rfl, ⟨_, HV.out.keep hb1⟩, hfr⟩
  | succ d ih =>
    intro pre v W hd hW hV
    have IH := Lib.hid ih
    clear ih
    have HF := Lib.hid hf
    clear hf
    have HW := Lib.hid hW
    have HV := Lib.hid hV
    have hlt : pre.length < at'.length := by omega
    obtain ⟨Av, cv, rfl, hc1, hc2, -⟩ := hV.own.form
    have hsA := hW.sA
    obtain ⟨Aa, ca, rfl, ha1, ha2⟩ := hsA.form
    obtain ⟨ba, oa, l, u, rfl, hSb, hx, cu, hu⟩ := hsA.sl_at hlt
    obtain ⟨Al, cl, rfl, hl1, hl2⟩ := hu.form
    unfold maxLen at hl2
    have c0 := hV.cell
    have c1 := hW.cA
    have hnI : ¬ (pre.length = at'.length) := by omega
    have hde : ((pre.length : Int) == (at'.length : Int)) = false := beq_eq_false_iff_ne.2 (by omega)
    have hp0 : (0 : Int) ≤ pre.length := by omega
    have hp1 : (pre.length : Int) < at'.length := by omega
    have HU := Lib.hid hu
    have HDR : Hid (at'.drop pre.length = l :: at'.drop (pre.length + 1)) := by
      show _ = _
      rw [List.drop_eq_getElem_cons hlt, (List.getElem?_eq_some_iff.1 hx.out).2]
    have hpl : pre.length ≤ 2 := by omega
    have HLD := Lib.hid hd
    clear hW hV hsA hu hd
    go_enter Tryz.func97, Tryz.ntmps97
    go_wp2
    clear c0 c1 cu
    go_loopw [21] (fun i wr => ∃ (k : Nat) (v : Value), k ≤ l.length ∧ i = .int .i64 k ∧ Hid (∀ m ∈ l.take k, walkF f (at'.drop (pre.length + 1)) (pre ++ [m]) = none) ∧ Hid (InV wr I base v pre) ∧ Hid (FrI I base W wr)) (fun i _ => l.length - (intOf i).toNat)
    case atStart => exact ⟨0, _, Nat.zero_le _, rfl, fun m hm => by simp at hm, HV, FrI.refl _ _ _⟩
    case round =>
      obtain ⟨k, vk, hk, rfl, hN, HI, HR⟩ := hrel
      have HWr := Lib.hid (HW.out.keep HR.out)
      by_cases hkl : k < l.length
      · obtain ⟨bl, ol, n, rfl, hbl, hxn, cn⟩ := (HU.out.keep (w' := wr) (fun p hp => World.cell?_of_block (HR.out.block _ hp.1 hp.2))).int_at hkl
        obtain ⟨Ak, ck, rfl, hk1, hk2, -⟩ := HI.out.own.form
        have q0 := HI.out.cell
        have q1 := HI.out.fz
        have hbase := HWr.out.hb
        have hw1 := below_alloc1 wr (.cells #[.int .i64 n] 3)
        have V1 := Lib.hid (HI.out.keep hw1)
        have R1 := Lib.hid (HR.out.trans (FrI.of_below hw1 hbase))
        have hz1 : base ≤ (wr.alloc (.cells #[.int .i64 n] 3)).heap.size := Nat.le_trans hbase hw1.size
        have hIb := HWr.out.hI.2
        go_wp2_with (at_builtin; refine wpList_append_one (E := Enc.int) _ rfl _ _ 27 rfl base base 3 8 (.int .i64 0) x_under_i x_info_i rfl (by decide) _ _ rfl V1.out.own ⟨wr.heap.size, 0, none⟩ n [.int .i64 n] rfl rfl (cell_one_newI _ _ _) (by omega) (by unfold maxLen; omega) hz1 ?_; intro v2 w2 hown2 hgrow2 _; have hbI := hgrow2.block I V1.out.lt (fun e => by have := (V1.out.own.lt I e.symm).1; omega); obtain ⟨A2, c2, e2, -, -, -⟩ := hown2.form; rw [List.length_append] at e2; replace e2 : v2 = .slice A2 (pre.length + 1) c2 := e2; subst e2; have g0 := (World.cell?_of_block (a := ⟨I, 0, none⟩) hbI).trans V1.out.cell; have g1 := (World.frozen?_of_block (a := ⟨I, 0, none⟩) hbI).trans V1.out.fz; have V2 : InV w2 I base (.slice Ak pre.length ck) pre → InV (w2.setCell ⟨I, 0, none⟩ (.slice A2 (pre.length + 1) c2)) I base (.slice A2 (pre.length + 1) c2) (pre ++ [n]) := fun h => h.set hown2 hIb; have V3 : Hid (InV (w2.setCell ⟨I, 0, none⟩ (.slice A2 (pre.length + 1) c2)) I base (.slice A2 (pre.length + 1) c2) (pre ++ [n])) := ⟨by have := hgrow2.size; have := V1.out.lt; simp [World.setCell]; omega, World.cell?_setCell_same w2 _ _ g0, by simpa using g1, hown2.setCell hIb (fun e => by have := (hown2.lt I e).1; omega)⟩; have R3 := Lib.hid (R1.out.trans ((FrI.of_grown hgrow2 hz1 (fun k hk => (V1.out.own.lt k hk).1)).trans (FrI.set w2 I base 0 (.slice A2 (pre.length + 1) c2)))); have W3 := Lib.hid (HW.out.keep R3.out); have g2 := W3.out.cK; clear V2)
        have hi := IH.out (pre ++ [n]) (.slice A2 (pre.length + 1) c2) _ (by rw [List.length_append]; show _ = pre.length + 1 + d; have := HLD.out; omega) W3.out V3.out
        rw [show (pre ++ [n]).length = pre.length + 1 by rw [List.length_append]; rfl] at hi
        refine hi.mono ?_
        intro e w4 hp4
        obtain ⟨rfl, ⟨v4, hV4⟩, hR4⟩ := hp4
        have V4 := Lib.hid hV4
        have R4 := Lib.hid (R3.out.trans hR4)
        have W4 := Lib.hid (HW.out.keep R4.out)
        clear hi hV4 hR4 g0 g1 g2 q0 q1 cn hw1
        cases hw : walkF f (at'.drop (pre.length + 1)) (pre ++ [n]) with
        | none =>
          rw [hw] at V4
          have HWN := Lib.hid hw
          clear hw
          simp only [Option.isSome_none, Option.getD_none] at V4 ⊢
          obtain ⟨A4, c4, e4, hc4, hm4, hn4⟩ := V4.out.own.form
          rw [List.length_append] at e4 hc4
          replace e4 : v4 = .slice A4 (pre.length + 1) c4 := e4
          replace hc4 : pre.length + 1 ≤ c4 := hc4
          subst e4
          have hA4 : ∃ g4, A4 = some ⟨g4, 0, none⟩ := by
            obtain ⟨us, h1, _⟩ := V4.out.own
            rcases h1.2 with ⟨h2, _⟩ | ⟨g, cap, cur, h2, _⟩
            · injection h2 with _ h2 _; omega
            · injection h2 with h2 _ _; exact ⟨g, h2⟩
          obtain ⟨g4, rfl⟩ := hA4
          unfold maxLen at hm4
          have j0 := V4.out.cell
          have j1 := V4.out.fz
          have O5 : Hid (OwnG Enc.int w4 base base 3 (.slice (some ⟨g4, 0, none⟩) pre.length c4) pre) := by
            have := V4.out.own.frontI (j := pre.length) (by rw [List.length_append]; omega)
            rw [List.take_left' rfl] at this
            exact this
          have j2 : IntKind.i64.wrap (((pre.length : Int) + 1) - 1) = (pre.length : Int) := by rw [IntWalk.i64_in _ (by omega)]; omega
          go_wp2
          refine ⟨⟨k + 1, _, by omega, by go_num, ?_, V4.out.set O5.out hIb, R4.out.trans (FrI.set ..)⟩, by simp [intOf]; omega⟩
          intro m hm
          rw [take_at hxn.out] at hm
          rcases List.mem_append.1 hm with hm | hm
          · exact hN.out m hm
          · rw [List.mem_singleton] at hm
            subst hm
            exact HWN.out
        | some i =>
          rw [hw] at V4
          have HWS : Hid (walkF f (at'.drop pre.length) pre = some i) := by
            show _ = _
            rw [HDR.out]
            exact walkF_step hxn.out hN.out hw
          clear hw
          simp only [Option.isSome_some, Option.getD_some] at V4 ⊢
          go_wp2
          go_ret
          unfold WPost
          rw [HWS.out]
          exact ⟨rfl, ⟨_, V4.out⟩, R4.out⟩
      · have hN' : Hid (walkF f (at'.drop pre.length) pre = none) := by
          show _ = none
          have hN2 := hN.out
          rw [List.take_of_length_le (by omega)] at hN2
          rw [HDR.out]
          simp only [walkF, List.findSome?_eq_none_iff]
          exact hN2
        go_wp2
        go_ret
        unfold WPost
        rw [hN'.out]
        exact ⟨rfl, ⟨_, HI.out⟩, HR.out⟩

end Go.Proofs.YtmdljknlbmlacabGreatDoor
namespace Go.Proofs.YtmdljknlbmlacabGreatDoor
open Go.RowKit

def cellR (k : Nat) (r : RuleD) : List (Int × Int) := (r.1.getD k (false, [])).2
theorem colSets_eq (s : List (Int × Int)) (rules : List RuleD) (k : Nat) : colSets s rules k = s :: rules.map (cellR k) := rfl
/-- the variable at the block I that holds the lists of numbers -/
structure AtV (w : World) (I base : Nat) (v : Value) (l : List (List Int)) : Prop where
  lt : I < w.heap.size
  cell : w.cell? ⟨I, 0, none⟩ = some v
  fz : w.frozen? ⟨I, 0, none⟩ = false
  own : OwnG Enc.int.slice w base base 27 v l
theorem AtV.keep {w w' : World} {I base : Nat} {v : Value} {l : List (List Int)} (h : AtV w I base v l) (hb : Below w.heap.size w w') : AtV w' I base v l :=
  ⟨Nat.lt_of_lt_of_le h.lt hb.size, (hb.cell (p := ⟨I, 0, none⟩) h.lt).trans h.cell, (hb.frozen (p := ⟨I, 0, none⟩) h.lt).trans h.fz, h.own.next hb⟩
theorem FrI.cell {I base : Nat} {w w' : World} (h : FrI I base w w') {p : Addr} (h1 : p.block < base) (h2 : p.block ≠ I) {v : Value} (hc : w.cell? p = some v) : w'.cell? p = some v := (World.cell?_of_block (h.block _ h1 h2)).trans hc
theorem cols_of {rules : List RuleD} : ∀ {a : BoxD} {at' : List (List Int)} (c : Nat), at'.length = a.length → (∀ j s l, a[j]? = some s → at'[j]? = some l → ∃ E, EdgesOf (colSets s rules (c + j)) E ∧ l = E.filter (hasB s)) → Cols rules c a at'
  | [], [], _, _, _ => trivial
  | [], _ :: _, _, h, _ => by simp at h
  | _ :: _, [], _, h, _ => by simp at h
  | s :: a, l :: at', c, hl, h => by
    refine ⟨h 0 s l rfl rfl, cols_of (c + 1) (by simpa using hl) fun j s' l' hs hl' => ?_⟩
    have := h (j + 1) s' l' (by simpa using hs) (by simpa using hl')
    rw [show c + 1 + j = c + (j + 1) by omega]
    exact this
theorem x_under_ii : Tryz.prog.underlying 149 = some (.slice 27) := by kernel_rfl
theorem x_info_ii : (Tryz.prog.info? 27).map (fun i => (i.zero, i.size, i.bytes)) = some (some (.slice none 0 0), 1, 24) := by kernel_rfl
theorem x_under_rr : Tryz.prog.underlying 62 = some (.slice 77) := by kernel_rfl
theorem x_info_rr : (Tryz.prog.info? 77).map (fun i => (i.zero, i.size, i.bytes)) = some (some (.slice none 0 0), 1, 24) := by kernel_rfl
theorem filter_at {α : Type} {p : α → Bool} {l : List α} {k : Nat} {x : α} (h : l[k]? = some x) : (l.take (k + 1)).filter p = (l.take k).filter p ++ (if p x then [x] else []) := by
  rw [take_at h, List.filter_append]
  congr 1
  cases hp : p x <;> simp [hp]
def SrchPost (f : List Int → Bool) (rules : List RuleD) (a : BoxD) (w : World) (e : Ending) (w' : World) : Prop :=
  ∃ at' vr, Cols rules 0 a at' ∧ e = .returned (.tuple #[vr, .bool (srchV f at').2]) ∧ Sl Enc.int w' (From w.heap.size w') (srchV f at').1 vr ∧ Below w.heap.size w w'

set_option maxRecDepth 100000 in
set_option maxHeartbeats 2000000 in
theorem ref_search (t : TabD) (a : BoxD) (v va : Value) (fid : Nat) (cb : Array Value) (f : List Int → Bool) (w : World) (h : TabAt w (Old w) t v) (h' : Sl Enc.rng.slice w (Old w) a va)
    (ha : a.length ≤ 3) (hga : ∀ s ∈ a, goodB s = true) (hrl : t.rules.length ≤ 6) (hrc : ∀ r ∈ t.rules, r.1.length = a.length ∧ ∀ c ∈ r.1, goodB c.2 = true)
    (eg : ∀ args w, (callFunc fid args).run Tryz.prog w = .ok (.enter fid args) w)
    (hf : ∀ (l : List Int) (v : Value) (W : World), Below w.heap.size w W → l.length ≤ 3 → Sl Enc.int W (Old W) l v → Calls Tryz.prog fid (#[v] ++ cb) W fun e w' => e = .returned (.bool (f l)) ∧ Below W.heap.size W w') :
    Calls Tryz.prog 62 #[v, va, .func (.func fid) #[] cb] w (SrchPost f t.rules a w) := by
  obtain ⟨nm, pol, comp, ins, rules⟩ := t
  obtain ⟨vi, vr, rfl, hi', hr'⟩ := h
  simp only at hi' hr' hrl hrc
  obtain ⟨Ai, ci, rfl, -, -⟩ := hi'.form
  obtain ⟨Ar, cr, rfl, hr1, hr2⟩ := hr'.form
  obtain ⟨Aa, ca, rfl, ha1, ha2⟩ := h'.form
  unfold maxLen at hr2 ha2
  have HF := Lib.hid hf
  have HG := Lib.hid hga
  have HRC := Lib.hid hrc
  clear hf hga hrc hi'
  have hwa := below_alloc1 w (.cells #[.string nm, .int .i64 pol, .bool comp, .slice Ai ins.length ci, .slice Ar rules.length cr] 59)
  have ka : (w.alloc (.cells #[.string nm, .int .i64 pol, .bool comp, .slice Ai ins.length ci, .slice Ar rules.length cr] 59)).cell? ⟨w.heap.size, 4, none⟩ = some (.slice Ar rules.length cr) := cell_new _ _ _ _ _ rfl
  have za : (w.alloc (.cells #[.string nm, .int .i64 pol, .bool comp, .slice Ai ins.length ci, .slice Ar rules.length cr] 59)).heap.size = w.heap.size + 1 := by simp
  generalize hwae : w.alloc (.cells #[.string nm, .int .i64 pol, .bool comp, .slice Ai ins.length ci, .slice Ar rules.length cr] 59) = wa at *
  have hwb := below_alloc1 wa (.cells #[.func (.func fid) #[] cb] 117)
  have kb : (wa.alloc (.cells #[.func (.func fid) #[] cb] 117)).cell? ⟨w.heap.size + 1, 0, none⟩ = some (.func (.func fid) #[] cb) := by rw [← za]; exact cell_new _ _ _ _ _ rfl
  have zb : (wa.alloc (.cells #[.func (.func fid) #[] cb] 117)).heap.size = w.heap.size + 2 := by simp; omega
  have ka2 := (hwb.cell (p := ⟨w.heap.size, 4, none⟩) (by show w.heap.size < _; omega)).trans ka
  generalize hwbe : wa.alloc (.cells #[.func (.func fid) #[] cb] 117) = wb at *
  have hwc := below_alloc1 wb (.cells #[.slice none 0 0] 149)
  have V0 : AtV (wb.alloc (.cells #[.slice none 0 0] 149)) (w.heap.size + 2) (w.heap.size + 3) (.slice none 0 0) [] := by
    rw [← zb]
    exact ⟨by simp, cell_new _ _ _ _ _ rfl, by simp, OwnG.nil⟩
  have zc : (wb.alloc (.cells #[.slice none 0 0] 149)).heap.size = w.heap.size + 3 := by simp; omega
  have ka3 := (hwc.cell (p := ⟨w.heap.size, 4, none⟩) (by show w.heap.size < _; omega)).trans ka2
  have kb3 := (hwc.cell (p := ⟨w.heap.size + 1, 0, none⟩) (by show w.heap.size + 1 < _; omega)).trans kb
  generalize hwce : wb.alloc (.cells #[.slice none 0 0] 149) = wc at *
  have BC := Lib.hid (bx (bx hwa hwb) hwc)
  have HA := Lib.hid h'
  have HR := Lib.hid hr'
  have KA := Lib.hid ka3
  have KB := Lib.hid kb3
  have VV0 := Lib.hid V0
  clear h' hr' hwa hwb hwc ka ka2 ka3 kb kb3 V0
  go_enter Tryz.func62, Tryz.ntmps62
  go_wp2
  clear hwae hwbe hwce
  go_loopw [20] (fun i wr => ∃ (k : Nat) (vat : Value) (at' : List (List Int)), k ≤ a.length ∧ i = .int .i64 k ∧ at'.length = k ∧ Hid (∀ j s l, a[j]? = some s → at'[j]? = some l → ∃ E, EdgesOf (colSets s rules j) E ∧ l = E.filter (hasB s)) ∧ Hid (AtV wr (w.heap.size + 2) (w.heap.size + 3) vat at') ∧ Hid (FrI (w.heap.size + 2) (w.heap.size + 3) wc wr)) (fun i _ => a.length - (intOf i).toNat)
  case atStart => exact ⟨0, _, [], Nat.zero_le _, rfl, rfl, fun j s l _ hl => by simp at hl, VV0, FrI.refl _ _ _⟩
  case round =>
    obtain ⟨k, vat, at', hk, rfl, hal, hC, HV, HFr⟩ := hrel
    have HAL := Lib.hid hal
    have hal3 : at'.length ≤ 3 := by omega
    clear hal
    have hzr : w.heap.size + 3 ≤ wr.heap.size := by have := HFr.out.size; omega
    have BW : Hid (Below w.heap.size w wr) := ⟨HFr.out.os.trans BC.out.os, HFr.out.tape.trans BC.out.tape, HFr.out.output.trans BC.out.output, by omega, fun j hj => (HFr.out.block j (by omega) (by omega)).trans (BC.out.block j hj)⟩
    by_cases hlt : k < a.length
    · obtain ⟨ba, oa, s, us, rfl, _, hx, cu, hss⟩ := (HA.out.onOld BW.out).sl_at hlt
      obtain ⟨As, cs, rfl, hs1, hs2⟩ := hss.form
      have hgs := HG.out s (List.mem_of_getElem? hx.out)
      have HGS := Lib.hid hgs
      have c4 := HFr.out.cell (p := ⟨w.heap.size, 4, none⟩) (by show w.heap.size < _; omega) (by show w.heap.size ≠ _; omega) KA.out
      have HS := Lib.hid hss
      have hk0 : (0 : Int) ≤ k := by omega
      have hk1 : (k : Int) < a.length := by omega
      have hw1 := below_alloc1 wr (.cells #[.slice As s.length cs] 77)
      have O1 : Hid (OwnG Enc.rng.slice (wr.alloc (.cells #[.slice As s.length cs] 77)) wr.heap.size 0 77 (.slice (some ⟨wr.heap.size, 0, none⟩) 1 1) [s]) := by
        refine OwnG.lit (E := Enc.rng.slice) wr [s] #[.slice As s.length cs] (Nat.le_refl _) (by unfold maxLen; simp) rfl (Elems.one ⟨_, rfl, ?_⟩)
        exact (hss.below (B := wr.heap.size) (fun _ h => h) hw1).more fun k hk => ⟨Nat.zero_le _, hk⟩
      have d4 := (hw1.cell (p := ⟨w.heap.size, 4, none⟩) (by show w.heap.size < _; omega)).trans c4
      have HRr := Lib.hid (HR.out.onOld BW.out)
      clear hss hgs
      go_wp2
      clear d4
      generalize wr.alloc (.cells #[.slice As s.length cs] 77) = w1 at *
      go_loopw [10, 31] (fun u i wi => ∃ j : Nat, j ≤ rules.length ∧ i = .int .i64 j ∧ Hid (OwnG Enc.rng.slice wi wr.heap.size 0 77 u (s :: (rules.take j).map (cellR k))) ∧ Hid (Below wr.heap.size wr wi)) (fun _ i _ => rules.length - (intOf i).toNat)
      case atStart => exact ⟨0, Nat.zero_le _, rfl, O1, hw1⟩
      case round =>
        rename World => wi
        obtain ⟨j, hj, rfl, HO, HB⟩ := hrel
        have hszi := HB.out.size
        by_cases hjl : j < rules.length
        · obtain ⟨br, or_, cl, x, vc, rfl, _, hxr, e1, e2, hcl⟩ := (HRr.out.onOld HB.out).rule_at hjl
          obtain ⟨hcl1, hcl2⟩ := HRC.out _ (List.mem_of_getElem? hxr.out)
          simp only at hcl1
          obtain ⟨Ac, cc, rfl, hc1, hc2⟩ := hcl.form
          have hkc : k < cl.length := by omega
          clear hcl1 hcl2
          obtain ⟨bc, oc, ng, rs, vrs, rfl, _, hxc, g1, g2, hrs⟩ := hcl.cell_at hkc
          obtain ⟨Aq, cq, rfl, hq1, hq2⟩ := hrs.form
          have hkc1 : (k : Int) < cl.length := by omega
          have HT : Hid ((rules.take (j + 1)).map (cellR k) = (rules.take j).map (cellR k) ++ [rs]) := by
            show _ = _
            rw [take_at hxr.out, List.map_append]
            congr 1
            simp only [List.map_cons, List.map_nil]
            unfold cellR
            simp only [List.getD, hxc.out, Option.getD_some]
          have hN : (s :: (rules.take j).map (cellR k)).length = j + 1 := by simp only [List.length_cons, List.length_map, List.length_take]; omega
          have HN := Lib.hid hN
          have hbz := below_alloc1 wi (.cells #[.slice (some ⟨bc, oc, none⟩) cl.length cc, .int .i64 x] 82)
          have i0 : (wi.alloc (.cells #[.slice (some ⟨bc, oc, none⟩) cl.length cc, .int .i64 x] 82)).cell? ⟨wi.heap.size, 0, none⟩ = some (.slice (some ⟨bc, oc, none⟩) cl.length cc) := cell_new _ _ _ _ _ rfl
          have i1 := (hbz.cell (p := ⟨bc, oc + k * 2 + 1, none⟩) (World.block_lt_of_cell? wi _ g2)).trans g2
          have OZ := Lib.hid (HO.out.next hbz)
          have hww := below_alloc1 (wi.alloc (.cells #[.slice (some ⟨bc, oc, none⟩) cl.length cc, .int .i64 x] 82)) (.cells #[.slice Aq rs.length cq] 77)
          have OW := Lib.hid (OZ.out.next hww)
          have hz2 : wr.heap.size ≤ ((wi.alloc (.cells #[.slice (some ⟨bc, oc, none⟩) cl.length cc, .int .i64 x] 82)).alloc (.cells #[.slice Aq rs.length cq] 77)).heap.size := Nat.le_trans hszi (Nat.le_trans hbz.size hww.size)
          have BZ := Lib.hid (bx (bx HB.out hbz) hww)
          -- the cell's ranges lie in memory ahead of the row
          obtain ⟨br', or', cl', x', vc', er, _, hxr', f1, f2, hcl'⟩ := HRr.out.rule_at hjl
          obtain ⟨rfl, rfl⟩ : cl' = cl ∧ x' = x := by
            have e := hxr.out.symm.trans hxr'.out
            injection e with e
            injection e with e1 e2
            exact ⟨e1.symm, e2.symm⟩
          obtain ⟨rfl, rfl⟩ := some_addr er
          have ev : vc' = .slice (some ⟨bc, oc, none⟩) cl'.length cc := by
            have := (HB.out.cell (p := ⟨br, or_ + j * 2, none⟩) (World.block_lt_of_cell? wr _ f1)).trans f1
            rw [e1] at this
            exact (Option.some.inj this).symm
          subst ev
          obtain ⟨bc', oc', ng', rs', vrs', ec, _, hxc', f3, f4, hrs'⟩ := hcl'.cell_at hkc
          obtain ⟨rfl, rfl⟩ := some_addr ec
          obtain ⟨rfl, rfl⟩ : ng' = ng ∧ rs' = rs := by
            have e := hxc.out.symm.trans hxc'.out
            injection e with e
            injection e with e1 e2
            exact ⟨e1.symm, e2.symm⟩
          have ew : vrs' = .slice Aq rs'.length cq := by
            have := (HB.out.cell (p := ⟨bc, oc + k * 2 + 1, none⟩) (World.block_lt_of_cell? wr _ f4)).trans f4
            rw [g2] at this
            exact (Option.some.inj this).symm
          subst ew
          have HY : Hid (Enc.rng.slice.rd ((wi.alloc (.cells #[.slice (some ⟨bc, oc, none⟩) cl'.length cc, .int .i64 x'] 82)).alloc (.cells #[.slice Aq rs'.length cq] 77)) (Off 0 ((wi.alloc (.cells #[.slice (some ⟨bc, oc, none⟩) cl'.length cc, .int .i64 x'] 82)).alloc (.cells #[.slice Aq rs'.length cq] 77)) u10) rs' [.slice Aq rs'.length cq]) :=
            ⟨_, rfl, (hrs'.below (B := wr.heap.size) (fun _ h => h) BZ.out).more (off_old HO.out (Nat.le_refl _) hz2)⟩
          have hzz : (wi.alloc (.cells #[.slice (some ⟨bc, oc, none⟩) cl'.length cc, .int .i64 x'] 82)).heap.size = wi.heap.size + 1 := by simp
          have hnew : Hid (∀ j u, [Value.slice Aq rs'.length cq][j]? = some u → ((wi.alloc (.cells #[.slice (some ⟨bc, oc, none⟩) cl'.length cc, .int .i64 x'] 82)).alloc (.cells #[.slice Aq rs'.length cq] 77)).cell? ((⟨wi.heap.size + 1, 0, none⟩ : Addr).add j) = some u) := by rw [← hzz]; exact cell_one_newI _ _ _
          clear hN hcl hcl' hrs hrs' hww f1 f2 f3 f4 er ec hbz hzz
          go_wp2_with (at_builtin; refine wpList_append_one (E := Enc.rng.slice) _ rfl _ _ 62 rfl wr.heap.size 0 77 24 (.slice none 0 0) x_under_rr x_info_rr rfl (by decide) _ _ rfl OW.out ⟨wi.heap.size + 1, 0, none⟩ rs' [.slice Aq rs'.length cq] rfl HY.out hnew.out (by rw [HN.out]; omega) (by rw [HN.out]; unfold maxLen; omega) hz2 ?_; intro v' w6 hown' hgrow6 _)
          have hbel := below_of_grown hgrow6 hz2 (fun k hk => (OW.out.lt k hk).1)
          refine ⟨⟨j + 1, by omega, by go_num, ?_, BZ.out.trans hbel⟩, by simp [intOf]; omega⟩
          show OwnG _ _ _ _ _ _ _
          rw [HT.out, ← List.cons_append]
          exact hown'
        · have ej : rules.take j = rules := List.take_of_length_le (by omega)
          have HO' := HO.out
          rw [ej, ← colSets_eq] at HO'
          obtain ⟨Au, cu', eu, -, -, -⟩ := HO'.form
          have hNl : (colSets s rules k).length = rules.length + 1 := by rw [colSets_eq]; simp
          rw [hNl] at eu
          subst eu
          have HSe := Lib.hid ((HO'.sl (Nat.zero_le _)).more (fun _ h => h.2) : Sl Enc.rng.slice wi (Old wi) (colSets s rules k) _)
          have hlo : Hid (∀ q, q ∈ colSets s rules k → loIn q) := by
            intro q hq
            rw [colSets_eq] at hq
            rcases List.mem_cons.1 hq with rfl | hq
            · exact loIn_of_good HGS.out
            · obtain ⟨r, hr, rfl⟩ := List.mem_map.1 hq
              obtain ⟨hl1, hl2⟩ := HRC.out r hr
              have hkr : k < r.1.length := by omega
              have : cellR k r = r.1[k].2 := by unfold cellR; simp [List.getD, List.getElem?_eq_getElem hkr]
              rw [this]
              exact loIn_of_good (hl2 _ (List.getElem_mem hkr))
          clear HO HO' hNl
          go_wp2_with fail
          refine (ref_edges (colSets s rules k) _ _ HSe.out hlo.out).mono ?_
          intro e we hpe
          obtain ⟨ve, E, rfl, hoe, hie, hme, hbe⟩ := hpe
          have HEd : Hid (EdgesOf (colSets s rules k) E) := ⟨hie, hme⟩
          have hEl := hie.length_le
          have HSE := Lib.hid hoe.slOld
          have BE := Lib.hid (bx HB.out hbe)
          obtain ⟨AE, cE, eE, hE1, hE2⟩ := hoe.slOld.form
          subst eE
          unfold maxLen at hE2
          have hzE := BE.out.size
          clear hoe hie hme hbe HSe
          go_wp2
          go_loopw [13, 48] (fun u i wi => ∃ j : Nat, j ≤ E.length ∧ i = .int .i64 j ∧ Hid (OwnG Enc.int wi we.heap.size we.heap.size 3 u ((E.take j).filter (hasB s))) ∧ Hid (Below we.heap.size we wi)) (fun _ i _ => E.length - (intOf i).toNat)
          case atStart => exact ⟨0, Nat.zero_le _, rfl, OwnG.nil, Below.refl _ _⟩
          case round =>
            rename World => wx
            obtain ⟨j2, hj2, rfl, HO2, HB2⟩ := hrel
            have hzx := HB2.out.size
            have BX := Lib.hid (bx BE.out HB2.out)
            have hcnt : ((E.take j2).filter (hasB s)).length ≤ j2 := Nat.le_trans (List.length_filter_le _ _) (by rw [List.length_take]; omega)
            by_cases hj2l : j2 < E.length
            · obtain ⟨be, oe, n, rfl, _, hxn, g1⟩ := (HSE.out.onOld HB2.out).int_at hj2l
              have g2 := (BX.out.cell (p := ⟨ba, oa + k, none⟩) (World.block_lt_of_cell? wr _ cu)).trans cu
              have HFi := Lib.hid (filter_at (p := hasB s) hxn.out)
              go_wp2_with fail
              refine (ref_InSet s _ n _ (HS.out.onOld BX.out)).mono ?_
              rintro e w7 ⟨rfl, hb7⟩
              have O7 := Lib.hid (HO2.out.next hb7)
              have B7 := Lib.hid (bx HB2.out hb7)
              clear hb7 g1 g2
              cases hin : hasB s n
              · rw [hin] at HFi
                go_wp2
                refine ⟨⟨j2 + 1, by omega, by go_num, ?_, B7.out⟩, by simp [intOf]; omega⟩
                show OwnG _ _ _ _ _ _ _
                rw [HFi.out]
                simpa using O7.out
              · rw [hin] at HFi
                have O8 := Lib.hid (O7.out.alloc (.cells #[.int .i64 n] 3))
                have B8 := Lib.hid (bx B7.out (below_alloc1 w7 (.cells #[.int .i64 n] 3)))
                have hz8 : we.heap.size ≤ (w7.alloc (.cells #[.int .i64 n] 3)).heap.size := B8.out.size
                go_wp2_with (at_builtin; refine wpList_append_one (E := Enc.int) _ rfl _ _ 27 rfl we.heap.size we.heap.size 3 8 (.int .i64 0) x_under_i x_info_i rfl (by decide) _ _ rfl O8.out ⟨w7.heap.size, 0, none⟩ n [.int .i64 n] rfl rfl (cell_one_newI _ _ _) (by omega) (by unfold maxLen; omega) hz8 ?_; intro v' w9 hown' hgrow9 _)
                have hbel := below_of_grown hgrow9 hz8 (fun k hk => (O8.out.lt k hk).1)
                refine ⟨⟨j2 + 1, by omega, by go_num, ?_, B8.out.trans hbel⟩, by simp [intOf]; omega⟩
                show OwnG _ _ _ _ _ _ _
                rw [HFi.out]
                simpa using hown'
            · have e2 : E.take j2 = E := List.take_of_length_le (by omega)
              have HO3 := HO2.out
              rw [e2] at HO3
              obtain ⟨Al, cl, rfl, -, -, -⟩ := HO3.form
              have SL := Lib.hid (HO3.sl (Nat.le_refl _))
              have V9 := Lib.hid (HV.out.keep BX.out)
              obtain ⟨At, ct, et, ht1, ht2, -⟩ := V9.out.own.form
              subst et
              have q0 := V9.out.cell
              have q1 := V9.out.fz
              have hwy := below_alloc1 wx (.cells #[.slice Al (E.filter (hasB s)).length cl] 27)
              have V10 := Lib.hid (V9.out.keep hwy)
              have BY := Lib.hid (bx BX.out hwy)
              have hzy : w.heap.size + 3 ≤ (wx.alloc (.cells #[.slice Al (E.filter (hasB s)).length cl] 27)).heap.size := Nat.le_trans hzr BY.out.size
              have HY : Hid (Enc.int.slice.rd (wx.alloc (.cells #[.slice Al (E.filter (hasB s)).length cl] 27)) (Off (w.heap.size + 3) (wx.alloc (.cells #[.slice Al (E.filter (hasB s)).length cl] 27)) (.slice At at'.length ct)) (E.filter (hasB s)) [.slice Al (E.filter (hasB s)).length cl]) :=
                ⟨_, rfl, (SL.out.on hwy).more fun k hk => off_new HV.out.own hzr (Nat.le_refl _) k ⟨by have := hk.1; omega, hk.2⟩⟩
              have hq : w.heap.size + 2 < w.heap.size + 3 := by omega
              clear HO2 HO3
              generalize hFE : E.filter (hasB s) = FE at *
              go_wp2_with (at_builtin; refine wpList_append_one (E := Enc.int.slice) _ rfl _ _ 149 rfl (w.heap.size + 3) (w.heap.size + 3) 27 24 (.slice none 0 0) x_under_ii x_info_ii rfl (by decide) _ _ rfl V10.out.own ⟨wx.heap.size, 0, none⟩ FE [.slice Al FE.length cl] rfl HY.out (cell_one_newI _ _ _) (by omega) (by unfold maxLen; omega) hzy ?_; intro v11 w11 hown11 hgrow11 _; have hbI := hgrow11.block (w.heap.size + 2) V10.out.lt (fun e => by have := (V10.out.own.lt (w.heap.size + 2) e.symm).1; omega); have r0 := (World.cell?_of_block (a := ⟨w.heap.size + 2, 0, none⟩) hbI).trans V10.out.cell; have r1 := (World.frozen?_of_block (a := ⟨w.heap.size + 2, 0, none⟩) hbI).trans V10.out.fz; obtain ⟨A11, c11, e11, -, -, -⟩ := hown11.form; rw [List.length_append] at e11; replace e11 : v11 = .slice A11 (at'.length + 1) c11 := e11; subst e11)
              have hV12 : AtV (w11.setCell ⟨w.heap.size + 2, 0, none⟩ (.slice A11 (at'.length + 1) c11)) (w.heap.size + 2) (w.heap.size + 3) (.slice A11 (at'.length + 1) c11) (at' ++ [FE]) :=
                ⟨by have := hgrow11.size; have := V10.out.lt; simp [World.setCell]; omega, World.cell?_setCell_same w11 _ _ r0, by simpa using r1, hown11.setCell hq (fun e => by have := (hown11.lt _ e).1; omega)⟩
              have hfr : FrI (w.heap.size + 2) (w.heap.size + 3) wc (w11.setCell ⟨w.heap.size + 2, 0, none⟩ (.slice A11 (at'.length + 1) c11)) :=
                HFr.out.trans ((FrI.of_below BY.out hzr).trans ((FrI.of_grown hgrow11 hzy (fun k hk => (V10.out.own.lt k hk).1)).trans (FrI.set ..)))
              refine ⟨⟨k + 1, _, at' ++ [FE], by omega, by go_num, by rw [List.length_append, HAL.out]; rfl, ?_, hV12, hfr⟩, by simp [intOf]; omega⟩
              intro q s' l' hs' hl'
              by_cases hqk : q < at'.length
              · rw [List.getElem?_append_left hqk] at hl'
                exact hC.out q s' l' hs' hl'
              · have hq2 : q < at'.length + 1 := by
                  have := (List.getElem?_eq_some_iff.1 hl').1
                  rw [List.length_append] at this
                  simpa using this
                obtain rfl : q = k := by have := HAL.out; omega
                rw [List.getElem?_append_right (by omega)] at hl'
                rw [show q - at'.length = 0 by omega] at hl'
                have hl2 : l' = FE := by simpa using hl'.symm
                have hs2 : s' = s := Option.some.inj (hs'.symm.trans hx.out)
                subst hl2 hs2
                exact ⟨E, HEd.out, hFE.symm⟩
    · have hall : at'.length = a.length := by have := HAL.out; omega
      have HCols : Hid (Cols rules 0 a at') := cols_of 0 hall (fun j s l hs hl => by rw [Nat.zero_add]; exact hC.out j s l hs hl)
      clear hall hC HAL
      obtain ⟨FV, hFV⟩ : ∃ FV : Value, FV = .func (.func 97) #[] #[.pointer (some ⟨wr.heap.size, 0, none⟩), .pointer (some ⟨w.heap.size + 2, 0, none⟩), .pointer (some ⟨w.heap.size + 1, 0, none⟩), .pointer (some ⟨wr.heap.size + 1, 0, none⟩)] := ⟨_, rfl⟩
      have h1 := below_alloc1 wr (.cells #[.slice none 0 0] 27)
      have z1 : (wr.alloc (.cells #[.slice none 0 0] 27)).heap.size = wr.heap.size + 1 := by simp
      have i1 : (wr.alloc (.cells #[.slice none 0 0] 27)).cell? ⟨wr.heap.size, 0, none⟩ = some (.slice none 0 0) := cell_new _ _ _ _ _ rfl
      have i2 : (wr.alloc (.cells #[.slice none 0 0] 27)).frozen? ⟨wr.heap.size, 0, none⟩ = false := by simp
      have key : ∀ W1 : World, Below wr.heap.size wr W1 → W1.heap.size = wr.heap.size + 1 → W1.cell? ⟨wr.heap.size, 0, none⟩ = some (.slice none 0 0) → W1.frozen? ⟨wr.heap.size, 0, none⟩ = false →
          WOK w at' vat fid cb wr.heap.size (w.heap.size + 2) (w.heap.size + 1) (wr.heap.size + 1) (wr.heap.size + 2) (W1.alloc (.cells #[FV] 33)) ∧ InV (W1.alloc (.cells #[FV] 33)) wr.heap.size (wr.heap.size + 2) (.slice none 0 0) [] ∧ Below wr.heap.size wr (W1.alloc (.cells #[FV] 33)) := by
        intro W1 hb hz c0 c1
        have h2 := below_alloc1 W1 (.cells #[FV] 33)
        have hb2 := bx hb h2
        have z2 : (W1.alloc (.cells #[FV] 33)).heap.size = wr.heap.size + 2 := by simp; omega
        have kb := HFr.out.cell (p := ⟨w.heap.size + 1, 0, none⟩) (by show w.heap.size + 1 < _; omega) (by show w.heap.size + 1 ≠ _; omega) KB.out
        have kn : (W1.alloc (.cells #[FV] 33)).cell? ⟨wr.heap.size + 1, 0, none⟩ = some FV := by rw [← hz]; exact cell_new _ _ _ _ _ rfl
        refine ⟨⟨(hb2.cell (p := ⟨w.heap.size + 2, 0, none⟩) HV.out.lt).trans HV.out.cell, ?_, (hb2.cell (p := ⟨w.heap.size + 1, 0, none⟩) (by show w.heap.size + 1 < _; omega)).trans kb, ?_, bx BW.out hb2, ⟨by omega, by omega⟩, ⟨by omega, by omega⟩, ⟨by omega, by omega⟩, ⟨by omega, by omega⟩, by omega⟩, ⟨by omega, ?_, ?_, OwnG.nil⟩, hb2⟩
        · exact ((HV.out.own.sl (Nat.le_refl _)).below (B := wr.heap.size) (fun _ hk => hk.2) hb2).more fun k hk => ⟨by have := hk.2; omega, by have := hk.2; omega⟩
        · rw [← hFV]
          exact kn
        · exact (h2.cell (p := ⟨wr.heap.size, 0, none⟩) (by show wr.heap.size < _; omega)).trans c0
        · exact (h2.frozen (p := ⟨wr.heap.size, 0, none⟩) (by show wr.heap.size < _; omega)).trans c1
      obtain ⟨hwok, hinv, hbb⟩ := key _ h1 z1 i1 i2
      have hp := ref_walk w at' vat fid cb f wr.heap.size (w.heap.size + 2) (w.heap.size + 1) (wr.heap.size + 1) (wr.heap.size + 2) hal3 eg HF.out at'.length [] _ _ (by simp) hwok hinv
      rw [show at'.drop ([] : List Int).length = at' from rfl] at hp
      have BB := Lib.hid (bx BW.out hbb)
      clear hbb
      have ZZ : Hid (w.heap.size ≤ wr.heap.size) := by show _ ≤ _; omega
      subst hFV
      clear key hwok hinv h1 z1 i1 i2
      go_wp2_with fail
      refine hp.mono ?_
      intro e w5 hp5
      obtain ⟨rfl, ⟨v5, hV5⟩, hR5⟩ := hp5
      have B5 : Hid (Below w.heap.size w w5) := ⟨hR5.os.trans BB.out.os, hR5.tape.trans BB.out.tape, hR5.output.trans BB.out.output, Nat.le_trans BB.out.size hR5.size, fun j hj => (hR5.block j (by omega) (by omega)).trans (BB.out.block j hj)⟩
      clear hp hR5 BB
      cases hw : walkF f at' [] with
      | none =>
        have HS : Hid (srchV f at' = ([], false)) := by show _ = _; unfold srchV; rw [hw]
        clear hw hV5
        simp only [Option.isSome_none]
        go_wp2
        go_ret2
        refine ⟨at', .slice none 0 0, HCols.out, ?_, ?_, B5.out⟩
        · rw [HS.out]; rfl
        · rw [HS.out]; exact Sl.nil
      | some i =>
        have HS : Hid (srchV f at' = (i, true)) := by show _ = _; unfold srchV; rw [hw]
        rw [hw] at hV5
        simp only [Option.getD_some] at hV5
        have V5 := Lib.hid hV5
        have q0 := hV5.cell
        clear hw hV5
        simp only [Option.isSome_some]
        go_wp2
        go_ret2
        refine ⟨at', v5, HCols.out, ?_, ?_, B5.out⟩
        · rw [HS.out]; rfl
        · rw [HS.out]
          exact (V5.out.own.sl (Nat.le_refl _)).more fun k hk => ⟨by have := hk.1; have := ZZ.out; omega, hk.2⟩

end Go.Proofs.YtmdljknlbmlacabGreatDoor
namespace Go.Proofs.YtmdljknlbmlacabGreatDoor
open Go.RowKit

theorem idx_len (k : Nat) (l : List RuleD) (i : List Int) : (idxL k l i).length = (outsL l i).length := by
  induction l generalizing k with
  | nil => rfl
  | cons r l ih =>
    have e : idxL k (r :: l) i = (if matchC r.1 i then [(k : Int)] else []) ++ idxL (k + 1) l i := rfl
    rw [e, List.length_append, ih (k + 1)]
    unfold outsL
    by_cases h : matchC r.1 i = true
    · simp [h]; omega
    · simp [h]
theorem clash_code {t : TabD} (h : goodT t = true) (l : List Int) : decide ((saysV t l).2.2 = 4) = conflictB t.pol (outsL t.rules l) := by
  unfold saysV
  by_cases hl : l.length = t.ins.length
  · rw [if_pos ⟨h, hl⟩, saysO_code]
    cases conflictB t.pol (outsL t.rules l) <;> simp
  · rw [if_neg (fun hh => hl hh.2)]
    have : outsL t.rules l = [] := by
      have h0 : (outsL t.rules l).length = 0 := by
        rw [outs_none]
        intro r hr
        have hlen := (goodR_iff.1 ((goodRs_iff.1 (goodT_iff.1 h).2.2.2.2).2.2 r hr)).2.2.1
        cases hm : matchC r.1 l
        · rfl
        · have : ∀ (cs : List CellD) (i : List Int), matchC cs i = true → cs.length = i.length := by
            intro cs
            induction cs with
            | nil => intro i hi; cases i <;> simp_all [matchC]
            | cons c cs ih =>
              intro i hi
              cases i with
              | nil => simp [matchC] at hi
              | cons n i =>
                simp only [matchC, Bool.and_eq_true] at hi
                simp [ih i hi.2]
          have := this _ _ hm
          omega
      exact List.length_eq_zero_iff.1 h0
    rw [this]; rfl
theorem clash_none {t : TabD} {a : BoxD} (h : fitsB t a = true) (hp : 2 < t.pol) : clashV t a = ([], false) := by
  have hL := clash_least h
  have hf : ∀ i, conflictB t.pol (outsL t.rules i) = false := by
    intro i
    cases outsL t.rules i with
    | nil => rfl
    | cons x l =>
      show l.any (forbidsB t.pol x) = false
      rw [List.any_eq_false]
      intro y _
      unfold forbidsB
      rw [decide_eq_false (by omega), decide_eq_false (by omega)]
      simp
  cases hb : (clashV t a).2
  · have := (hL.2 hb).1
    rw [← this, ← hb]
  · have := (hL.1 hb).2.1
    simp only at this
    rw [hf] at this; cases this

section
variable {nm : ByteArray} {pol : Int} {comp : Bool} {ins : List ByteArray} {rules : List RuleD} {Ai Ar : Option Addr} {ci cr : Nat}
set_option maxRecDepth 100000 in
set_option maxHeartbeats 1000000 in
theorem ref_gapF (l : List Int) (vl : Value) (w : World) (B : Nat) (H : Hid (TabAt w (Old w) ⟨nm, pol, comp, ins, rules⟩ (.agg #[.string nm, .int .i64 pol, .bool comp, .slice Ai ins.length ci, .slice Ar rules.length cr]))) (hl : Sl Enc.int w (Old w) l vl) (HS : Hid (smallT ⟨nm, pol, comp, ins, rules⟩))
    (c0 : w.cell? ⟨B, 0, none⟩ = some (.string nm)) (c1 : w.cell? ⟨B, 1, none⟩ = some (.int .i64 pol)) (c2 : w.cell? ⟨B, 2, none⟩ = some (.bool comp)) (c3 : w.cell? ⟨B, 3, none⟩ = some (.slice Ai ins.length ci)) (c4 : w.cell? ⟨B, 4, none⟩ = some (.slice Ar rules.length cr)) :
    Calls Tryz.prog 65 (#[vl] ++ #[.pointer (some ⟨B, 0, none⟩)]) w fun e w' => e = .returned (.bool (decide ((outsL rules l).length = 0))) ∧ Below w.heap.size w w' := by
  have HL := Lib.hid hl
  have HID := Lib.hid (idx_len 0 rules l)
  obtain ⟨Al, cl, rfl, -, -⟩ := hl.form
  clear hl
  go_enter Tryz.func65, Tryz.ntmps65
  go_wp2_with fail
  refine (ref_MatchesOf _ l _ _ _ H.out HL.out HS.out).mono ?_
  rintro e w1 ⟨v1, rfl, ho1, hb1⟩
  obtain ⟨A1, c1', e1', -, -, -⟩ := ho1.form
  replace e1' : v1 = .slice A1 (idxL 0 rules l).length c1' := e1'
  subst e1'
  have e1 : decide ((outsL rules l).length = 0) = ((((idxL 0 rules l).length : Int)) == 0) := by
    rw [HID.out]
    cases h : (outsL rules l).length with
    | zero => rfl
    | succ n => simp; omega
  generalize hgl : (idxL 0 rules l).length = N at *
  have E1 := Lib.hid e1
  clear e1 hgl ho1
  go_wp2
  go_ret
  exact ⟨ret_bool E1.out.symm, hb1⟩
set_option maxRecDepth 100000 in
set_option maxHeartbeats 1000000 in
theorem ref_clashF (l : List Int) (vl : Value) (w : World) (B : Nat) (H : Hid (TabAt w (Old w) ⟨nm, pol, comp, ins, rules⟩ (.agg #[.string nm, .int .i64 pol, .bool comp, .slice Ai ins.length ci, .slice Ar rules.length cr]))) (hl : Sl Enc.int w (Old w) l vl) (HS : Hid (smallT ⟨nm, pol, comp, ins, rules⟩)) (hsi : ins.length * 16 ≤ 140737488355328)
    (c0 : w.cell? ⟨B, 0, none⟩ = some (.string nm)) (c1 : w.cell? ⟨B, 1, none⟩ = some (.int .i64 pol)) (c2 : w.cell? ⟨B, 2, none⟩ = some (.bool comp)) (c3 : w.cell? ⟨B, 3, none⟩ = some (.slice Ai ins.length ci)) (c4 : w.cell? ⟨B, 4, none⟩ = some (.slice Ar rules.length cr)) :
    Calls Tryz.prog 63 (#[vl] ++ #[.pointer (some ⟨B, 0, none⟩)]) w fun e w' => e = .returned (.bool (decide ((saysV ⟨nm, pol, comp, ins, rules⟩ l).2.2 = 4))) ∧ Below w.heap.size w w' := by
  have HL := Lib.hid hl
  obtain ⟨Al, cl, rfl, -, -⟩ := hl.form
  clear hl
  generalize hR : saysV ⟨nm, pol, comp, ins, rules⟩ l = R
  have HR := Lib.hid hR
  clear hR
  obtain ⟨r1, r2, r3⟩ := R
  go_enter Tryz.func63, Tryz.ntmps63
  go_wp2_with fail
  refine (ref_SaysOf _ l _ _ _ H.out HL.out HS.out hsi).mono ?_
  intro e w1 hp1
  rw [HR.out] at hp1
  obtain ⟨rfl, hb1⟩ := hp1
  go_wp2
  go_ret
  refine ⟨ret_bool ?_, hb1⟩
  by_cases h : r3 = 4 <;> simp [h]
end

set_option maxRecDepth 100000 in
set_option maxHeartbeats 400000 in
theorem ref_GapOf (t : TabD) (a : BoxD) (v va : Value) (w : World) (h : TabAt w (Old w) t v) (h' : Sl Enc.rng.slice w (Old w) a va) (hs : smallT t) (hsi : t.ins.length * 16 ≤ 140737488355328) :
    Calls Tryz.prog 32 #[v, va] w (PtPost (gapV t a) w) := by
  have H := Lib.hid h
  have HA := Lib.hid h'
  have HS := Lib.hid hs
  have HSI := Lib.hid hsi
  obtain ⟨nm, pol, comp, ins, rules⟩ := t
  obtain ⟨vi, vr, rfl, hi', hr'⟩ := h
  simp only at hi' hr' hsi
  obtain ⟨Ai, ci, rfl, hi1, hi2⟩ := hi'.form
  obtain ⟨Ar, cr, rfl, hr1, hr2⟩ := hr'.form
  obtain ⟨Aa, ca, rfl, ha1, ha2⟩ := h'.form
  unfold maxLen at hi2 hr2 ha2
  have hw0 := below_alloc1 w (.cells #[.string nm, .int .i64 pol, .bool comp, .slice Ai ins.length ci, .slice Ar rules.length cr] 59)
  have c0 : (w.alloc (.cells #[.string nm, .int .i64 pol, .bool comp, .slice Ai ins.length ci, .slice Ar rules.length cr] 59)).cell? ⟨w.heap.size, 0, none⟩ = some (.string nm) := cell_new _ _ _ _ _ rfl
  have c1 : (w.alloc (.cells #[.string nm, .int .i64 pol, .bool comp, .slice Ai ins.length ci, .slice Ar rules.length cr] 59)).cell? ⟨w.heap.size, 1, none⟩ = some (.int .i64 pol) := cell_new _ _ _ _ _ rfl
  have c2 : (w.alloc (.cells #[.string nm, .int .i64 pol, .bool comp, .slice Ai ins.length ci, .slice Ar rules.length cr] 59)).cell? ⟨w.heap.size, 2, none⟩ = some (.bool comp) := cell_new _ _ _ _ _ rfl
  have c3 : (w.alloc (.cells #[.string nm, .int .i64 pol, .bool comp, .slice Ai ins.length ci, .slice Ar rules.length cr] 59)).cell? ⟨w.heap.size, 3, none⟩ = some (.slice Ai ins.length ci) := cell_new _ _ _ _ _ rfl
  have c4 : (w.alloc (.cells #[.string nm, .int .i64 pol, .bool comp, .slice Ai ins.length ci, .slice Ar rules.length cr] 59)).cell? ⟨w.heap.size, 4, none⟩ = some (.slice Ar rules.length cr) := cell_new _ _ _ _ _ rfl
  have hlt0 : w.heap.size < (w.alloc (.cells #[.string nm, .int .i64 pol, .bool comp, .slice Ai ins.length ci, .slice Ar rules.length cr] 59)).heap.size := by simp
  generalize hwe : w.alloc (.cells #[.string nm, .int .i64 pol, .bool comp, .slice Ai ins.length ci, .slice Ar rules.length cr] 59) = w0 at *
  have H0 := Lib.hid (H.out.onOld hw0)
  have A0 := Lib.hid (HA.out.onOld hw0)
  clear hi' hr' h' hs
  cases hG : goodT ⟨nm, pol, comp, ins, rules⟩
  · have HV : Hid (gapV ⟨nm, pol, comp, ins, rules⟩ a = ([], false)) := by show _ = _; simp [gapV, fitsB, hG]
    have HGG := Lib.hid hG
    clear hG
    go_enter Tryz.func32, Tryz.ntmps32
    go_wp2_with fail
    clear hwe
    refine (ref_IsTable _ _ _ H0.out HS.out HSI.out).mono ?_
    rintro e w1 ⟨rfl, hb1⟩
    rw [HGG.out]
    go_wp2
    go_ret2
    refine ⟨.slice none 0 0, ?_, ?_, bx hw0 hb1⟩
    · rw [HV.out]; rfl
    · rw [HV.out]; exact Sl.nil
  · have HGG := Lib.hid hG
    cases hBx : goodBox a ins.length
    · have HV : Hid (gapV ⟨nm, pol, comp, ins, rules⟩ a = ([], false)) := by show _ = _; simp [gapV, fitsB, hBx]
      have HBB := Lib.hid hBx
      clear hG hBx
      go_enter Tryz.func32, Tryz.ntmps32
      go_wp2_with fail
      clear hwe
      refine (ref_IsTable _ _ _ H0.out HS.out HSI.out).mono ?_
      rintro e w1 ⟨rfl, hb1⟩
      rw [HGG.out]
      have d3 := (hb1.cell (p := ⟨w.heap.size, 3, none⟩) hlt0).trans c3
      go_wp2_with fail
      refine (ref_IsBox a _ ins.length _ (A0.out.onOld hb1)).mono ?_
      rintro e w2 ⟨rfl, hb2⟩
      rw [HBB.out]
      go_wp2
      go_ret2
      refine ⟨.slice none 0 0, ?_, ?_, bx hw0 (bx hb1 hb2)⟩
      · rw [HV.out]; rfl
      · rw [HV.out]; exact Sl.nil
    · have HBB := Lib.hid hBx
      have hfit : fitsB ⟨nm, pol, comp, ins, rules⟩ a = true := by simp [fitsB, hG, hBx]
      have HFit := Lib.hid hfit
      by_cases hp : pol = 7
      · have HV : Hid (gapV ⟨nm, pol, comp, ins, rules⟩ a = ([], false)) := by show _ = _; simp [gapV, hp]
        clear hG hBx hfit
        have hp1 : (pol == 7) = true := by simp [hp]
        clear hp
        go_enter Tryz.func32, Tryz.ntmps32
        go_wp2_with fail
        clear hwe
        refine (ref_IsTable _ _ _ H0.out HS.out HSI.out).mono ?_
        rintro e w1 ⟨rfl, hb1⟩
        rw [HGG.out]
        have d3 := (hb1.cell (p := ⟨w.heap.size, 3, none⟩) hlt0).trans c3
        go_wp2_with fail
        refine (ref_IsBox a _ ins.length _ (A0.out.onOld hb1)).mono ?_
        rintro e w2 ⟨rfl, hb2⟩
        rw [HBB.out]
        have d1 := ((bx hb1 hb2).cell (p := ⟨w.heap.size, 1, none⟩) hlt0).trans c1
        go_wp2
        go_ret2
        refine ⟨.slice none 0 0, ?_, ?_, bx hw0 (bx hb1 hb2)⟩
        · rw [HV.out]; rfl
        · rw [HV.out]; exact Sl.nil
      · have hp1 : (pol == 7) = false := by simp [hp]
        have HP := Lib.hid hp
        obtain ⟨f1, f2, f3⟩ := fits_rules hfit
        simp only at f2 f3
        have hsets := (goodBox_iff.1 hBx).2
        have HSE := Lib.hid hsets
        have hgr := goodRs_iff.1 (goodT_iff.1 hG).2.2.2.2
        simp only at hgr
        have hrl : rules.length ≤ 6 := hgr.2.1
        have HRC : Hid (∀ r ∈ rules, r.1.length = a.length ∧ ∀ c ∈ r.1, goodB c.2 = true) := fun r hr => ⟨f3 r hr, fun c hc => by
          have hx := hgr.2.2 r hr
          simp only [goodR, Bool.and_eq_true, List.all_eq_true] at hx
          have hy := hx.2 c hc
          simp only [goodC, Bool.and_eq_true] at hy
          exact hy.2⟩
        have ha3 : a.length ≤ 3 := by have := (goodBox_iff.1 hBx).1; omega
        have HGA : Hid (∀ s ∈ a, goodB s = true) := fun s hs => by
          simp only [setsB, List.all_eq_true, Bool.and_eq_true] at hsets
          exact (hsets s hs).2
        clear hgr hsets f1 f2 f3 hfit hBx
        have HG2 := Lib.hid hG
        clear hG hp
        go_enter Tryz.func32, Tryz.ntmps32
        go_wp2_with fail
        clear hwe
        refine (ref_IsTable _ _ _ H0.out HS.out HSI.out).mono ?_
        rintro e w1 ⟨rfl, hb1⟩
        rw [HGG.out]
        have d3 := (hb1.cell (p := ⟨w.heap.size, 3, none⟩) hlt0).trans c3
        go_wp2_with fail
        refine (ref_IsBox a _ ins.length _ (A0.out.onOld hb1)).mono ?_
        rintro e w2 ⟨rfl, hb2⟩
        rw [HBB.out]
        have hb02 := bx hb1 hb2
        have hlt2 := Nat.lt_of_lt_of_le hlt0 hb02.size
        have e0 := (hb02.cell (p := ⟨w.heap.size, 0, none⟩) hlt0).trans c0
        have e1 := (hb02.cell (p := ⟨w.heap.size, 1, none⟩) hlt0).trans c1
        have e2 := (hb02.cell (p := ⟨w.heap.size, 2, none⟩) hlt0).trans c2
        have e3 := (hb02.cell (p := ⟨w.heap.size, 3, none⟩) hlt0).trans c3
        have e4 := (hb02.cell (p := ⟨w.heap.size, 4, none⟩) hlt0).trans c4
        have H2 := Lib.hid (H0.out.onOld hb02)
        have A2 := Lib.hid (A0.out.onOld hb02)
        have hsr := ref_search ⟨nm, pol, comp, ins, rules⟩ a _ _ 65 #[.pointer (some ⟨w.heap.size, 0, none⟩)] (fun i => decide ((outsL rules i).length = 0)) w2 H2.out A2.out ha3 HGA.out hrl HRC.out (enters_of Tryz.func65 (by kernel_rfl) rfl)
          (fun l vl W hW _ hl => ref_gapF l vl W w.heap.size (H2.out.onOld hW) hl HS ((hW.cell (p := ⟨w.heap.size, 0, none⟩) hlt2).trans e0) ((hW.cell (p := ⟨w.heap.size, 1, none⟩) hlt2).trans e1) ((hW.cell (p := ⟨w.heap.size, 2, none⟩) hlt2).trans e2) ((hW.cell (p := ⟨w.heap.size, 3, none⟩) hlt2).trans e3) ((hW.cell (p := ⟨w.heap.size, 4, none⟩) hlt2).trans e4))
        have HSR := Lib.hid hsr
        have B2 := Lib.hid (bx hw0 hb02)
        clear hsr c0 c1 c2 c3 c4 d3
        go_wp2_with fail
        refine HSR.out.mono ?_
        intro e w3 hp3
        obtain ⟨at', vr3, hcols, rfl, hs3, hb3⟩ := hp3
        have heq : srchV (fun i => decide ((outsL rules i).length = 0)) at' = gapV ⟨nm, pol, comp, ins, rules⟩ a := by
          exact Least.uniq (srch_ok (t := ⟨nm, pol, comp, ins, rules⟩) (fun o => decide (o.length = 0)) (fun _ => rfl) HSE.out hcols) (gap_least HFit.out HP.out)
        rw [heq] at hs3 ⊢
        have HS3 := Lib.hid hs3
        clear hs3 hcols heq
        obtain ⟨Av, cv, rfl, -, -⟩ := HS3.out.form
        go_wp2
        go_ret2
        exact ⟨_, rfl, HS3.out.more (fun k hk => ⟨Nat.le_trans B2.out.size hk.1, hk.2⟩), bx B2.out hb3⟩

set_option maxRecDepth 100000 in
set_option maxHeartbeats 400000 in
theorem ref_ClashOf (t : TabD) (a : BoxD) (v va : Value) (w : World) (h : TabAt w (Old w) t v) (h' : Sl Enc.rng.slice w (Old w) a va) (hs : smallT t) (hsi : t.ins.length * 16 ≤ 140737488355328) :
    Calls Tryz.prog 31 #[v, va] w (PtPost (clashV t a) w) := by
  have H := Lib.hid h
  have HA := Lib.hid h'
  have HS := Lib.hid hs
  have HSI := Lib.hid hsi
  obtain ⟨nm, pol, comp, ins, rules⟩ := t
  obtain ⟨vi, vr, rfl, hi', hr'⟩ := h
  simp only at hi' hr' hsi
  obtain ⟨Ai, ci, rfl, hi1, hi2⟩ := hi'.form
  obtain ⟨Ar, cr, rfl, hr1, hr2⟩ := hr'.form
  obtain ⟨Aa, ca, rfl, ha1, ha2⟩ := h'.form
  unfold maxLen at hi2 hr2 ha2
  have hw0 := below_alloc1 w (.cells #[.string nm, .int .i64 pol, .bool comp, .slice Ai ins.length ci, .slice Ar rules.length cr] 59)
  have c0 : (w.alloc (.cells #[.string nm, .int .i64 pol, .bool comp, .slice Ai ins.length ci, .slice Ar rules.length cr] 59)).cell? ⟨w.heap.size, 0, none⟩ = some (.string nm) := cell_new _ _ _ _ _ rfl
  have c1 : (w.alloc (.cells #[.string nm, .int .i64 pol, .bool comp, .slice Ai ins.length ci, .slice Ar rules.length cr] 59)).cell? ⟨w.heap.size, 1, none⟩ = some (.int .i64 pol) := cell_new _ _ _ _ _ rfl
  have c2 : (w.alloc (.cells #[.string nm, .int .i64 pol, .bool comp, .slice Ai ins.length ci, .slice Ar rules.length cr] 59)).cell? ⟨w.heap.size, 2, none⟩ = some (.bool comp) := cell_new _ _ _ _ _ rfl
  have c3 : (w.alloc (.cells #[.string nm, .int .i64 pol, .bool comp, .slice Ai ins.length ci, .slice Ar rules.length cr] 59)).cell? ⟨w.heap.size, 3, none⟩ = some (.slice Ai ins.length ci) := cell_new _ _ _ _ _ rfl
  have c4 : (w.alloc (.cells #[.string nm, .int .i64 pol, .bool comp, .slice Ai ins.length ci, .slice Ar rules.length cr] 59)).cell? ⟨w.heap.size, 4, none⟩ = some (.slice Ar rules.length cr) := cell_new _ _ _ _ _ rfl
  have hlt0 : w.heap.size < (w.alloc (.cells #[.string nm, .int .i64 pol, .bool comp, .slice Ai ins.length ci, .slice Ar rules.length cr] 59)).heap.size := by simp
  generalize hwe : w.alloc (.cells #[.string nm, .int .i64 pol, .bool comp, .slice Ai ins.length ci, .slice Ar rules.length cr] 59) = w0 at *
  have H0 := Lib.hid (H.out.onOld hw0)
  have A0 := Lib.hid (HA.out.onOld hw0)
  clear hi' hr' h' hs
  cases hG : goodT ⟨nm, pol, comp, ins, rules⟩
  · have HV : Hid (clashV ⟨nm, pol, comp, ins, rules⟩ a = ([], false)) := by show _ = _; simp [clashV, fitsB, hG]
    have HGG := Lib.hid hG
    clear hG
    go_enter Tryz.func31, Tryz.ntmps31
    go_wp2_with fail
    clear hwe
    refine (ref_IsTable _ _ _ H0.out HS.out HSI.out).mono ?_
    rintro e w1 ⟨rfl, hb1⟩
    rw [HGG.out]
    go_wp2
    go_ret2
    refine ⟨.slice none 0 0, ?_, ?_, bx hw0 hb1⟩
    · rw [HV.out]; rfl
    · rw [HV.out]; exact Sl.nil
  · have HGG := Lib.hid hG
    cases hBx : goodBox a ins.length
    · have HV : Hid (clashV ⟨nm, pol, comp, ins, rules⟩ a = ([], false)) := by show _ = _; simp [clashV, fitsB, hBx]
      have HBB := Lib.hid hBx
      clear hG hBx
      go_enter Tryz.func31, Tryz.ntmps31
      go_wp2_with fail
      clear hwe
      refine (ref_IsTable _ _ _ H0.out HS.out HSI.out).mono ?_
      rintro e w1 ⟨rfl, hb1⟩
      rw [HGG.out]
      have d3 := (hb1.cell (p := ⟨w.heap.size, 3, none⟩) hlt0).trans c3
      go_wp2_with fail
      refine (ref_IsBox a _ ins.length _ (A0.out.onOld hb1)).mono ?_
      rintro e w2 ⟨rfl, hb2⟩
      rw [HBB.out]
      go_wp2
      go_ret2
      refine ⟨.slice none 0 0, ?_, ?_, bx hw0 (bx hb1 hb2)⟩
      · rw [HV.out]; rfl
      · rw [HV.out]; exact Sl.nil
    · have HBB := Lib.hid hBx
      have hfit : fitsB ⟨nm, pol, comp, ins, rules⟩ a = true := by simp [fitsB, hG, hBx]
      have HFit := Lib.hid hfit
      by_cases hp : 2 < pol
      · have HV : Hid (clashV ⟨nm, pol, comp, ins, rules⟩ a = ([], false)) := by show _ = _; exact clash_none hfit hp
        clear hG hBx hfit
        have hp1 : (2 : Int) < pol := hp
        clear hp
        go_enter Tryz.func31, Tryz.ntmps31
        go_wp2_with fail
        clear hwe
        refine (ref_IsTable _ _ _ H0.out HS.out HSI.out).mono ?_
        rintro e w1 ⟨rfl, hb1⟩
        rw [HGG.out]
        have d3 := (hb1.cell (p := ⟨w.heap.size, 3, none⟩) hlt0).trans c3
        go_wp2_with fail
        refine (ref_IsBox a _ ins.length _ (A0.out.onOld hb1)).mono ?_
        rintro e w2 ⟨rfl, hb2⟩
        rw [HBB.out]
        have d1 := ((bx hb1 hb2).cell (p := ⟨w.heap.size, 1, none⟩) hlt0).trans c1
        go_wp2
        go_ret2
        refine ⟨.slice none 0 0, ?_, ?_, bx hw0 (bx hb1 hb2)⟩
        · rw [HV.out]; rfl
        · rw [HV.out]; exact Sl.nil
      · have hp1 : pol ≤ 2 := by omega
        have HP := Lib.hid hp
        obtain ⟨f1, f2, f3⟩ := fits_rules hfit
        simp only at f2 f3
        have hsets := (goodBox_iff.1 hBx).2
        have HSE := Lib.hid hsets
        have hgr := goodRs_iff.1 (goodT_iff.1 hG).2.2.2.2
        simp only at hgr
        have hrl : rules.length ≤ 6 := hgr.2.1
        have HRC : Hid (∀ r ∈ rules, r.1.length = a.length ∧ ∀ c ∈ r.1, goodB c.2 = true) := fun r hr => ⟨f3 r hr, fun c hc => by
          have hx := hgr.2.2 r hr
          simp only [goodR, Bool.and_eq_true, List.all_eq_true] at hx
          have hy := hx.2 c hc
          simp only [goodC, Bool.and_eq_true] at hy
          exact hy.2⟩
        have ha3 : a.length ≤ 3 := by have := (goodBox_iff.1 hBx).1; omega
        have HGA : Hid (∀ s ∈ a, goodB s = true) := fun s hs => by
          simp only [setsB, List.all_eq_true, Bool.and_eq_true] at hsets
          exact (hsets s hs).2
        clear hgr hsets f1 f2 f3 hfit hBx
        have HG2 := Lib.hid hG
        clear hG hp
        go_enter Tryz.func31, Tryz.ntmps31
        go_wp2_with fail
        clear hwe
        refine (ref_IsTable _ _ _ H0.out HS.out HSI.out).mono ?_
        rintro e w1 ⟨rfl, hb1⟩
        rw [HGG.out]
        have d3 := (hb1.cell (p := ⟨w.heap.size, 3, none⟩) hlt0).trans c3
        go_wp2_with fail
        refine (ref_IsBox a _ ins.length _ (A0.out.onOld hb1)).mono ?_
        rintro e w2 ⟨rfl, hb2⟩
        rw [HBB.out]
        have hb02 := bx hb1 hb2
        have hlt2 := Nat.lt_of_lt_of_le hlt0 hb02.size
        have e0 := (hb02.cell (p := ⟨w.heap.size, 0, none⟩) hlt0).trans c0
        have e1 := (hb02.cell (p := ⟨w.heap.size, 1, none⟩) hlt0).trans c1
        have e2 := (hb02.cell (p := ⟨w.heap.size, 2, none⟩) hlt0).trans c2
        have e3 := (hb02.cell (p := ⟨w.heap.size, 3, none⟩) hlt0).trans c3
        have e4 := (hb02.cell (p := ⟨w.heap.size, 4, none⟩) hlt0).trans c4
        have H2 := Lib.hid (H0.out.onOld hb02)
        have A2 := Lib.hid (A0.out.onOld hb02)
        have hsr := ref_search ⟨nm, pol, comp, ins, rules⟩ a _ _ 63 #[.pointer (some ⟨w.heap.size, 0, none⟩)] (fun i => decide ((saysV ⟨nm, pol, comp, ins, rules⟩ i).2.2 = 4)) w2 H2.out A2.out ha3 HGA.out hrl HRC.out (enters_of Tryz.func63 (by kernel_rfl) rfl)
          (fun l vl W hW _ hl => ref_clashF l vl W w.heap.size (H2.out.onOld hW) hl HS hsi ((hW.cell (p := ⟨w.heap.size, 0, none⟩) hlt2).trans e0) ((hW.cell (p := ⟨w.heap.size, 1, none⟩) hlt2).trans e1) ((hW.cell (p := ⟨w.heap.size, 2, none⟩) hlt2).trans e2) ((hW.cell (p := ⟨w.heap.size, 3, none⟩) hlt2).trans e3) ((hW.cell (p := ⟨w.heap.size, 4, none⟩) hlt2).trans e4))
        have HSR := Lib.hid hsr
        have B2 := Lib.hid (bx hw0 hb02)
        clear hsr c0 c1 c2 c3 c4 d3
        go_wp2_with fail
        refine HSR.out.mono ?_
        intro e w3 hp3
        obtain ⟨at', vr3, hcols, rfl, hs3, hb3⟩ := hp3
        have heq : srchV (fun i => decide ((saysV ⟨nm, pol, comp, ins, rules⟩ i).2.2 = 4)) at' = clashV ⟨nm, pol, comp, ins, rules⟩ a := by
          exact Least.uniq (srch_ok (t := ⟨nm, pol, comp, ins, rules⟩) (f := fun i => decide ((saysV ⟨nm, pol, comp, ins, rules⟩ i).2.2 = 4)) (conflictB pol) (fun i => clash_code HG2.out i) HSE.out hcols) (by rw [show (fun i => decide ((saysV ⟨nm, pol, comp, ins, rules⟩ i).2.2 = 4)) = fun i => conflictB pol (outsL rules i) from funext (clash_code HG2.out)]; exact clash_least HFit.out)
        rw [heq] at hs3 ⊢
        have HS3 := Lib.hid hs3
        clear hs3 hcols heq
        obtain ⟨Av, cv, rfl, -, -⟩ := HS3.out.form
        go_wp2
        go_ret2
        exact ⟨_, rfl, HS3.out.more (fun k hk => ⟨Nat.le_trans B2.out.size hk.1, hk.2⟩), bx B2.out hb3⟩

end Go.Proofs.YtmdljknlbmlacabGreatDoor
