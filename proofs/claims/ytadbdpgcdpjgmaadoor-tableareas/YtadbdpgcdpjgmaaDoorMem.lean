/- Words for memory: how Lean data lie in the cells of a world, and what a call that writes only new memory keeps of them. No condition; no program is named. -/
import Derived.WalkKit
import Derived.WalkSpells
import Derived.Lib.Hide
namespace Go.Proofs.YtadbdpgcdpjgmaaDoor
open Go.RowKit

/-- How a value of some Go type lies in memory: `size` cells; `rd w S x cs`: the cells `cs` read as `x`, and all memory behind them lies in blocks of `S`. -/
structure Enc (α : Type) where
  size : Nat
  rd : World → (Nat → Prop) → α → List Value → Prop
  len : ∀ {w S x cs}, rd w S x cs → cs.length = size
  keep : ∀ {w w' : World} {S x cs}, rd w S x cs → (∀ p : Addr, S p.block → w'.cell? p = w.cell? p) → rd w' S x cs
  more : ∀ {w} {S S' : Nat → Prop} {x cs}, rd w S x cs → (∀ k, S k → S' k) → rd w S' x cs
  one : ∀ {w S x cs}, rd w S x cs → ∀ u ∈ cs, u.oneCell' = true

def Enc.int : Enc Int := ⟨1, fun _ _ x cs => cs = [.int .i64 x], fun h => by subst h; rfl, fun h _ => h, fun h _ => h, fun h u hu => by subst h; simp at hu; subst hu; rfl⟩
def Enc.bool : Enc Bool := ⟨1, fun _ _ x cs => cs = [.bool x], fun h => by subst h; rfl, fun h _ => h, fun h _ => h, fun h u hu => by subst h; simp at hu; subst hu; rfl⟩
def Enc.str : Enc ByteArray := ⟨1, fun _ _ x cs => cs = [.string x], fun h => by subst h; rfl, fun h _ => h, fun h _ => h, fun h u hu => by subst h; simp at hu; subst hu; rfl⟩
/-- a struct of two ints -/
def Enc.rng : Enc (Int × Int) := ⟨2, fun _ _ x cs => cs = [.int .i64 x.1, .int .i64 x.2], fun h => by subst h; rfl, fun h _ => h, fun h _ => h, fun h u hu => by subst h; simp at hu; rcases hu with rfl | rfl <;> rfl⟩

/-- the row of elements at ⟨b, o⟩ -/
def RowAt {α : Type} (E : Enc α) (w : World) (S : Nat → Prop) (b o : Nat) (l : List α) : Prop :=
  ∀ i x, l[i]? = some x → ∃ cs, E.rd w S x cs ∧ ∀ j v, cs[j]? = some v → w.cell? ⟨b, o + i * E.size + j, none⟩ = some v

/-- a slice value `v` that reads as the list `l` -/
def Sl {α : Type} (E : Enc α) (w : World) (S : Nat → Prop) (l : List α) (v : Value) : Prop :=
  ∃ A c, v = .slice A l.length c ∧ l.length ≤ c ∧ c ≤ maxLen ∧ (A = none → c = 0) ∧ (0 < l.length → ∃ b o, A = some ⟨b, o, none⟩ ∧ S b ∧ RowAt E w S b o l)

section
variable {α : Type} {E : Enc α} {w w' : World} {S S' : Nat → Prop} {l : List α} {v : Value} {b o : Nat}

theorem RowAt.keep (h : RowAt E w S b o l) (hb : S b) (hk : ∀ p : Addr, S p.block → w'.cell? p = w.cell? p) : RowAt E w' S b o l := by
  intro i x hx
  obtain ⟨cs, h1, h2⟩ := h i x hx
  exact ⟨cs, E.keep h1 hk, fun j u hu => (hk _ hb).trans (h2 j u hu)⟩
theorem RowAt.more (h : RowAt E w S b o l) (hS : ∀ k, S k → S' k) : RowAt E w S' b o l := by
  intro i x hx
  obtain ⟨cs, h1, h2⟩ := h i x hx
  exact ⟨cs, E.more h1 hS, h2⟩
theorem Sl.keep (h : Sl E w S l v) (hk : ∀ p : Addr, S p.block → w'.cell? p = w.cell? p) : Sl E w' S l v := by
  obtain ⟨A, c, h1, h2, h3, hn, h4⟩ := h
  refine ⟨A, c, h1, h2, h3, hn, fun h0 => ?_⟩
  obtain ⟨b, o, h5, h6, h7⟩ := h4 h0
  exact ⟨b, o, h5, h6, h7.keep h6 hk⟩
theorem Sl.more (h : Sl E w S l v) (hS : ∀ k, S k → S' k) : Sl E w S' l v := by
  obtain ⟨A, c, h1, h2, h3, hn, h4⟩ := h
  refine ⟨A, c, h1, h2, h3, hn, fun h0 => ?_⟩
  obtain ⟨b, o, h5, h6, h7⟩ := h4 h0
  exact ⟨b, o, h5, hS _ h6, h7.more hS⟩
theorem Sl.nil : Sl E w S [] (.slice none 0 0) := ⟨none, 0, rfl, Nat.le_refl _, by unfold maxLen; omega, fun _ => rfl, fun h => absurd h (by simp)⟩
/-- what lies in old blocks is kept by a call that keeps them -/
theorem Sl.below {B : Nat} (h : Sl E w S l v) (hS : ∀ k, S k → k < B) (hb : Below B w w') : Sl E w' S l v := h.keep fun _ hp => hb.cell (hS _ hp)
end

def Enc.slice {α : Type} (E : Enc α) : Enc (List α) :=
  ⟨1, fun w S l cs => ∃ v, cs = [v] ∧ Sl E w S l v, fun ⟨_, h, _⟩ => by subst h; rfl, fun ⟨v, h, h'⟩ hk => ⟨v, h, h'.keep hk⟩, fun ⟨v, h, h'⟩ hS => ⟨v, h, h'.more hS⟩, fun ⟨v, h, h'⟩ u hu => by obtain ⟨A, c, rfl, _⟩ := h'; subst h; simp at hu; subst hu; rfl⟩

/-- the blocks there are -/
def Old (w : World) : Nat → Prop := fun k => k < w.heap.size
/-- the blocks of S, and those that came between w and w' -/
def New (S : Nat → Prop) (w w' : World) : Nat → Prop := fun k => S k ∨ (w.heap.size ≤ k ∧ k < w'.heap.size)

/-- one element of a slice of pairs -/
theorem Sl.rng_at {w : World} {S : Nat → Prop} {l : List (Int × Int)} {A : Option Addr} {n c : Nat} (h : Sl Enc.rng w S l (.slice A n c)) {k : Nat} (hk : k < l.length) :
    ∃ b o x y, A = some ⟨b, o, none⟩ ∧ S b ∧ Hid (l[k]? = some (x, y)) ∧ w.cell? ⟨b, o + k * 2, none⟩ = some (.int .i64 x) ∧ w.cell? ⟨b, o + k * 2 + 1, none⟩ = some (.int .i64 y) := by
  obtain ⟨A, c, e, h2, h3, _, h4⟩ := h
  injection e with e1 e2 e3
  subst e1 e2 e3
  obtain ⟨b, o, rfl, h6, h7⟩ := h4 (by omega)
  obtain ⟨cs, h8, h9⟩ := h7 k l[k] (List.getElem?_eq_getElem hk)
  have h8' : cs = [.int .i64 l[k].1, .int .i64 l[k].2] := h8
  subst h8'
  exact ⟨b, o, l[k].1, l[k].2, rfl, h6, List.getElem?_eq_getElem hk, h9 0 _ rfl, h9 1 _ rfl⟩
theorem some_addr {b o b' o' : Nat} (h : (some ⟨b, o, none⟩ : Option Addr) = some ⟨b', o', none⟩) : b = b' ∧ o = o' := by
  injection h with h; injection h with h1 h2; exact ⟨h1, h2⟩

/-- the cells of a list of pairs -/
def cellsR (l : List (Int × Int)) : List Value := l.flatMap fun x => [.int .i64 x.1, .int .i64 x.2]
theorem cellsR_length (l : List (Int × Int)) : (cellsR l).length = l.length * 2 := by
  induction l with
  | nil => rfl
  | cons a l ih => simp [cellsR] at *; omega
theorem cellsR_append (l m : List (Int × Int)) : cellsR (l ++ m) = cellsR l ++ cellsR m := by simp [cellsR]
theorem cellsR_get (l : List (Int × Int)) (i : Nat) (x : Int × Int) (h : l[i]? = some x) : (cellsR l)[i * 2]? = some (.int .i64 x.1) ∧ (cellsR l)[i * 2 + 1]? = some (.int .i64 x.2) := by
  induction l generalizing i with
  | nil => simp at h
  | cons a l ih =>
    cases i with
    | zero => simp at h; subst h; simp [cellsR]
    | succ i =>
      simp at h
      have := ih i h
      have e : cellsR (a :: l) = .int .i64 a.1 :: .int .i64 a.2 :: cellsR l := by simp [cellsR]
      rw [e, show (i + 1) * 2 = (i * 2) + 1 + 1 from by omega]
      simpa using this
theorem cellsR_set (l : List (Int × Int)) (i : Nat) (x : Int × Int) (h : l[i]? = some x) (n : Int) : (cellsR l).set (i * 2 + 1) (.int .i64 n) = cellsR (l.set i (x.1, n)) := by
  induction l generalizing i with
  | nil => simp at h
  | cons a l ih =>
    have e : ∀ (a : Int × Int) l, cellsR (a :: l) = .int .i64 a.1 :: .int .i64 a.2 :: cellsR l := by simp [cellsR]
    cases i with
    | zero => simp at h; subst h; simp [e]
    | succ i =>
      simp at h
      rw [e, show (i + 1) * 2 + 1 = (i * 2 + 1) + 1 + 1 from by omega]
      simp [e, ih i h]

/-- a row of pairs that the call itself has made (from block `base` on) -/
def OwnR (w : World) (base e : Nat) (v : Value) (l : List (Int × Int)) : Prop := w.ownsRow base e 2 v l.length (cellsR l)

section
variable {w w' : World} {base e : Nat} {v : Value} {l : List (Int × Int)}
theorem OwnR.nil : OwnR w base e (.slice none 0 0) [] := World.ownsRow_nil w base e 2
theorem OwnR.alloc (h : OwnR w base e v l) (o : Obj) : OwnR (w.alloc o) base e v l := World.ownsRow.alloc h o
theorem OwnR.form (h : OwnR w base e v l) : (v = .slice none 0 0 ∧ l = []) ∨ ∃ g c, v = .slice (some ⟨g, 0, none⟩) l.length c ∧ base ≤ g ∧ g < w.heap.size ∧ l.length ≤ c ∧ c ≤ maxLen := by
  rcases h.2 with ⟨h1, h2⟩ | ⟨g, cap, cur, h1, h2, h3, h4, h5, _⟩
  · exact .inl ⟨h1, List.length_eq_zero_iff.1 h2⟩
  · exact .inr ⟨g, cap, h1, h2, (Array.getElem?_eq_some_iff.1 h3).1, h4, h5⟩
/-- an owned row is read as a slice; all its memory is new -/
theorem OwnR.sl (h : OwnR w base e v l) : Sl Enc.rng w (fun k => base ≤ k ∧ k < w.heap.size) l v := by
  rcases h.form with ⟨rfl, rfl⟩ | ⟨g, c, rfl, h2, h3, h4, h5⟩
  · exact Sl.nil
  · refine ⟨_, c, rfl, h4, h5, (fun h => by cases h), fun _ => ⟨g, 0, rfl, ⟨h2, h3⟩, fun i x hx => ⟨_, rfl, fun j u hu => ?_⟩⟩⟩
    have hi : i < l.length := (List.getElem?_eq_some_iff.1 hx).1
    obtain ⟨c0, c1⟩ := cellsR_get l i x hx
    have e0 := World.ownsRow.cellAt h (i * 2) (by omega)
    have e1 := World.ownsRow.cellAt h (i * 2 + 1) (by omega)
    have es : Enc.rng.size = 2 := rfl
    rw [es, Nat.zero_add]
    match j with
    | 0 => simp at hu; subst hu; simpa using e0.trans c0
    | 1 => simp at hu; subst hu; exact e1.trans c1
    | j + 2 => simp at hu
theorem OwnR.lt (h : OwnR w base e v l) : ∀ k, v.ownBlock = some k → base ≤ k ∧ k < w.heap.size := World.ownsRow.lt h
/-- the row is still the call's own behind what keeps its block -/
theorem OwnR.below {B : Nat} (h : OwnR w base e v l) (hb : Below B w w') (hB : w.heap.size ≤ B) : OwnR w' base e v l := by
  refine ⟨h.1, ?_⟩
  rcases h.2 with h2 | ⟨g, cap, cur, h1, h2, h3, h4⟩
  · exact .inl h2
  · have hg := (Array.getElem?_eq_some_iff.1 h3).1
    exact .inr ⟨g, cap, cur, h1, h2, (hb.block g (by omega)).trans h3, h4⟩
end

theorem World.grownBy.mono {w w' : World} {row : Option Nat} (h : w.grownBy w' none) : w.grownBy w' row := ⟨h.os, h.tape, h.output, h.size, fun k hk _ => h.block k hk (by simp)⟩
theorem World.grownBy.trans' {w w1 w2 : World} {row : Option Nat} (h : w.grownBy w1 row) (k : w1.grownBy w2 row) : w.grownBy w2 row :=
  ⟨k.os.trans h.os, k.tape.trans h.tape, k.output.trans h.output, Nat.le_trans h.size k.size, fun i hi hr => (k.block i (Nat.lt_of_lt_of_le hi h.size) hr).trans (h.block i hi hr)⟩
theorem grown_of_below {w w' : World} {row : Option Nat} (h : Below w.heap.size w w') : w.grownBy w' row := ⟨h.os, h.tape, h.output, h.size, fun k hk _ => h.block k hk⟩
theorem below_of_grown {w w' : World} {row : Option Nat} {B : Nat} (h : w.grownBy w' row) (hB : B ≤ w.heap.size) (hr : ∀ k, row = some k → B ≤ k) : Below B w w' := (Below.refl B w).grown h hB hr

/-- one call more -/
theorem below_next {B : Nat} {w wr w' : World} (h : Below B w wr) (hB : B ≤ wr.heap.size) (h' : Below wr.heap.size wr w') : Below B w w' := h.trans (h'.mono hB)

theorem ret_bool {a b : Bool} (h : a = b) : Ending.returned (.bool a) = .returned (.bool b) := by rw [h]
theorem ret_int {k : IntKind} {a b : Int} (h : a = b) : Ending.returned (.int k a) = .returned (.int k b) := by rw [h]

end Go.Proofs.YtadbdpgcdpjgmaaDoor
