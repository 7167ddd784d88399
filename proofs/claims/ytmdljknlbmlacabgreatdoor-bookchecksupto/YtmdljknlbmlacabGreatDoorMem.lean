/- Words for memory: how Lean data lie in the cells of a world, and what a call that writes only new memory keeps of them. No condition; no program is named. Appending to a row of the call's own, with a word on where the new row lies. Conditions: the row is the call's own and fits into 2^47 bytes. Rows of numbers that the call itself has made. No condition; no program is named. Rows of elements of any kind that the call itself has made, and what they lead to; slices of slices. No condition; no program is named. Appending to a row of the call's own inside a statement that leaves its order open. Conditions: the row is the call's own and fits into 2^47 bytes. -/
import Derived.WalkKit
import Derived.WalkSpells
import Derived.Lib.Hide
import Derived.ArgAppend
import Derived.Deep.RegionLaw
import Derived.Laws.AppendOwnNone
import Derived.Laws.OwnMore
namespace Go.Proofs.YtmdljknlbmlacabGreatDoor
open Go.RowKit

/-- How a value of some Go type lies in memory: `size` cells; `rd w S x cs`: the cells `cs` read as `x`, and all memory behind them lies in blocks of `S`. -/
structure Enc (α : Type) where
  size : Nat
  rd : World → (Nat → Prop) → α → List Value → Prop
  len : ∀ {w S x cs}, rd w S x cs → cs.length = size
  keep : ∀ {w w' : World} {S x cs}, rd w S x cs → (∀ p : Addr, S p.block → w'.cell? p = w.cell? p) → rd w' S x cs
  more : ∀ {w} {S S' : Nat → Prop} {x cs}, rd w S x cs → (∀ k, S k → S' k) → rd w S' x cs
  one : ∀ {w S x cs}, rd w S x cs → ∀ u ∈ cs, u.oneCell' = true

def Enc.int : Enc Int := ⟨1, fun _ _ x cs => cs = [.int .i64 x], fun h => by subst h; rfl, fun h _ => h, fun h _ => h, fun h u hu => by subst h; simp at hu; subst hu; rfl⟩
def Enc.bool : Enc Bool := ⟨1, fun _ _ x cs => cs = [.bool x], fun h => by subst h; rfl, fun h _ => h, fun h _ => h, fun h u hu => by subst h; simp at hu; subst hu; rfl⟩
def Enc.str : Enc ByteArray := ⟨1, fun _ _ x cs => cs = [.string x], fun h => by subst h; rfl, fun h _ => h, fun h _ => h, fun h u hu => by subst h; simp at hu; subst hu; rfl⟩
/-- a struct of two ints -/
def Enc.rng : Enc (Int × Int) := ⟨2, fun _ _ x cs => cs = [.int .i64 x.1, .int .i64 x.2], fun h => by subst h; rfl, fun h _ => h, fun h _ => h, fun h u hu => by subst h; simp at hu; rcases hu with rfl | rfl <;> rfl⟩

/-- the row of elements at ⟨b, o⟩ -/
def RowAt {α : Type} (E : Enc α) (w : World) (S : Nat → Prop) (b o : Nat) (l : List α) : Prop :=
  ∀ i x, l[i]? = some x → ∃ cs, E.rd w S x cs ∧ ∀ j v, cs[j]? = some v → w.cell? ⟨b, o + i * E.size + j, none⟩ = some v

/-- a slice value `v` that reads as the list `l` -/
def Sl {α : Type} (E : Enc α) (w : World) (S : Nat → Prop) (l : List α) (v : Value) : Prop :=
  ∃ A c, v = .slice A l.length c ∧ l.length ≤ c ∧ c ≤ maxLen ∧ (A = none → c = 0) ∧ (0 < l.length → ∃ b o, A = some ⟨b, o, none⟩ ∧ S b ∧ RowAt E w S b o l)

section
variable {α : Type} {E : Enc α} {w w' : World} {S S' : Nat → Prop} {l : List α} {v : Value} {b o : Nat}

theorem RowAt.keep (h : RowAt E w S b o l) (hb : S b) (hk : ∀ p : Addr, S p.block → w'.cell? p = w.cell? p) : RowAt E w' S b o l := by
  intro i x hx
  obtain ⟨cs, h1, h2⟩ := h i x hx
  exact ⟨cs, E.keep h1 hk, fun j u hu => (hk _ hb).trans (h2 j u hu)⟩
theorem RowAt.more (h : RowAt E w S b o l) (hS : ∀ k, S k → S' k) : RowAt E w S' b o l := by
  intro i x hx
  obtain ⟨cs, h1, h2⟩ := h i x hx
  exact ⟨cs, E.more h1 hS, h2⟩
theorem Sl.keep (h : Sl E w S l v) (hk : ∀ p : Addr, S p.block → w'.cell? p = w.cell? p) : Sl E w' S l v := by
  obtain ⟨A, c, h1, h2, h3, hn, h4⟩ := h
  refine ⟨A, c, h1, h2, h3, hn, fun h0 => ?_⟩
  obtain ⟨b, o, h5, h6, h7⟩ := h4 h0
  exact ⟨b, o, h5, h6, h7.keep h6 hk⟩
theorem Sl.more (h : Sl E w S l v) (hS : ∀ k, S k → S' k) : Sl E w S' l v := by
  obtain ⟨A, c, h1, h2, h3, hn, h4⟩ := h
  refine ⟨A, c, h1, h2, h3, hn, fun h0 => ?_⟩
  obtain ⟨b, o, h5, h6, h7⟩ := h4 h0
  exact ⟨b, o, h5, hS _ h6, h7.more hS⟩
theorem Sl.nil : Sl E w S [] (.slice none 0 0) := ⟨none, 0, rfl, Nat.le_refl _, by unfold maxLen; omega, fun _ => rfl, fun h => absurd h (by simp)⟩
/-- what lies in old blocks is kept by a call that keeps them -/
theorem Sl.below {B : Nat} (h : Sl E w S l v) (hS : ∀ k, S k → k < B) (hb : Below B w w') : Sl E w' S l v := h.keep fun _ hp => hb.cell (hS _ hp)
end

def Enc.slice {α : Type} (E : Enc α) : Enc (List α) :=
  ⟨1, fun w S l cs => ∃ v, cs = [v] ∧ Sl E w S l v, fun ⟨_, h, _⟩ => by subst h; rfl, fun ⟨v, h, h'⟩ hk => ⟨v, h, h'.keep hk⟩, fun ⟨v, h, h'⟩ hS => ⟨v, h, h'.more hS⟩, fun ⟨v, h, h'⟩ u hu => by obtain ⟨A, c, rfl, _⟩ := h'; subst h; simp at hu; subst hu; rfl⟩

/-- the blocks there are -/
def Old (w : World) : Nat → Prop := fun k => k < w.heap.size
/-- the blocks of S, and those that came between w and w' -/
def New (S : Nat → Prop) (w w' : World) : Nat → Prop := fun k => S k ∨ (w.heap.size ≤ k ∧ k < w'.heap.size)

/-- one element of a slice of pairs -/
theorem Sl.rng_at {w : World} {S : Nat → Prop} {l : List (Int × Int)} {A : Option Addr} {n c : Nat} (h : Sl Enc.rng w S l (.slice A n c)) {k : Nat} (hk : k < l.length) :
    ∃ b o x y, A = some ⟨b, o, none⟩ ∧ S b ∧ Hid (l[k]? = some (x, y)) ∧ w.cell? ⟨b, o + k * 2, none⟩ = some (.int .i64 x) ∧ w.cell? ⟨b, o + k * 2 + 1, none⟩ = some (.int .i64 y) := by
  obtain ⟨A, c, e, h2, h3, _, h4⟩ := h
  injection e with e1 e2 e3
  subst e1 e2 e3
  obtain ⟨b, o, rfl, h6, h7⟩ := h4 (by omega)
  obtain ⟨cs, h8, h9⟩ := h7 k l[k] (List.getElem?_eq_getElem hk)
  have h8' : cs = [.int .i64 l[k].1, .int .i64 l[k].2] := h8
  subst h8'
  exact ⟨b, o, l[k].1, l[k].2, rfl, h6, List.getElem?_eq_getElem hk, h9 0 _ rfl, h9 1 _ rfl⟩
theorem some_addr {b o b' o' : Nat} (h : (some ⟨b, o, none⟩ : Option Addr) = some ⟨b', o', none⟩) : b = b' ∧ o = o' := by
  injection h with h; injection h with h1 h2; exact ⟨h1, h2⟩

/-- the cells of a list of pairs -/
def cellsR (l : List (Int × Int)) : List Value := l.flatMap fun x => [.int .i64 x.1, .int .i64 x.2]
theorem cellsR_length (l : List (Int × Int)) : (cellsR l).length = l.length * 2 := by
  induction l with
  | nil => rfl
  | cons a l ih => simp [cellsR] at *; omega
theorem cellsR_append (l m : List (Int × Int)) : cellsR (l ++ m) = cellsR l ++ cellsR m := by simp [cellsR]
theorem cellsR_get (l : List (Int × Int)) (i : Nat) (x : Int × Int) (h : l[i]? = some x) : (cellsR l)[i * 2]? = some (.int .i64 x.1) ∧ (cellsR l)[i * 2 + 1]? = some (.int .i64 x.2) := by
  induction l generalizing i with
  | nil => simp at h
  | cons a l ih =>
    cases i with
    | zero => simp at h; subst h; simp [cellsR]
    | succ i =>
      simp at h
      have := ih i h
      have e : cellsR (a :: l) = .int .i64 a.1 :: .int .i64 a.2 :: cellsR l := by simp [cellsR]
      rw [e, show (i + 1) * 2 = (i * 2) + 1 + 1 from by omega]
      simpa using this
theorem cellsR_set (l : List (Int × Int)) (i : Nat) (x : Int × Int) (h : l[i]? = some x) (n : Int) : (cellsR l).set (i * 2 + 1) (.int .i64 n) = cellsR (l.set i (x.1, n)) := by
  induction l generalizing i with
  | nil => simp at h
  | cons a l ih =>
    have e : ∀ (a : Int × Int) l, cellsR (a :: l) = .int .i64 a.1 :: .int .i64 a.2 :: cellsR l := by simp [cellsR]
    cases i with
    | zero => simp at h; subst h; simp [e]
    | succ i =>
      simp at h
      rw [e, show (i + 1) * 2 + 1 = (i * 2 + 1) + 1 + 1 from by omega]
      simp [e, ih i h]

/-- a row of pairs that the call itself has made (from block `base` on) -/
def OwnR (w : World) (base e : Nat) (v : Value) (l : List (Int × Int)) : Prop := w.ownsRow base e 2 v l.length (cellsR l)

section
variable {w w' : World} {base e : Nat} {v : Value} {l : List (Int × Int)}
theorem OwnR.nil : OwnR w base e (.slice none 0 0) [] := World.ownsRow_nil w base e 2
theorem OwnR.alloc (h : OwnR w base e v l) (o : Obj) : OwnR (w.alloc o) base e v l := World.ownsRow.alloc h o
theorem OwnR.form (h : OwnR w base e v l) : (v = .slice none 0 0 ∧ l = []) ∨ ∃ g c, v = .slice (some ⟨g, 0, none⟩) l.length c ∧ base ≤ g ∧ g < w.heap.size ∧ l.length ≤ c ∧ c ≤ maxLen := by
  rcases h.2 with ⟨h1, h2⟩ | ⟨g, cap, cur, h1, h2, h3, h4, h5, _⟩
  · exact .inl ⟨h1, List.length_eq_zero_iff.1 h2⟩
  · exact .inr ⟨g, cap, h1, h2, (Array.getElem?_eq_some_iff.1 h3).1, h4, h5⟩
/-- an owned row is read as a slice; all its memory is new -/
theorem OwnR.sl (h : OwnR w base e v l) : Sl Enc.rng w (fun k => base ≤ k ∧ k < w.heap.size) l v := by
  rcases h.form with ⟨rfl, rfl⟩ | ⟨g, c, rfl, h2, h3, h4, h5⟩
  · exact Sl.nil
  · refine ⟨_, c, rfl, h4, h5, (fun h => by cases h), fun _ => ⟨g, 0, rfl, ⟨h2, h3⟩, fun i x hx => ⟨_, rfl, fun j u hu => ?_⟩⟩⟩
    have hi : i < l.length := (List.getElem?_eq_some_iff.1 hx).1
    obtain ⟨c0, c1⟩ := cellsR_get l i x hx
    have e0 := World.ownsRow.cellAt h (i * 2) (by omega)
    have e1 := World.ownsRow.cellAt h (i * 2 + 1) (by omega)
    have es : Enc.rng.size = 2 := rfl
    rw [es, Nat.zero_add]
    match j with
    | 0 => simp at hu; subst hu; simpa using e0.trans c0
    | 1 => simp at hu; subst hu; exact e1.trans c1
    | j + 2 => simp at hu
theorem OwnR.lt (h : OwnR w base e v l) : ∀ k, v.ownBlock = some k → base ≤ k ∧ k < w.heap.size := World.ownsRow.lt h
/-- the row is still the call's own behind what keeps its block -/
theorem OwnR.below {B : Nat} (h : OwnR w base e v l) (hb : Below B w w') (hB : w.heap.size ≤ B) : OwnR w' base e v l := by
  refine ⟨h.1, ?_⟩
  rcases h.2 with h2 | ⟨g, cap, cur, h1, h2, h3, h4⟩
  · exact .inl h2
  · have hg := (Array.getElem?_eq_some_iff.1 h3).1
    exact .inr ⟨g, cap, cur, h1, h2, (hb.block g (by omega)).trans h3, h4⟩
end

theorem World.grownBy.mono {w w' : World} {row : Option Nat} (h : w.grownBy w' none) : w.grownBy w' row := ⟨h.os, h.tape, h.output, h.size, fun k hk _ => h.block k hk (by simp)⟩
theorem World.grownBy.trans' {w w1 w2 : World} {row : Option Nat} (h : w.grownBy w1 row) (k : w1.grownBy w2 row) : w.grownBy w2 row :=
  ⟨k.os.trans h.os, k.tape.trans h.tape, k.output.trans h.output, Nat.le_trans h.size k.size, fun i hi hr => (k.block i (Nat.lt_of_lt_of_le hi h.size) hr).trans (h.block i hi hr)⟩
theorem grown_of_below {w w' : World} {row : Option Nat} (h : Below w.heap.size w w') : w.grownBy w' row := ⟨h.os, h.tape, h.output, h.size, fun k hk _ => h.block k hk⟩
theorem below_of_grown {w w' : World} {row : Option Nat} {B : Nat} (h : w.grownBy w' row) (hB : B ≤ w.heap.size) (hr : ∀ k, row = some k → B ≤ k) : Below B w w' := (Below.refl B w).grown h hB hr

/-- one call more -/
theorem below_next {B : Nat} {w wr w' : World} (h : Below B w wr) (hB : B ≤ wr.heap.size) (h' : Below wr.heap.size wr w') : Below B w w' := h.trans (h'.mono hB)

theorem ret_bool {a b : Bool} (h : a = b) : Ending.returned (.bool a) = .returned (.bool b) := by rw [h]
theorem ret_int {k : IntKind} {a b : Int} (h : a = b) : Ending.returned (.int k a) = .returned (.int k b) := by rw [h]

end Go.Proofs.YtmdljknlbmlacabGreatDoor
namespace Go.Proofs.YtmdljknlbmlacabGreatDoor
open Go.RowKit

/-- the new value lies in the old one's block, or in a new one -/
def Moved (w : World) (v v' : Value) : Prop := ∀ g, v'.ownBlock = some g → v.ownBlock = some g ∨ w.heap.size ≤ g
theorem Moved.refl (w : World) (v : Value) : Moved w v v := fun _ h => .inl h
theorem Moved.later {w w2 : World} {v v' : Value} (h : Moved w2 v v') (hs : w.heap.size ≤ w2.heap.size) : Moved w v v' :=
  fun g hg => (h g hg).imp id (fun h => Nat.le_trans hs h)
theorem Moved.trans {w w2 : World} {v v2 v3 : Value} (h : Moved w v v2) (h' : Moved w2 v2 v3) (hs : w.heap.size ≤ w2.heap.size) : Moved w v v3 := by
  intro g hg
  rcases h' g hg with h1 | h1
  · exact h g h1
  · exact .inr (Nat.le_trans hs h1)

theorem wpList_append_mine {P : Program} (w : World) {ops : Array Oper} {rest : List Oper} {o : Oper} {a : Act} {Q : Exit → Act → World → Prop} (hgd : o.guard = none) (s x : Operand) (t : TypeId)
    (ho : o.op = .call { callee := .builtin .append, args := #[s, x], argTypes := #[t, t] })
    (base : Nat) (e : TypeId) (size bytes : Nat) (z : Value) (ht : P.underlying t = some (.slice e)) (hinfo : (P.info? e).map (fun i => (i.zero, i.size, i.bytes)) = some (some z, size, bytes)) (hzs : z.cells.size = size) (hsz : 0 < size)
    (v : Value) (n : Nat) (xs : List Value) (hs : a.eval s = v) (hown : w.ownsRow base e size v n xs)
    (ad : Addr) (m c : Nat) (news : List Value) (hx : a.eval x = .slice (some ad) m c) (hl : news.length = m * size) (hnews : ∀ j u, news[j]? = some u → w.cell? (ad.add j) = some u) (h1 : ∀ u ∈ news, u.oneCell' = true)
    (h63 : n + m ≤ maxLen) (hbytes : (n + m) * bytes ≤ 140737488355328) (hbase : base ≤ w.heap.size) (hm : 0 < m)
    (h : ∀ v' w', w'.ownsRow base e size v' (n + m) (xs ++ news) → w.grownBy w' v.ownBlock → Moved w v v' → wpList P ops Q rest (a.put o.dst v') w') : wpList P ops Q (o :: rest) a w := by
  obtain ⟨i, hi, hz0, hz1, hz2⟩ := info_parts hinfo
  have up : ∀ {w' : World} {v' : Value} {k : Nat} {ys : List Value}, w'.ownsRow w.heap.size e size v' k ys → w'.ownsRow base e size v' k ys ∧ (∀ g, v'.ownBlock = some g → w.heap.size ≤ g) := by
    intro w' v' k ys ho'
    refine ⟨⟨ho'.1, ?_⟩, fun g hg => (ho'.lt g hg).1⟩
    rcases ho'.2 with h2 | ⟨g, cap, cur, h1, h2, h3⟩
    · exact .inl h2
    · exact .inr ⟨g, cap, cur, h1, Nat.le_trans hbase h2, h3⟩
  rcases hown.2 with ⟨rfl, rfl⟩ | ⟨g, cap, cur, rfl, hg1, hg2, hg3, hg4, hg5, hg6⟩
  · have hxs : xs = [] := List.length_eq_zero_iff.1 (by rw [hown.1]; simp)
    subst hxs
    refine wpList_append_grows w hgd s x t ho e i z size bytes ht hi hz0 hz1 hz2 hzs hsz none 0 0 [] hs (fun _ => ⟨rfl, rfl⟩) (by simp) (fun b hb => by cases hb) ad m c news hx hl hnews h1 (by omega) h63 hbytes ?_
    intro v' w' ho' hgr
    exact h v' w' (up ho').1 (World.grownBy.mono hgr) (fun g hg => .inr ((up ho').2 g hg))
  · by_cases hroom : n + m ≤ cap
    · refine wpList_append_fits w hgd s x t ho base e i size ht hi hz1 g n cap xs hs hown ad m c news hx hl hnews h1 hroom ?_
      intro w' ho' hgr
      exact h _ w' ho' hgr (fun g' hg' => .inl hg')
    · have hc := hown.cells (g := g) rfl
      refine wpList_append_grows w hgd s x t ho e i z size bytes ht hi hz0 hz1 hz2 hzs hsz (some ⟨g, 0, none⟩) n cap xs hs (fun h => by cases h) hown.1 (fun b hb j u hu => by injection hb with hb; subst hb; exact hc j u hu) ad m c news hx hl hnews h1 (by omega) h63 hbytes ?_
      intro v' w' ho' hgr
      exact h v' w' (up ho').1 (World.grownBy.mono hgr) (fun g hg => .inr ((up ho').2 g hg))

/-- one element of a slice of slices -/
theorem Sl.sl_at {α : Type} {E : Enc α} {w : World} {S : Nat → Prop} {l : List (List α)} {A : Option Addr} {n c : Nat} (h : Sl E.slice w S l (.slice A n c)) {k : Nat} (hk : k < l.length) :
    ∃ b o s u, A = some ⟨b, o, none⟩ ∧ S b ∧ Hid (l[k]? = some s) ∧ w.cell? ⟨b, o + k, none⟩ = some u ∧ Sl E w S s u := by
  obtain ⟨A, c, e, h2, h3, _, h4⟩ := h
  injection e with e1 e2 e3
  subst e1 e2 e3
  obtain ⟨b, o, rfl, h6, h7⟩ := h4 (by omega)
  obtain ⟨cs, ⟨u, rfl, hu⟩, h9⟩ := h7 k l[k] (List.getElem?_eq_getElem hk)
  refine ⟨b, o, l[k], u, rfl, h6, List.getElem?_eq_getElem hk, ?_, hu⟩
  have := h9 0 u rfl
  have es : E.slice.size = 1 := rfl
  rw [es, Nat.mul_one, Nat.add_zero] at this
  exact this

/-- a store into another block leaves the row as it is -/
theorem OwnR.setCell_other {w : World} {base e : Nat} {v : Value} {l : List (Int × Int)} (h : OwnR w base e v l) {p : Addr} (hp : v.ownBlock ≠ some p.block) (u : Value) : OwnR (w.setCell p u) base e v l := by
  refine ⟨h.1, ?_⟩
  rcases h.2 with h2 | ⟨g, cap, cur, rfl, h2, h3, h4⟩
  · exact .inl h2
  · refine .inr ⟨g, cap, cur, rfl, h2, ?_, h4⟩
    rw [Below.heap_setCell _ _ _ _ (by intro hg; subst hg; exact hp rfl)]
    exact h3

end Go.Proofs.YtmdljknlbmlacabGreatDoor
namespace Go.Proofs.YtmdljknlbmlacabGreatDoor
open Go.RowKit

def cellsI (l : List Int) : List Value := l.map fun x => .int .i64 x
theorem cellsI_length (l : List Int) : (cellsI l).length = l.length := by simp [cellsI]
theorem cellsI_append (l m : List Int) : cellsI (l ++ m) = cellsI l ++ cellsI m := by simp [cellsI]
theorem cellsI_get {l : List Int} {i : Nat} {x : Int} (h : l[i]? = some x) : (cellsI l)[i]? = some (.int .i64 x) := by simp [cellsI, h]
theorem oneCell_cellsI (l : List Int) : ∀ u ∈ cellsI l, u.oneCell' = true := by
  intro u hu
  simp only [cellsI, List.mem_map] at hu
  obtain ⟨x, _, rfl⟩ := hu
  rfl
/-- a row of numbers of the call's own -/
def OwnI (w : World) (base e : Nat) (v : Value) (l : List Int) : Prop := w.ownsRow base e 1 v l.length (cellsI l)
section
variable {w w' : World} {base e : Nat} {v : Value} {l : List Int}
theorem OwnI.nil : OwnI w base e (.slice none 0 0) [] := World.ownsRow_nil w base e 1
theorem OwnI.alloc (h : OwnI w base e v l) (o : Obj) : OwnI (w.alloc o) base e v l := World.ownsRow.alloc h o
theorem OwnI.form (h : OwnI w base e v l) : (v = .slice none 0 0 ∧ l = []) ∨ ∃ g c, v = .slice (some ⟨g, 0, none⟩) l.length c ∧ base ≤ g ∧ g < w.heap.size ∧ l.length ≤ c ∧ c ≤ maxLen := by
  rcases h.2 with ⟨h1, h2⟩ | ⟨g, cap, cur, h1, h2, h3, h4, h5, _⟩
  · exact .inl ⟨h1, List.length_eq_zero_iff.1 h2⟩
  · exact .inr ⟨g, cap, h1, h2, (Array.getElem?_eq_some_iff.1 h3).1, h4, h5⟩
theorem OwnI.lt (h : OwnI w base e v l) : ∀ k, v.ownBlock = some k → base ≤ k ∧ k < w.heap.size := World.ownsRow.lt h
theorem OwnI.at_ {g c : Nat} (h : OwnI w base e (.slice (some ⟨g, 0, none⟩) l.length c) l) {k : Nat} {x : Int} (hx : l[k]? = some x) : w.cell? ⟨g, k, none⟩ = some (.int .i64 x) := by
  have hk := (List.getElem?_eq_some_iff.1 hx).1
  rw [World.ownsRow.cellAt h k (by omega), cellsI_get hx]
theorem OwnI.below {B : Nat} (h : OwnI w base e v l) (hb : Below B w w') (hB : w.heap.size ≤ B) : OwnI w' base e v l := by
  refine ⟨h.1, ?_⟩
  rcases h.2 with h2 | ⟨g, cap, cur, h1, h2, h3, h4⟩
  · exact .inl h2
  · have hg := (Array.getElem?_eq_some_iff.1 h3).1
    exact .inr ⟨g, cap, cur, h1, h2, (hb.block g (by omega)).trans h3, h4⟩
theorem OwnI.setCell_below (h : OwnI w base e v l) {a : Addr} (ha : a.block < base) (u : Value) : OwnI (w.setCell a u) base e v l := ownsRow_setCell_below h ha u
/-- the front of a row is a row -/
theorem OwnI.front {g c : Nat} (h : OwnI w base e (.slice (some ⟨g, 0, none⟩) l.length c) l) {j : Nat} (hj : j ≤ l.length) : w.ownsRow base e 1 (.slice (some ⟨g, 0, none⟩) j c) j (cellsI (l.take j)) := by
  refine ⟨by rw [cellsI_length, List.length_take]; omega, ?_⟩
  rcases h.2 with ⟨h1, _⟩ | ⟨g', cap, cur, h1, h2, h3, h4, h5, h6, h7⟩
  · cases h1
  · injection h1 with e1 e2 e3
    injection e1 with e1
    injection e1 with e1
    subst e1 e3
    refine .inr ⟨g, c, cur, rfl, h2, h3, by omega, h5, h6, ?_⟩
    have : cur.toList.take (j * 1) = (cur.toList.take (l.length * 1)).take (j * 1) := by rw [List.take_take]; congr 1; omega
    rw [this, h7]
    simp [cellsI, List.map_take]
end

theorem step_append_own {P : Program} {ops : Array Oper} {o : Oper} {a : Act} {w : World} {K : Act → World → Prop} {Q : Exit → Act → World → Prop} {E : Prop}
    (hg : o.guard = none) (s x : Operand) (t : TypeId) (ho : o.op = Op.call { callee := Callee.builtin Builtin.append, args := #[s, x], argTypes := #[t, t] })
    (base : Nat) (e : TypeId) (i : TypeInfo) (z : Value) (size bytes : Nat) (ht : P.underlying t = some (.slice e)) (hi : P.info? e = some i) (hz : i.zero = some z)
    (hsize : i.size = size) (hby : i.bytes = bytes) (hzs : z.cells.size = size) (hsz : 0 < size)
    (v : Value) (n : Nat) (xs : List Value) (hs : a.eval s = v) (hown : w.ownsRow base e size v n xs)
    (ad : Addr) (m c : Nat) (news : List Value) (hx : a.eval x = .slice (some ad) m c) (hl : news.length = m * size) (hnews : ∀ j u, news[j]? = some u → w.cell? (ad.add j) = some u) (h1 : ∀ u ∈ news, u.oneCell' = true)
    (h63 : n + m ≤ maxLen) (hbytes : (n + m) * bytes ≤ 140737488355328) (hbase : base ≤ w.heap.size)
    (h : ∀ v' w', w'.ownsRow base e size v' (n + m) (xs ++ news) → w.grownBy w' v.ownBlock → (v' = .slice none 0 0 ↔ v = .slice none 0 0 ∧ m = 0) → K (a.put o.dst v') w') :
    if Region.wanted o (yielded ops a.tmps) = true then Oper.wp P o a w K Q else E := by
  have hw : Region.wanted o (yielded ops a.tmps) = true := by simp [Region.wanted, hg]
  rw [if_pos hw]
  exact wp_append_own w s x t ho base e i z size bytes ht hi hz hsize hby hzs hsz v n xs hs hown ad m c news hx hl hnews h1 h63 hbytes hbase h

theorem step_append_own_none {P : Program} {ops : Array Oper} {o : Oper} {a : Act} {w : World} {K : Act → World → Prop} {Q : Exit → Act → World → Prop} {E : Prop}
    (hg : o.guard = none) (s x : Operand) (t : TypeId) (ho : o.op = Op.call { callee := Callee.builtin Builtin.append, args := #[s, x], argTypes := #[t, t] })
    (base : Nat) (e : TypeId) (i : TypeInfo) (size : Nat) (ht : P.underlying t = some (.slice e)) (hi : P.info? e = some i)
    (v : Value) (n : Nat) (xs : List Value) (hs : a.eval s = v) (hown : w.ownsRow base e size v n xs) (hx : a.eval x = .slice none 0 0) (h : K (a.put o.dst v) w) :
    if Region.wanted o (yielded ops a.tmps) = true then Oper.wp P o a w K Q else E := by
  have hw : Region.wanted o (yielded ops a.tmps) = true := by simp [Region.wanted, hg]
  rw [if_pos hw]
  have hrun := run_append_owned_none (P := P) (w := w) base t o.type e i size ht hi v n xs hown
  unfold Oper.wp
  simp [execOp, ho, resolve, invoke, builtin, hs, hx, hrun, Result.andThen]
  exact h

end Go.Proofs.YtmdljknlbmlacabGreatDoor
namespace Go.Proofs.YtmdljknlbmlacabGreatDoor
open Go.RowKit

/-- the blocks from lo on -/
def From (lo : Nat) (w : World) : Nat → Prop := fun k => lo ≤ k ∧ k < w.heap.size
/-- the same without the block of a row -/
def Off (lo : Nat) (w : World) (v : Value) : Nat → Prop := fun k => lo ≤ k ∧ k < w.heap.size ∧ v.ownBlock ≠ some k

/-- the cells `us` hold the elements of l, one behind the other -/
def Elems {α : Type} (E : Enc α) (w : World) (S : Nat → Prop) (l : List α) (us : List Value) : Prop :=
  ∀ i x, l[i]? = some x → ∃ cs, E.rd w S x cs ∧ ∀ j u, cs[j]? = some u → us[i * E.size + j]? = some u

/-- a row of elements that the call itself has made (its block from `base` on); what the elements lead to lies from `lo` on, outside the row's own block -/
def OwnG {α : Type} (E : Enc α) (w : World) (base lo e : Nat) (v : Value) (l : List α) : Prop :=
  ∃ us : List Value, w.ownsRow base e E.size v l.length us ∧ Elems E w (Off lo w v) l us

section
variable {α : Type} {E : Enc α} {w w' : World} {base lo e : Nat} {v : Value} {l m : List α} {S S' : Nat → Prop} {us vs : List Value}

theorem Elems.nil : Elems E w S [] us := fun i x h => by simp at h
theorem Elems.keep (h : Elems E w S l us) (hk : ∀ p : Addr, S p.block → w'.cell? p = w.cell? p) : Elems E w' S l us := by
  intro i x hx
  obtain ⟨cs, h1, h2⟩ := h i x hx
  exact ⟨cs, E.keep h1 hk, h2⟩
theorem Elems.more (h : Elems E w S l us) (hS : ∀ k, S k → S' k) : Elems E w S' l us := by
  intro i x hx
  obtain ⟨cs, h1, h2⟩ := h i x hx
  exact ⟨cs, E.more h1 hS, h2⟩
theorem Elems.append (h : Elems E w S l us) (h' : Elems E w S m vs) (hl : us.length = l.length * E.size) : Elems E w S (l ++ m) (us ++ vs) := by
  intro i x hx
  by_cases hi : i < l.length
  · rw [List.getElem?_append_left hi] at hx
    obtain ⟨cs, h1, h2⟩ := h i x hx
    exact ⟨cs, h1, fun j u hu => by have h3 := h2 j u hu; rw [List.getElem?_append_left (List.getElem?_eq_some_iff.1 h3).1]; exact h3⟩
  · rw [List.getElem?_append_right (by omega)] at hx
    obtain ⟨cs, h1, h2⟩ := h' _ x hx
    refine ⟨cs, h1, fun j u hu => ?_⟩
    have h3 := h2 j u hu
    have e : i * E.size = l.length * E.size + (i - l.length) * E.size := by rw [← Nat.add_mul]; congr 1; omega
    rw [List.getElem?_append_right (by omega), hl, ← h3]
    congr 1; omega
theorem Elems.one {x : α} (h : E.rd w S x us) : Elems E w S [x] us := by
  intro i y hy
  match i with
  | 0 => simp at hy; subst hy; exact ⟨us, h, fun j u hu => by simpa using hu⟩
  | i + 1 => simp at hy

theorem OwnG.nil : OwnG E w base lo e (.slice none 0 0) [] := ⟨[], World.ownsRow_nil w base e E.size, Elems.nil⟩
theorem OwnG.lt (h : OwnG E w base lo e v l) : ∀ k, v.ownBlock = some k → base ≤ k ∧ k < w.heap.size := by
  obtain ⟨us, h1, _⟩ := h
  exact World.ownsRow.lt h1
theorem OwnG.form (h : OwnG E w base lo e v l) : ∃ A c, v = .slice A l.length c ∧ l.length ≤ c ∧ c ≤ maxLen ∧ (A = none → c = 0) := by
  obtain ⟨us, h1, _⟩ := h
  rcases h1.2 with ⟨rfl, h2⟩ | ⟨g, cap, cur, rfl, _, _, h4, h5, _⟩
  · exact ⟨none, 0, by rw [h2], by omega, by unfold maxLen; omega, fun _ => rfl⟩
  · exact ⟨_, cap, rfl, h4, h5, fun h => by cases h⟩
theorem OwnG.sl (h : OwnG E w base lo e v l) (hlo : lo ≤ base) : Sl E w (From lo w) l v := by
  obtain ⟨us, h1, h2⟩ := h
  have hlen := h1.1
  rcases h1.2 with ⟨rfl, h3⟩ | ⟨g, cap, cur, rfl, hb, hg, h4, h5, h6, h7⟩
  · obtain rfl : l = [] := List.length_eq_zero_iff.1 h3
    exact Sl.nil
  · have hgl := (Array.getElem?_eq_some_iff.1 hg).1
    refine ⟨_, cap, rfl, h4, h5, (fun h => by cases h), fun _ => ⟨g, 0, rfl, ⟨by omega, hgl⟩, fun i x hx => ?_⟩⟩
    obtain ⟨cs, h8, h9⟩ := h2 i x hx
    refine ⟨cs, E.more h8 (fun k hk => ⟨hk.1, hk.2.1⟩), fun j u hu => ?_⟩
    have := h1.cells (g := g) rfl _ _ (h9 j u hu)
    have ea : ∀ i, (⟨g, 0, none⟩ : Addr).add i = ⟨g, 0 + i, none⟩ := fun i => by unfold Addr.add; split <;> simp_all
    rw [ea] at this
    rw [Nat.add_assoc]
    exact this
theorem From.old : ∀ k, From lo w k → Old w k := fun _ h => h.2
theorem OwnG.slOld (h : OwnG E w base lo e v l) (hlo : lo ≤ base) : Sl E w (Old w) l v := (h.sl hlo).more fun _ h => h.2
theorem ownsRow_keep {size n : Nat} {xs : List Value} (h : w.ownsRow base e size v n xs) (hk : ∀ g, v.ownBlock = some g → w'.heap[g]? = w.heap[g]?) : w'.ownsRow base e size v n xs := by
  refine ⟨h.1, ?_⟩
  rcases h.2 with h2 | ⟨g, cap, cur, h1, h2, h3, h4⟩
  · exact .inl h2
  · exact .inr ⟨g, cap, cur, h1, h2, (hk g (by rw [h1]; rfl)).trans h3, h4⟩
/-- the row and what it leads to stand behind what keeps the blocks that there were -/
theorem OwnG.below {B : Nat} (h : OwnG E w base lo e v l) (hb : Below B w w') (hB : w.heap.size ≤ B) : OwnG E w' base lo e v l := by
  have hlt := h.lt
  obtain ⟨us, h1, h2⟩ := h
  refine ⟨us, ownsRow_keep h1 (fun g hg => hb.block g (by have := hlt g hg; omega)), ?_⟩
  refine (h2.keep (w' := w') fun p hp => hb.cell (by have := hp.2.1; omega)).more fun k hk => ⟨hk.1, ?_, hk.2.2⟩
  have := hb.size
  have := hk.2.1
  omega
theorem OwnG.next (h : OwnG E w base lo e v l) (hb : Below w.heap.size w w') : OwnG E w' base lo e v l := h.below hb (Nat.le_refl _)
theorem OwnG.alloc (h : OwnG E w base lo e v l) (o : Obj) : OwnG E (w.alloc o) base lo e v l := h.next ((Below.refl _ _).alloc (Nat.le_refl _) o)
theorem OwnG.mono {base' : Nat} (h : OwnG E w base lo e v l) (hB : base' ≤ base) : OwnG E w base' lo e v l := by
  obtain ⟨us, h1, h2⟩ := h
  refine ⟨us, ⟨h1.1, ?_⟩, h2⟩
  rcases h1.2 with h3 | ⟨g, cap, cur, h4, h5, h6⟩
  · exact .inl h3
  · exact .inr ⟨g, cap, cur, h4, Nat.le_trans hB h5, h6⟩
theorem OwnG.monoLo {lo' : Nat} (h : OwnG E w base lo e v l) (hB : lo' ≤ lo) : OwnG E w base lo' e v l := by
  obtain ⟨us, h1, h2⟩ := h
  exact ⟨us, h1, h2.more fun k hk => ⟨Nat.le_trans hB hk.1, hk.2⟩⟩
/-- behind an append -/
theorem OwnG.grown {v' : Value} (hus : us.length = l.length * E.size) (hel : Elems E w (Off lo w v) l us) (ho' : w'.ownsRow base e E.size v' (l.length + m.length) (us ++ vs)) (hg : w.grownBy w' v.ownBlock) (hmv : Moved w v v') (hnew : Elems E w (Off lo w v) m vs) : OwnG E w' base lo e v' (l ++ m) := by
  refine ⟨us ++ vs, by rw [List.length_append]; exact ho', ?_⟩
  refine ((hel.append hnew hus).keep (w' := w') fun p hp => ?_).more fun k hk => ⟨hk.1, ?_, fun hv => ?_⟩
  · exact World.cell?_of_block (hg.block _ hp.2.1 (fun e => hp.2.2 e.symm))
  · exact Nat.lt_of_lt_of_le hk.2.1 hg.size
  · rcases hmv k hv with h | h
    · exact hk.2.2 h
    · exact absurd hk.2.1 (by omega)
end

/-- memory that came behind a row of the call's own -/
theorem off_new {α : Type} {E : Enc α} {w w1 w2 : World} {base lo e : Nat} {v : Value} {l : List α} (h : OwnG E w base lo e v l) (hlo : lo ≤ w.heap.size) (hsz : w1.heap.size ≤ w2.heap.size) : ∀ k, From w.heap.size w1 k → Off lo w2 v k := by
  intro k hk
  refine ⟨Nat.le_trans hlo hk.1, Nat.lt_of_lt_of_le hk.2 hsz, fun hv => ?_⟩
  have := h.lt k hv
  have := hk.1
  omega
/-- memory that was there ahead of the row -/
theorem off_old {α : Type} {E : Enc α} {w w2 : World} {base e b : Nat} {v : Value} {l : List α} (h : OwnG E w base 0 e v l) (hb : b ≤ base) (hb2 : b ≤ w2.heap.size) : ∀ k, k < b → Off 0 w2 v k := by
  intro k hk
  refine ⟨Nat.zero_le _, by omega, fun hv => ?_⟩
  have := h.lt k hv
  omega
/-- a row that a literal has laid -/
theorem OwnG.lit {α : Type} {E : Enc α} (w : World) {base lo e : Nat} (l : List α) (cs : Array Value) (hb : base ≤ w.heap.size) (hm : l.length ≤ maxLen) (hs : cs.size = l.length * E.size) (he : Elems E (w.alloc (.cells cs e)) (From lo w) l cs.toList) :
    OwnG E (w.alloc (.cells cs e)) base lo e (.slice (some ⟨w.heap.size, 0, none⟩) l.length l.length) l := by
  refine ⟨cs.toList, World.ownsRow_lit w cs l.length hb hm hs, he.more fun k hk => ⟨hk.1, ?_, ?_⟩⟩
  · have := hk.2; simp; omega
  · intro h
    have := hk.2
    simp [Value.ownBlock] at h
    omega

/-- as wpList_append_mine, also of nothing -/
theorem wpList_append_mine0 {P : Program} (w : World) {ops : Array Oper} {rest : List Oper} {o : Oper} {a : Act} {Q : Exit → Act → World → Prop} (hgd : o.guard = none) (s x : Operand) (t : TypeId)
    (ho : o.op = .call { callee := .builtin .append, args := #[s, x], argTypes := #[t, t] })
    (base : Nat) (e : TypeId) (size bytes : Nat) (z : Value) (ht : P.underlying t = some (.slice e)) (hinfo : (P.info? e).map (fun i => (i.zero, i.size, i.bytes)) = some (some z, size, bytes)) (hzs : z.cells.size = size) (hsz : 0 < size)
    (v : Value) (n : Nat) (xs : List Value) (hs : a.eval s = v) (hown : w.ownsRow base e size v n xs)
    (ad : Addr) (m c : Nat) (news : List Value) (hx : a.eval x = .slice (some ad) m c) (hl : news.length = m * size) (hnews : ∀ j u, news[j]? = some u → w.cell? (ad.add j) = some u) (h1 : ∀ u ∈ news, u.oneCell' = true)
    (h63 : n + m ≤ maxLen) (hbytes : (n + m) * bytes ≤ 140737488355328) (hbase : base ≤ w.heap.size)
    (h : ∀ v' w', w'.ownsRow base e size v' (n + m) (xs ++ news) → w.grownBy w' v.ownBlock → Moved w v v' → wpList P ops Q rest (a.put o.dst v') w') : wpList P ops Q (o :: rest) a w := by
  by_cases hm : 0 < m
  · exact wpList_append_mine w hgd s x t ho base e size bytes z ht hinfo hzs hsz v n xs hs hown ad m c news hx hl hnews h1 h63 hbytes hbase hm h
  · obtain rfl : m = 0 := by omega
    obtain ⟨i, hi, hz0, hz1, hz2⟩ := info_parts hinfo
    rcases hown.2 with ⟨rfl, rfl⟩ | ⟨g, cap, cur, rfl, hg1, hg2, hg3, hg4, hg5, hg6⟩
    · refine wpList_append_own w hgd s x t ho base e i z size bytes ht hi hz0 hz1 hz2 hzs hsz _ _ _ hs hown ad 0 c news hx hl hnews h1 h63 hbytes hbase ?_
      intro v' w' ho' hgr hnil
      obtain rfl := hnil.2 ⟨rfl, rfl⟩
      exact h _ w' ho' hgr (Moved.refl _ _)
    · refine wpList_append_fits w hgd s x t ho base e i size ht hi hz1 g n cap xs hs hown ad 0 c news hx hl hnews h1 (by omega) ?_
      intro w' ho' hgr
      exact h _ w' ho' hgr (fun g' hg' => .inl hg')

/-- one element more -/
theorem wpList_append_one {α : Type} {E : Enc α} {P : Program} (w : World) {ops : Array Oper} {rest : List Oper} {o : Oper} {a : Act} {Q : Exit → Act → World → Prop} (hgd : o.guard = none) (s x : Operand) (t : TypeId)
    (ho : o.op = .call { callee := .builtin .append, args := #[s, x], argTypes := #[t, t] })
    (base lo : Nat) (e : TypeId) (bytes : Nat) (z : Value) (ht : P.underlying t = some (.slice e)) (hinfo : (P.info? e).map (fun i => (i.zero, i.size, i.bytes)) = some (some z, E.size, bytes)) (hzs : z.cells.size = E.size) (hsz : 0 < E.size)
    (v : Value) (l : List α) (hs : a.eval s = v) (hown : OwnG E w base lo e v l)
    (ad : Addr) (y : α) (cs : List Value) (hx : a.eval x = .slice (some ad) 1 1) (hy : E.rd w (Off lo w v) y cs) (hnews : ∀ j u, cs[j]? = some u → w.cell? (ad.add j) = some u)
    (hbytes : (l.length + 1) * bytes ≤ 140737488355328) (h63 : l.length + 1 ≤ maxLen) (hbase : base ≤ w.heap.size)
    (h : ∀ v' w', OwnG E w' base lo e v' (l ++ [y]) → w.grownBy w' v.ownBlock → Moved w v v' → wpList P ops Q rest (a.put o.dst v') w') : wpList P ops Q (o :: rest) a w := by
  obtain ⟨us, h1, h2⟩ := hown
  refine wpList_append_mine0 w hgd s x t ho base e E.size bytes z ht hinfo hzs hsz v l.length us hs h1 ad 1 1 cs hx (by rw [E.len hy]; omega) hnews (E.one hy) h63 hbytes hbase ?_
  intro v' w' ho' hg hmv
  exact h v' w' (OwnG.grown (m := [y]) h1.1 h2 ho' hg hmv (Elems.one hy)) hg hmv

/-- the cells of a slice -/
theorem Sl.cells {α : Type} {E : Enc α} {w : World} {S : Nat → Prop} {l : List α} {a : Addr} {n c : Nat} (h : Sl E w S l (.slice (some a) n c)) :
    ∃ us : List Value, us.length = l.length * E.size ∧ Elems E w S l us ∧ (∀ j u, us[j]? = some u → w.cell? (a.add j) = some u) ∧ ∀ u ∈ us, u.oneCell' = true := by
  obtain ⟨A, c, e, h2, h3, _, h4⟩ := h
  injection e with e1 e2 e3
  subst e1 e2 e3
  by_cases h0 : 0 < l.length
  · obtain ⟨b, o, e, hS, h7⟩ := h4 h0
    injection e with e
    subst e
    have ea : ∀ i, (⟨b, o, none⟩ : Addr).add i = ⟨b, o + i, none⟩ := fun i => by unfold Addr.add; split <;> simp_all
    clear h4 h2 h3 h0 hS
    have key : ∀ (m : List α) (k : Nat), (∀ i x, m[i]? = some x → ∃ cs, E.rd w S x cs ∧ ∀ j v, cs[j]? = some v → w.cell? ⟨b, o + (k + i) * E.size + j, none⟩ = some v) →
        ∃ us : List Value, us.length = m.length * E.size ∧ Elems E w S m us ∧ (∀ j u, us[j]? = some u → w.cell? ⟨b, o + k * E.size + j, none⟩ = some u) ∧ ∀ u ∈ us, u.oneCell' = true := by
      intro m
      induction m with
      | nil => intro k _; exact ⟨[], by simp, Elems.nil, by simp, by simp⟩
      | cons x m ih =>
        intro k hm
        obtain ⟨cs, c1, c2⟩ := hm 0 x rfl
        obtain ⟨us, u1, u2, u3, u4⟩ := ih (k + 1) (fun i y hy => by
          obtain ⟨cs', d1, d2⟩ := hm (i + 1) y (by simpa using hy)
          exact ⟨cs', d1, fun j v hv => by rw [← d2 j v hv, show k + 1 + i = k + (i + 1) from by omega]⟩)
        have hcl := E.len c1
        refine ⟨cs ++ us, by simp [u1, hcl, Nat.add_mul]; omega, ?_, fun j u hu => ?_, fun u hu => ?_⟩
        · exact Elems.append (l := [x]) (Elems.one c1) u2 (by simp [hcl])
        · by_cases hj : j < cs.length
          · rw [List.getElem?_append_left hj] at hu
            simpa using c2 j u hu
          · rw [List.getElem?_append_right (by omega)] at hu
            have := u3 _ u hu
            rw [← this]
            congr 2
            rw [Nat.add_mul]; omega
        · rcases List.mem_append.1 hu with h | h
          · exact E.one c1 u h
          · exact u4 u h
    obtain ⟨us, u1, u2, u3, u4⟩ := key l 0 (fun i x hx => by
      obtain ⟨cs, c1, c2⟩ := h7 i x hx
      exact ⟨cs, c1, fun j v hv => by rw [← c2 j v hv, Nat.zero_add]⟩)
    refine ⟨us, u1, u2, fun j u hu => ?_, u4⟩
    rw [ea, ← u3 j u hu]; simp
  · obtain rfl : l = [] := List.length_eq_zero_iff.1 (by omega)
    exact ⟨[], by simp, Elems.nil, by simp, by simp⟩

/-- all elements of a slice more -/
theorem wpList_append_all {α : Type} {E : Enc α} {P : Program} (w : World) {ops : Array Oper} {rest : List Oper} {o : Oper} {a : Act} {Q : Exit → Act → World → Prop} (hgd : o.guard = none) (s x : Operand) (t : TypeId)
    (ho : o.op = .call { callee := .builtin .append, args := #[s, x], argTypes := #[t, t] })
    (base lo : Nat) (e : TypeId) (bytes : Nat) (z : Value) (ht : P.underlying t = some (.slice e)) (hinfo : (P.info? e).map (fun i => (i.zero, i.size, i.bytes)) = some (some z, E.size, bytes)) (hzs : z.cells.size = E.size) (hsz : 0 < E.size)
    (v : Value) (l : List α) (hs : a.eval s = v) (hown : OwnG E w base lo e v l)
    (vx : Value) (m : List α) (hx : a.eval x = vx) (S : Nat → Prop) (hm : Sl E w S m vx) (hS : ∀ y cs, E.rd w S y cs → E.rd w (Off lo w v) y cs)
    (hbytes : (l.length + m.length) * bytes ≤ 140737488355328) (h63 : l.length + m.length ≤ maxLen) (hbase : base ≤ w.heap.size)
    (h : ∀ v' w', OwnG E w' base lo e v' (l ++ m) → w.grownBy w' v.ownBlock → Moved w v v' → wpList P ops Q rest (a.put o.dst v') w') : wpList P ops Q (o :: rest) a w := by
  obtain ⟨us, h1, h2⟩ := hown
  have hm' := hm
  obtain ⟨A, c, rfl, hc1, hc2, hn, h4⟩ := hm
  cases A with
  | none =>
    have hc := hn rfl
    subst hc
    obtain rfl : m = [] := List.length_eq_zero_iff.1 (by omega)
    obtain ⟨i, hi, hz0, hz1, hz2⟩ := info_parts hinfo
    refine wpList_append_own_none hgd s x t ho base e i E.size ht hi v _ _ hs h1 hx ?_
    refine h v w ?_ ⟨rfl, rfl, rfl, Nat.le_refl _, fun _ _ _ => rfl⟩ (Moved.refl _ _)
    rw [List.append_nil]
    exact ⟨us, h1, h2⟩
  | some ad =>
    obtain ⟨vs, v1, v2, v3, v4⟩ := hm'.cells
    refine wpList_append_mine0 w hgd s x t ho base e E.size bytes z ht hinfo hzs hsz v l.length us hs h1 ad m.length c vs hx v1 v3 v4 h63 hbytes hbase ?_
    intro v' w' ho' hg hmv
    exact h v' w' (OwnG.grown h1.1 h2 ho' hg hmv (fun i y hy => by obtain ⟨cs, c1, c2⟩ := v2 i y hy; exact ⟨cs, hS y cs c1, c2⟩)) hg hmv

/-- the front of a slice; a slice from a place on -/
theorem Sl.front {α : Type} {E : Enc α} {w : World} {S : Nat → Prop} {l : List α} {A : Option Addr} {n c : Nat} (h : Sl E w S l (.slice A n c)) {j : Nat} (hj : j ≤ l.length) : Sl E w S (l.take j) (.slice A j c) := by
  obtain ⟨A, c, e, h2, h3, hn, h4⟩ := h
  injection e with e1 e2 e3
  subst e1 e2 e3
  have el : (l.take j).length = j := by rw [List.length_take]; omega
  refine ⟨A, c, by rw [el], by omega, h3, hn, fun h0 => ?_⟩
  obtain ⟨b, o, h5, h6, h7⟩ := h4 (by omega)
  refine ⟨b, o, h5, h6, fun i x hx => h7 i x ?_⟩
  have hi := (List.getElem?_eq_some_iff.1 hx).1
  rw [List.getElem?_take_of_lt (by omega)] at hx
  exact hx
theorem Sl.back {α : Type} {E : Enc α} {w : World} {S : Nat → Prop} {l : List α} {b o n c : Nat} (h : Sl E w S l (.slice (some ⟨b, o, none⟩) n c)) {j : Nat} (hj : j ≤ l.length) :
    Sl E w S (l.drop j) (.slice (some (if c = j then ⟨b, o, none⟩ else ⟨b, o + j * E.size, none⟩)) (n - j) (c - j)) := by
  obtain ⟨A, c, e, h2, h3, hn, h4⟩ := h
  injection e with e1 e2 e3
  subst e1 e2 e3
  have el : (l.drop j).length = l.length - j := List.length_drop ..
  refine ⟨_, c - j, by rw [el], by omega, by unfold maxLen at *; omega, (fun h => by cases h), fun h0 => ?_⟩
  obtain ⟨b', o', h5, h6, h7⟩ := h4 (by omega)
  injection h5 with h5
  injection h5 with h5 h5'
  subst h5 h5'
  refine ⟨b, o + j * E.size, by rw [if_neg (by omega)], h6, fun i x hx => ?_⟩
  rw [List.getElem?_drop] at hx
  obtain ⟨cs, c1, c2⟩ := h7 _ x hx
  refine ⟨cs, c1, fun k u hu => ?_⟩
  rw [← c2 k u hu]
  congr 2
  rw [Nat.add_mul]; omega

theorem Sl.back1 {α : Type} {E : Enc α} {w : World} {S : Nat → Prop} {l : List α} {b o n c : Nat} (h : Sl E w S l (.slice (some ⟨b, o, none⟩) n c)) (hE : E.size = 1) {j : Nat} (hj : j ≤ l.length) :
    Sl E w S (l.drop j) (.slice (if c = j then some ⟨b, o, none⟩ else some ⟨b, o + j, none⟩) (n - j) (c - j)) := by
  have := h.back hj
  rw [hE, Nat.mul_one] at this
  split at this
  · rename_i hc; rw [if_pos hc]; exact this
  · rename_i hc; rw [if_neg hc]; exact this

/-- one world on -/
theorem Sl.on {α : Type} {E : Enc α} {w w' : World} {lo : Nat} {l : List α} {v : Value} (h : Sl E w (From lo w) l v) (hb : Below w.heap.size w w') : Sl E w' (From lo w') l v :=
  (h.below (fun _ h => h.2) hb).more fun _ h => ⟨h.1, Nat.lt_of_lt_of_le h.2 hb.size⟩
theorem Sl.onOld {α : Type} {E : Enc α} {w w' : World} {l : List α} {v : Value} (h : Sl E w (Old w) l v) (hb : Below w.heap.size w w') : Sl E w' (Old w') l v :=
  (h.below (fun _ h => h) hb).more fun _ h => Nat.lt_of_lt_of_le h hb.size
theorem Sl.form {α : Type} {E : Enc α} {w : World} {S : Nat → Prop} {l : List α} {v : Value} (h : Sl E w S l v) : ∃ A c, v = .slice A l.length c ∧ l.length ≤ c ∧ c ≤ maxLen := by
  obtain ⟨A, c, h1, h2, h3, _⟩ := h
  exact ⟨A, c, h1, h2, h3⟩

/-- a result that lies in new memory alone -/
def NewPost {α : Type} (E : Enc α) (l : List α) (w : World) (e : Ending) (w' : World) : Prop := ∃ v, e = .returned v ∧ Sl E w' (From w.heap.size w') l v ∧ Below w.heap.size w w'
/-- the same as a row of the call's own -/
def RowPost {α : Type} (E : Enc α) (ty lo : Nat) (l : List α) (w : World) (e : Ending) (w' : World) : Prop := ∃ v, e = .returned v ∧ OwnG E w' w.heap.size lo ty v l ∧ Below w.heap.size w w'
theorem RowPost.new {α : Type} {E : Enc α} {ty : Nat} {l : List α} {w w' : World} {e : Ending} (h : RowPost E ty w.heap.size l w e w') : NewPost E l w e w' := by
  obtain ⟨v, h1, h2, h3⟩ := h
  exact ⟨v, h1, h2.sl (Nat.le_refl _), h3⟩

/-- a row of the call's own of two ints reads from its base on -/
theorem OwnR.from_ {w : World} {base e : Nat} {v : Value} {l : List (Int × Int)} (h : OwnR w base e v l) : Sl Enc.rng w (From base w) l v := h.sl

end Go.Proofs.YtmdljknlbmlacabGreatDoor
namespace Go.Proofs.YtmdljknlbmlacabGreatDoor
open Go.RowKit

theorem run_append_mine {P : Program} (w : World) (base : Nat) (t ty e : TypeId) (size bytes : Nat) (z : Value) (ht : P.underlying t = some (.slice e)) (hinfo : (P.info? e).map (fun i => (i.zero, i.size, i.bytes)) = some (some z, size, bytes)) (hzs : z.cells.size = size) (hsz : 0 < size)
    (v : Value) (n : Nat) (xs : List Value) (hown : w.ownsRow base e size v n xs)
    (ad : Addr) (m c : Nat) (news : List Value) (hl : news.length = m * size) (hnews : ∀ j u, news[j]? = some u → w.cell? (ad.add j) = some u) (h1 : ∀ u ∈ news, u.oneCell' = true)
    (h63 : n + m ≤ maxLen) (hbytes : (n + m) * bytes ≤ 140737488355328) (hbase : base ≤ w.heap.size) :
    ∃ v' w', (Builtin.append_ #[t, t] ty #[v, .slice (some ad) m c]).run P w = .ok v' w' ∧ w'.ownsRow base e size v' (n + m) (xs ++ news) ∧ w.grownBy w' v.ownBlock ∧ Moved w v v' := by
  obtain ⟨i, hi, hz0, hz1, hz2⟩ := info_parts hinfo
  rcases hown.2 with ⟨rfl, rfl⟩ | ⟨g, cap, cur, rfl, hg1, hg2, hg3, hg4, hg5, hg6⟩
  · have hxs : xs = [] := List.length_eq_zero_iff.1 (by rw [hown.1]; simp)
    subst hxs
    obtain ⟨v', w', hr, ho, hg, _⟩ := run_append_own (P := P) w w.heap.size t ty e i z size bytes ht hi hz0 hz1 hz2 hzs hsz _ _ _ (World.ownsRow_nil w _ e size) ad m c news hl hnews h1 h63 hbytes (Nat.le_refl _)
    refine ⟨v', w', hr, ⟨ho.1, ?_⟩, hg, fun k hk => .inr (ho.lt k hk).1⟩
    rcases ho.2 with h2 | ⟨g, cap, cur, h1, h2, h3⟩
    · exact .inl h2
    · exact .inr ⟨g, cap, cur, h1, Nat.le_trans hbase h2, h3⟩
  · by_cases hroom : n + m ≤ cap
    · obtain ⟨w', hr, ho, hg⟩ := run_append_fits (P := P) w base t ty e i size ht hi hz1 g n cap xs hown ad m c news hl hnews h1 hroom
      exact ⟨_, w', hr, ho, hg, fun k hk => .inl hk⟩
    · obtain ⟨v', w', hr, ho, hg⟩ := run_append_arg_grows (P := P) w t ty e i z size bytes ht hi hz0 hz1 hz2 hzs hsz ⟨g, 0, none⟩ n cap xs hown.1 (hown.cells (g := g) rfl) ad m c news hl hnews (by omega) h63 hbytes
      refine ⟨v', w', hr, ⟨ho.1, ?_⟩, World.grownBy.mono hg, fun k hk => .inr (ho.lt k hk).1⟩
      rcases ho.2 with h2 | ⟨g, cap, cur, h1, h2, h3⟩
      · exact .inl h2
      · exact .inr ⟨g, cap, cur, h1, Nat.le_trans hbase h2, h3⟩

theorem step_append_one {α : Type} {E : Enc α} {P : Program} {ops : Array Oper} {o : Oper} {a : Act} {w : World} {K : Act → World → Prop} {Q : Exit → Act → World → Prop} {X : Prop}
    (hg : o.guard = none) (s x : Operand) (t : TypeId) (ho : o.op = Op.call { callee := Callee.builtin Builtin.append, args := #[s, x], argTypes := #[t, t] })
    (base lo : Nat) (e : TypeId) (bytes : Nat) (z : Value) (ht : P.underlying t = some (.slice e)) (hinfo : (P.info? e).map (fun i => (i.zero, i.size, i.bytes)) = some (some z, E.size, bytes)) (hzs : z.cells.size = E.size) (hsz : 0 < E.size)
    (v : Value) (l : List α) (hs : a.eval s = v) (hown : OwnG E w base lo e v l)
    (ad : Addr) (y : α) (cs : List Value) (hx : a.eval x = .slice (some ad) 1 1) (hy : E.rd w (Off lo w v) y cs) (hnews : ∀ j u, cs[j]? = some u → w.cell? (ad.add j) = some u)
    (hbytes : (l.length + 1) * bytes ≤ 140737488355328) (h63 : l.length + 1 ≤ maxLen) (hbase : base ≤ w.heap.size)
    (h : ∀ v' w', OwnG E w' base lo e v' (l ++ [y]) → w.grownBy w' v.ownBlock → Moved w v v' → K (a.put o.dst v') w') :
    if Region.wanted o (yielded ops a.tmps) = true then Oper.wp P o a w K Q else X := by
  have hw : Region.wanted o (yielded ops a.tmps) = true := by simp [Region.wanted, hg]
  rw [if_pos hw]
  obtain ⟨us, h1, h2⟩ := hown
  obtain ⟨v', w', hr, ho', hg', hmv⟩ := run_append_mine (P := P) w base t o.type e E.size bytes z ht hinfo hzs hsz v l.length us h1 ad 1 1 cs (by rw [E.len hy]; omega) hnews (E.one hy) h63 hbytes hbase
  unfold Oper.wp execOp
  simp only [ho, resolve, invoke, builtin, Sem.run_bind, Sem.run_pure, Result.andThen_ok, List.map_toArray, List.map_cons, List.map_nil, hs, hx, hr]
  exact h v' w' (OwnG.grown (m := [y]) h1.1 h2 ho' hg' hmv (Elems.one hy)) hg' hmv

/-- a struct of the call's own at the block b, a cell a field -/
def Cs (w : World) (b : Nat) (vs : List Value) : Prop := b < w.heap.size ∧ (∀ j v, vs[j]? = some v → w.cell? ⟨b, j, none⟩ = some v) ∧ ∀ j, j < vs.length → w.frozen? ⟨b, j, none⟩ = false
section
variable {w w' : World} {b g : Nat} {vs : List Value}
theorem Cs.new (w : World) (vs : List Value) (e : Nat) : Cs (w.alloc (.cells vs.toArray e)) w.heap.size vs :=
  ⟨by simp, fun j v hv => (World.cell?_alloc_new ..).trans (by simpa using hv), fun j hj => by simp⟩
theorem Cs.keep (h : Cs w b vs) (hb : w'.heap[b]? = w.heap[b]?) (hs : w.heap.size ≤ w'.heap.size) : Cs w' b vs :=
  ⟨Nat.lt_of_lt_of_le h.1 hs, fun j v hv => (World.cell?_of_block hb).trans (h.2.1 j v hv), fun j hj => (World.frozen?_of_block hb).trans (h.2.2 j hj)⟩
theorem Cs.next (h : Cs w b vs) (hb : Below w.heap.size w w') : Cs w' b vs := h.keep (hb.block b h.1) hb.size
theorem Cs.grown (h : Cs w b vs) (hg : w.grownBy w' (some g)) (hne : b ≠ g) : Cs w' b vs := h.keep (hg.block b h.1 (by intro e; injection e with e; exact hne e)) hg.size
theorem Cs.set (h : Cs w b vs) (i : Nat) (hi : i < vs.length) (v : Value) : Cs (w.setCell ⟨b, i, none⟩ v) b (vs.set i v) := by
  refine ⟨by simpa [World.setCell] using h.1, fun j u hu => ?_, fun j hj => by rw [List.length_set] at hj; simpa using h.2.2 j hj⟩
  by_cases hj : j = i
  · subst hj
    rw [List.getElem?_set_self hi] at hu
    injection hu with hu
    subst hu
    exact World.cell?_setCell_same w _ _ (h.2.1 j vs[j] (List.getElem?_eq_getElem hi))
  · rw [List.getElem?_set_ne (Ne.symm hj)] at hu
    exact (World.cell?_setCell_other w _ _ _ (by intro e; injection e with e1 e2; omega)).trans (h.2.1 j u hu)
theorem Cs.at (h : Cs w b vs) (j : Nat) {v : Value} (hv : vs[j]? = some v) : w.cell? ⟨b, j, none⟩ = some v := h.2.1 j v hv
theorem below_set (w : World) (b o : Nat) (v : Value) : Below b w (w.setCell ⟨b, o, none⟩ v) :=
  ⟨rfl, rfl, rfl, by simp [World.setCell], fun k hk => RowKit.Below.heap_setCell _ _ _ _ (by show k ≠ b; omega)⟩
theorem Cs.below {B : Nat} (h : Cs w b vs) (hb : Below B w w') (hB : b < B) : Cs w' b vs := h.keep (hb.block b hB) hb.size
end
theorem Cs.drew {w : World} {b : Nat} {vs : List Value} (h : Cs w b vs) : Cs w.drew b vs := h.next ((Below.refl _ _).drew)

end Go.Proofs.YtmdljknlbmlacabGreatDoor
