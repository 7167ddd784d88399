/- Words for memory: how Lean data lie in the cells of a world, and what a call that writes only new memory keeps of them. No condition; no program is named. Appending to a row of the call's own, with a word on where the new row lies. Conditions: the row is the call's own and fits into 2^47 bytes. Rows of numbers that the call itself has made. No condition; no program is named. Rows of elements of any kind that the call itself has made, and what they lead to; slices of slices. No condition; no program is named. Appending to a row of the call's own inside a statement that leaves its order open. Conditions: the row is the call's own and fits into 2^47 bytes. -/
import Derived.WalkKit
import Derived.WalkSpells
import Derived.Lib.Hide
import Derived.ArgAppend
import Derived.Deep.RegionLaw
import Derived.Laws.AppendOwnNone
import Derived.Laws.OwnMore
import Derived.OpenShut
import Derived.ProofKit
import Derived.SizedLaws
import Derived.Deep.SlicePairs
import Derived.Lib.ItoaNum
import Derived.Lib.AtoiAll
import Derived.Lib.AtoiTie
import Derived.Lib.SlTrimSet
import Derived.Lib.Join
import Derived.WalkLawsBesides
import Derived.BigQuiet
import Derived.Deep.QuietTactic
import Derived.StillTailTactics
import Derived.Deep.RegionHeld3
import Derived.OwnWalk
import Derived.Maps.OwnSet
import Derived.Maps.Views
import Derived.StringKeys
import Derived.Shelf.Abstract
import Derived.Laws.CopyRow
import Derived.Lib.AppendZerosOnto
import Derived.Lib.SliceRun
import Derived.Lib.Overlaps
import Derived.Shelf.Spec.SlicesInsertGrow
import Derived.Ground.NamesProg
import Derived.Ground.Names2Prog
import Derived.Shelf.Small.Strs
import Derived.Shelf.Spec.SearchS
import Derived.Shelf.SlGeneric
import Derived.Shelf.SlSortCmp.WholeK
import Derived.Shelf.SlicesG.Cmp
import Derived.Ground.SlsfProg
import Derived.Ground.SlgcProg
import Derived.Shelf.SlSortCmp.NoneTotal
import Derived.Sort.OwnSorted
import Derived.Shelf.Strings.SlTrimAscii
import Derived.Shelf.Strings.Prefix
import Derived.Shelf.Strconv.AtoiAll
import Derived.Shelf.Strconv.Itoa3
import Derived.Shelf.Strings.OnBuilder
import Derived.Shelf.Strconv.ErrVarAll
import Derived.Lib.AtoiErrMem
import Derived.Lib.AppendIntMem
import Derived.Lib.AtoiAllCases
import Derived.Lay
import Derived.ChangeMaps5
import Derived.SevenTiedAt
import Derived.Stop.Joined
import Derived.Test.YthmlndmlnlfhnaaGreatDoorRows
import Derived.Test.YthmlndmlnlfhnaaGreatDoorProg
namespace Go.Proofs.YthmlndmlnlfhnaaGreatDoor
open Go.RowKit

/-- How a value of some Go type lies in memory: `size` cells; `rd w S x cs`: the cells `cs` read as `x`, and all memory behind them lies in blocks of `S`. -/
structure Enc (α : Type) where
  size : Nat
  rd : World → (Nat → Prop) → α → List Value → Prop
  len : ∀ {w S x cs}, rd w S x cs → cs.length = size
  keep : ∀ {w w' : World} {S x cs}, rd w S x cs → (∀ p : Addr, S p.block → w'.cell? p = w.cell? p) → rd w' S x cs
  more : ∀ {w} {S S' : Nat → Prop} {x cs}, rd w S x cs → (∀ k, S k → S' k) → rd w S' x cs
  one : ∀ {w S x cs}, rd w S x cs → ∀ u ∈ cs, u.oneCell' = true

def Enc.int : Enc Int := ⟨1, fun _ _ x cs => cs = [.int .i64 x], fun h => by subst h; rfl, fun h _ => h, fun h _ => h, fun h u hu => by subst h; simp at hu; subst hu; rfl⟩
def Enc.str : Enc ByteArray := ⟨1, fun _ _ x cs => cs = [.string x], fun h => by subst h; rfl, fun h _ => h, fun h _ => h, fun h u hu => by subst h; simp at hu; subst hu; rfl⟩
/-- the row of elements at ⟨b, o⟩ -/
def RowAt {α : Type} (E : Enc α) (w : World) (S : Nat → Prop) (b o : Nat) (l : List α) : Prop :=
  ∀ i x, l[i]? = some x → ∃ cs, E.rd w S x cs ∧ ∀ j v, cs[j]? = some v → w.cell? ⟨b, o + i * E.size + j, none⟩ = some v

/-- a slice value `v` that reads as the list `l` -/
def Sl {α : Type} (E : Enc α) (w : World) (S : Nat → Prop) (l : List α) (v : Value) : Prop :=
  ∃ A c, v = .slice A l.length c ∧ l.length ≤ c ∧ c ≤ maxLen ∧ (A = none → c = 0) ∧ (0 < l.length → ∃ b o, A = some ⟨b, o, none⟩ ∧ S b ∧ RowAt E w S b o l)

section
variable {α : Type} {E : Enc α} {w w' : World} {S S' : Nat → Prop} {l : List α} {v : Value} {b o : Nat}

theorem RowAt.keep (h : RowAt E w S b o l) (hb : S b) (hk : ∀ p : Addr, S p.block → w'.cell? p = w.cell? p) : RowAt E w' S b o l := by
  intro i x hx
  obtain ⟨cs, h1, h2⟩ := h i x hx
  exact ⟨cs, E.keep h1 hk, fun j u hu => (hk _ hb).trans (h2 j u hu)⟩
theorem RowAt.more (h : RowAt E w S b o l) (hS : ∀ k, S k → S' k) : RowAt E w S' b o l := by
  intro i x hx
  obtain ⟨cs, h1, h2⟩ := h i x hx
  exact ⟨cs, E.more h1 hS, h2⟩
theorem Sl.keep (h : Sl E w S l v) (hk : ∀ p : Addr, S p.block → w'.cell? p = w.cell? p) : Sl E w' S l v := by
  obtain ⟨A, c, h1, h2, h3, hn, h4⟩ := h
  refine ⟨A, c, h1, h2, h3, hn, fun h0 => ?_⟩
  obtain ⟨b, o, h5, h6, h7⟩ := h4 h0
  exact ⟨b, o, h5, h6, h7.keep h6 hk⟩
theorem Sl.more (h : Sl E w S l v) (hS : ∀ k, S k → S' k) : Sl E w S' l v := by
  obtain ⟨A, c, h1, h2, h3, hn, h4⟩ := h
  refine ⟨A, c, h1, h2, h3, hn, fun h0 => ?_⟩
  obtain ⟨b, o, h5, h6, h7⟩ := h4 h0
  exact ⟨b, o, h5, hS _ h6, h7.more hS⟩
theorem Sl.nil : Sl E w S [] (.slice none 0 0) := ⟨none, 0, rfl, Nat.le_refl _, by unfold maxLen; omega, fun _ => rfl, fun h => absurd h (by simp)⟩
end

def Enc.slice {α : Type} (E : Enc α) : Enc (List α) :=
  ⟨1, fun w S l cs => ∃ v, cs = [v] ∧ Sl E w S l v, fun ⟨_, h, _⟩ => by subst h; rfl, fun ⟨v, h, h'⟩ hk => ⟨v, h, h'.keep hk⟩, fun ⟨v, h, h'⟩ hS => ⟨v, h, h'.more hS⟩, fun ⟨v, h, h'⟩ u hu => by obtain ⟨A, c, rfl, _⟩ := h'; subst h; simp at hu; subst hu; rfl⟩

/-- the blocks there are -/
def Old (w : World) : Nat → Prop := fun k => k < w.heap.size
section
variable {w w' : World} {base e : Nat} {v : Value} {l : List (Int × Int)}
end

/-- one call more -/
theorem below_next {B : Nat} {w wr w' : World} (h : Below B w wr) (hB : B ≤ wr.heap.size) (h' : Below wr.heap.size wr w') : Below B w w' := h.trans (h'.mono hB)

end Go.Proofs.YthmlndmlnlfhnaaGreatDoor
namespace Go.Proofs.YthmlndmlnlfhnaaGreatDoor
open Go.RowKit

end Go.Proofs.YthmlndmlnlfhnaaGreatDoor
namespace Go.Proofs.YthmlndmlnlfhnaaGreatDoor
open Go.RowKit

section
variable {w w' : World} {base e : Nat} {v : Value} {l : List Int}
end

end Go.Proofs.YthmlndmlnlfhnaaGreatDoor
namespace Go.Proofs.YthmlndmlnlfhnaaGreatDoor
open Go.RowKit

section
variable {α : Type} {E : Enc α} {w w' : World} {base lo e : Nat} {v : Value} {l m : List α} {S S' : Nat → Prop} {us vs : List Value}

end

theorem Sl.form {α : Type} {E : Enc α} {w : World} {S : Nat → Prop} {l : List α} {v : Value} (h : Sl E w S l v) : ∃ A c, v = .slice A l.length c ∧ l.length ≤ c ∧ c ≤ maxLen := by
  obtain ⟨A, c, h1, h2, h3, _⟩ := h
  exact ⟨A, c, h1, h2, h3⟩

end Go.Proofs.YthmlndmlnlfhnaaGreatDoor
namespace Go.Proofs.YthmlndmlnlfhnaaGreatDoor
open Go.RowKit

/-- a struct of the call's own at the block b, a cell a field -/
def Cs (w : World) (b : Nat) (vs : List Value) : Prop := b < w.heap.size ∧ (∀ j v, vs[j]? = some v → w.cell? ⟨b, j, none⟩ = some v) ∧ ∀ j, j < vs.length → w.frozen? ⟨b, j, none⟩ = false
section
variable {w w' : World} {b g : Nat} {vs : List Value}
theorem Cs.new (w : World) (vs : List Value) (e : Nat) : Cs (w.alloc (.cells vs.toArray e)) w.heap.size vs :=
  ⟨by simp, fun j v hv => (World.cell?_alloc_new ..).trans (by simpa using hv), fun j hj => by simp⟩
theorem Cs.keep (h : Cs w b vs) (hb : w'.heap[b]? = w.heap[b]?) (hs : w.heap.size ≤ w'.heap.size) : Cs w' b vs :=
  ⟨Nat.lt_of_lt_of_le h.1 hs, fun j v hv => (World.cell?_of_block hb).trans (h.2.1 j v hv), fun j hj => (World.frozen?_of_block hb).trans (h.2.2 j hj)⟩
theorem Cs.next (h : Cs w b vs) (hb : Below w.heap.size w w') : Cs w' b vs := h.keep (hb.block b h.1) hb.size
theorem Cs.set (h : Cs w b vs) (i : Nat) (hi : i < vs.length) (v : Value) : Cs (w.setCell ⟨b, i, none⟩ v) b (vs.set i v) := by
  refine ⟨by simpa [World.setCell] using h.1, fun j u hu => ?_, fun j hj => by rw [List.length_set] at hj; simpa using h.2.2 j hj⟩
  by_cases hj : j = i
  · subst hj
    rw [List.getElem?_set_self hi] at hu
    injection hu with hu
    subst hu
    exact World.cell?_setCell_same w _ _ (h.2.1 j vs[j] (List.getElem?_eq_getElem hi))
  · rw [List.getElem?_set_ne (Ne.symm hj)] at hu
    exact (World.cell?_setCell_other w _ _ _ (by intro e; injection e with e1 e2; omega)).trans (h.2.1 j u hu)
theorem Cs.at (h : Cs w b vs) (j : Nat) {v : Value} (hv : vs[j]? = some v) : w.cell? ⟨b, j, none⟩ = some v := h.2.1 j v hv
theorem below_set (w : World) (b o : Nat) (v : Value) : Below b w (w.setCell ⟨b, o, none⟩ v) :=
  ⟨rfl, rfl, rfl, by simp [World.setCell], fun k hk => RowKit.Below.heap_setCell _ _ _ _ (by show k ≠ b; omega)⟩
end
end Go.Proofs.YthmlndmlnlfhnaaGreatDoor
/- Structs in memory: pairs of readings; cells, rules and tables. No condition; no program is named. -/
namespace Go.Proofs.YthmlndmlnlfhnaaGreatDoor
open Go.RowKit

/-- a reading behind another -/
def Enc.pair {α β : Type} (E : Enc α) (F : Enc β) : Enc (α × β) where
  size := E.size + F.size
  rd w S x cs := ∃ c1 c2, cs = c1 ++ c2 ∧ E.rd w S x.1 c1 ∧ F.rd w S x.2 c2
  len := by rintro w S x cs ⟨c1, c2, rfl, h1, h2⟩; rw [List.length_append, E.len h1, F.len h2]
  keep := by rintro w w' S x cs ⟨c1, c2, rfl, h1, h2⟩ hk; exact ⟨c1, c2, rfl, E.keep h1 hk, F.keep h2 hk⟩
  more := by rintro w S S' x cs ⟨c1, c2, rfl, h1, h2⟩ hk; exact ⟨c1, c2, rfl, E.more h1 hk, F.more h2 hk⟩
  one := by
    rintro w S x cs ⟨c1, c2, rfl, h1, h2⟩ u hu
    rcases List.mem_append.1 hu with h | h
    · exact E.one h1 u h
    · exact F.one h2 u h

end Go.Proofs.YthmlndmlnlfhnaaGreatDoor
/- An argument that is a slice of ranges, read as a list of pairs. No condition. Arguments of any shape read as Lean data, layer by layer, with the bounds that the row's own reach gives. No condition. Arguments that are tables read as Lean data. No condition. -/
namespace Go.Proofs.YthmlndmlnlfhnaaGreatDoor
open Go.ChangeShapes Go.WideShapes Go.ChangeAt Go.RowKit Go.Deep

theorem own : ownKnob Tryz.prog.godebug = none := by kernel_rfl
theorem laidOut : laidOutB Tryz.prog = true := by kernel_rfl

theorem addr_zero {w : World} {a : Addr} {v : Value} (h : w.cell? (a.add 0) = some v) : a = ⟨a.block, a.off, none⟩ ∧ a.block < w.heap.size := by
  have e : a.add 0 = a := by unfold Addr.add; simp
  rw [e] at h
  obtain ⟨b, o, s⟩ := a
  have hs := World.cell?_spot h
  simp only at hs
  subst hs
  exact ⟨rfl, World.block_lt_of_cell? w _ h⟩
theorem addr_at {a : Addr} (ha : a = ⟨a.block, a.off, none⟩) (k : Nat) : a.add k = ⟨a.block, a.off + k, none⟩ := by
  unfold Addr.add
  split
  · rename_i h; subst h; exact ha
  · rfl

theorem wf_bounds {n : Int} (h : (Lit.int .i64 n).wf = true) : -9223372036854775808 ≤ n ∧ n ≤ 9223372036854775807 := by
  have h1 : IntKind.i64.min = -9223372036854775808 := rfl
  have h2 : IntKind.i64.max = 9223372036854775807 := rfl
  simp only [Lit.wf, Bool.and_eq_true, decide_eq_true_eq] at h
  omega

end Go.Proofs.YthmlndmlnlfhnaaGreatDoor
namespace Go.Proofs.YthmlndmlnlfhnaaGreatDoor
open Go.ChangeShapes Go.WideShapes Go.ChangeAt Go.RowKit Go.Deep

/-- whatever reads by the type t reads as a Lean value under E, which is `fit` -/
def Opens {α : Type} (P : Program) (E : Enc α) (t : TypeId) (fit : α → Prop) : Prop :=
  ∀ (H : Type) (enc : TypeId × Value → H) (W : World) (base : Nat) (spare : Nat → Bool) (held : Bool) (fuel : Nat) (cs : List Value) (x : DataW H × List MemPlace),
    DataW.trod enc P W base spare held fuel t cs = some x → (∀ n ∈ x.1.weights P t, n ≤ reachBytes) → ∃ y, E.rd W (Old W) y cs ∧ fit y

theorem weightsAll_mem {H : Type} {P : Program} {e : TypeId} : ∀ {ds : List (DataW H)} {d : DataW H}, d ∈ ds → ∀ n ∈ d.weights P e, n ∈ DataW.weightsAll P e ds
  | d0 :: ds, d, hd, n, hn => by
    simp only [DataW.weightsAll, List.mem_append]
    rcases List.mem_cons.1 hd with rfl | h
    · exact .inl hn
    · exact .inr (weightsAll_mem h n hn)

def in64 (n : Int) : Prop := -9223372036854775808 ≤ n ∧ n ≤ 9223372036854775807
theorem opens_int {P : Program} {t : TypeId} (ht : P.underlying t = some (.int .i64)) : Opens P Enc.int t in64 := by
  intro H enc W base spare held fuel cs x h _
  obtain ⟨n, e, _, wf⟩ := DataW.trod_int ht h
  exact ⟨n, e, wf_bounds wf⟩
theorem opens_str {P : Program} {t : TypeId} (ht : P.underlying t = some .string) : Opens P Enc.str t (fun s => s.size ≤ reachBytes) := by
  intro H enc W base spare held fuel cs x h hw
  obtain ⟨s, e, e2, _⟩ := DataW.trod_string ht h
  refine ⟨s, e, ?_⟩
  subst e2
  simpa [DataW.weights] using hw s.data.toList.length (by simp [DataW.weights])
theorem opens_slice {α : Type} [Inhabited α] {P : Program} {E : Enc α} {t e : TypeId} {fit : α → Prop} (ht : P.underlying t = some (.slice e)) (hc : P.cellsOf e = E.size) (h0 : 0 < E.size) (he : Opens P E e fit) :
    Opens P E.slice t (fun l => l.length * P.bytesOf e ≤ reachBytes ∧ ∀ y, y ∈ l → fit y) := by
  intro H enc W base spare held fuel cs x h hw
  rcases open_slice ht h with ⟨rfl, rfl⟩ | ⟨a, len, cap, m, n, D, Pl, rfl, hb, hl, hm, hmm, rfl, hx⟩
  · exact ⟨[], ⟨_, rfl, Sl.nil⟩, by simp, by simp⟩
  · have hlm : len ≤ m := by rw [hmm]; split <;> omega
    simp only [DataW.weights, ht, List.length_map, List.length_range, List.mem_cons, List.mem_append] at hw
    have hsz := hw _ (.inl rfl)
    have hlen : len * P.bytesOf e ≤ reachBytes := Nat.le_trans (Nat.mul_le_mul_right _ (by omega)) hsz
    have each : ∀ i, i < len → ∃ q : α × List Value, E.rd W (Old W) q.1 q.2 ∧ fit q.1 ∧ ∀ j u, q.2[j]? = some u → W.cell? (a.add (i * E.size + j)) = some u := by
      intro i hi
      obtain ⟨cs', h1, h2⟩ := hx i (by omega)
      obtain ⟨y, hy, hf⟩ := he H enc W base spare held n cs' _ h2 (fun k hk => hw k (.inr (.inl (weightsAll_mem (List.mem_map.2 ⟨i, List.mem_range.2 hi, rfl⟩) k hk))))
      obtain ⟨_, hl', hcell⟩ := World.cells?_some h1
      refine ⟨(y, cs'), hy, hf, fun j u hu => ?_⟩
      have hj : j < cs'.length := (List.getElem?_eq_some_iff.1 hu).1
      have := hcell j (by omega)
      rw [add_add, hc] at this
      rw [this, hu]
    obtain ⟨q, hq⟩ := choose_lt each
    refine ⟨(List.range len).map fun i => (q i).1, ⟨_, rfl, some a, cap, by simp, by simpa using hl, hm, (fun h => by cases h), fun hp => ?_⟩, by simpa using hlen, fun y hy => ?_⟩
    · have hp' : 0 < len := by simpa using hp
      obtain ⟨h1, _, h3⟩ := hq 0 hp'
      have hl0 := E.len h1
      have hc0 := h3 0 ((q 0).2[0]'(by omega)) (List.getElem?_eq_getElem (by omega))
      rw [Nat.zero_mul, Nat.zero_add] at hc0
      obtain ⟨ha, hbk⟩ := addr_zero hc0
      refine ⟨a.block, a.off, by rw [← ha], hbk, fun i y hy => ?_⟩
      obtain ⟨hlt, ex⟩ := List.getElem?_eq_some_iff.1 hy
      simp at hlt ex
      subst ex
      obtain ⟨g1, _, g3⟩ := hq i hlt
      refine ⟨_, g1, fun j u hu => ?_⟩
      have := g3 j u hu
      rw [addr_at ha] at this
      rw [Nat.add_assoc]
      exact this
    · obtain ⟨i, hi, rfl⟩ := List.mem_map.1 hy
      exact (hq i (List.mem_range.1 hi)).2.1

theorem reach47 : reachBytes ≤ 140737488355328 := by decide

def fitInts (l : List Int) : Prop := l.length * 8 ≤ 140737488355328 ∧ ∀ n, n ∈ l → in64 n
theorem Opens.mono {α : Type} {P : Program} {E : Enc α} {t : TypeId} {fit fit' : α → Prop} (h : Opens P E t fit) (hf : ∀ y, fit y → fit' y) : Opens P E t fit' := by
  intro H enc W base spare held fuel cs x h1 h2
  obtain ⟨y, h3, h4⟩ := h H enc W base spare held fuel cs x h1 h2
  exact ⟨y, h3, hf y h4⟩

theorem opensInts : Opens Tryz.prog Enc.int.slice 22 fitInts :=
  (opens_slice (e := 3) (by kernel_rfl) (by kernel_rfl) (by decide) (opens_int Tryz.underlying3)).mono fun l h => ⟨by have := h.1; rw [show Tryz.prog.bytesOf 3 = 8 from by kernel_rfl] at this; exact Nat.le_trans this reach47, h.2⟩

end Go.Proofs.YthmlndmlnlfhnaaGreatDoor
namespace Go.Proofs.YthmlndmlnlfhnaaGreatDoor
open Go.ChangeShapes Go.WideShapes Go.ChangeAt Go.RowKit Go.Deep

/-- what reads by the fields fs, from the cell off on -/
def OpensF {α : Type} (P : Program) (E : Enc α) (fs : List Field) (off : Nat) (fit : α → Prop) : Prop :=
  ∀ (H : Type) (enc : TypeId × Value → H) (W : World) (base : Nat) (spare : Nat → Bool) (held : Bool) (fuel : Nat) (cs : List Value) (xs : List (DataW H × List MemPlace)),
    off + E.size ≤ cs.length → (∀ (i : Nat) (f : Field), fs[i]? = some f → ∃ x, xs[i]? = some x ∧ DataW.trod enc P W base spare held fuel f.type ((cs.drop f.offset).take (P.cellsOf f.type)) = some x ∧ ∀ n ∈ x.1.weights P f.type, n ≤ reachBytes) →
    ∃ y, E.rd W (Old W) y ((cs.drop off).take E.size) ∧ fit y
theorem opensF_one {α : Type} {P : Program} {E : Enc α} {f : Field} {off : Nat} {fit : α → Prop} (ho : f.offset = off) (hc : P.cellsOf f.type = E.size) (he : Opens P E f.type fit) : OpensF P E [f] off fit := by
  intro H enc W base spare held fuel cs xs hl h
  obtain ⟨x, _, h2, h3⟩ := h 0 f rfl
  rw [ho, hc] at h2
  exact he H enc W base spare held fuel _ x h2 h3
theorem opensF_cons {α β : Type} {P : Program} {E : Enc α} {F : Enc β} {f : Field} {fs : List Field} {off : Nat} {fit : α → Prop} {fit' : β → Prop} (ho : f.offset = off) (hc : P.cellsOf f.type = E.size) (he : Opens P E f.type fit) (hr : OpensF P F fs (off + E.size) fit') :
    OpensF P (E.pair F) (f :: fs) off (fun y => fit y.1 ∧ fit' y.2) := by
  intro H enc W base spare held fuel cs xs hl h
  have es : (E.pair F).size = E.size + F.size := rfl
  rw [es] at hl ⊢
  obtain ⟨x, hx, h2, h3⟩ := h 0 f rfl
  rw [ho, hc] at h2
  obtain ⟨y, hy, fy⟩ := he H enc W base spare held fuel _ x h2 h3
  obtain ⟨z, hz, fz⟩ := hr H enc W base spare held fuel cs xs.tail (by omega) (fun i g hg => by
    obtain ⟨x', hx', h4⟩ := h (i + 1) g (by simpa using hg)
    exact ⟨x', by rw [List.getElem?_tail]; exact hx', h4⟩)
  refine ⟨(y, z), ⟨_, _, ?_, hy, hz⟩, fy, fz⟩
  rw [List.take_add, List.drop_drop]
theorem weightsEach_at {H : Type} {P : Program} : ∀ {ts : List TypeId} {ds : List (DataW H)} {i : Nat} {t : TypeId} {d : DataW H}, ts[i]? = some t → ds[i]? = some d → ∀ n ∈ d.weights P t, n ∈ DataW.weightsEach P ts ds := fun h1 h2 => DataW.weights_mem_each h1 h2
theorem opens_struct {α : Type} {P : Program} {E : Enc α} {t : TypeId} {fs : Array Field} {fit : α → Prop} (ht : P.underlying t = some (.struct fs)) (hc : P.cellsOf t = E.size) (hf : OpensF P E fs.toList 0 fit) : Opens P E t fit := by
  intro H enc W base spare held fuel cs x h hw
  obtain ⟨xs, n, _, rfl, hl, hxl, hg⟩ := DataW.trod_struct ht h
  have hl' : cs.length = E.size := hl.trans hc
  obtain ⟨y, hy, fy⟩ := hf H enc W base spare held n cs xs (by omega) (fun i f hi => by
    have hi' : fs[i]? = some f := by simpa using hi
    have hlt : i < xs.length := by have := (Array.getElem?_eq_some_iff.1 hi').1; omega
    have h1 := hg i f hi'
    rw [List.getElem?_eq_getElem hlt] at h1
    refine ⟨xs[i], List.getElem?_eq_getElem hlt, h1, fun k hk => hw k ?_⟩
    rw [DataW.weights.eq_def]
    simp only [ht]
    exact weightsEach_at (ts := fs.toList.map (·.type)) (i := i) (t := f.type) (d := xs[i].1) (by rw [List.getElem?_map, hi]; rfl) (by rw [List.getElem?_map, List.getElem?_eq_getElem hlt]; rfl) k hk)
  rw [List.drop_zero, ← hl', List.take_length] at hy
  exact ⟨y, hy, fy⟩

end Go.Proofs.YthmlndmlnlfhnaaGreatDoor
/- box.Good, alike and Has, each as a Lean function of the lists that its arguments read as. Conditions: argument slices read as lists in old memory. -/
namespace Go.Proofs.YthmlndmlnlfhnaaGreatDoor
open Go.RowKit

theorem bx {w w1 w2 : World} (h : Below w.heap.size w w1) (h' : Below w1.heap.size w1 w2) : Below w.heap.size w w2 := below_next h h.size h'
theorem undrew {w w' : World} (h : Below w.drew.heap.size w.drew w') : Below w.heap.size w w' := ⟨h.os, h.tape, h.output, h.size, h.block⟩

end Go.Proofs.YthmlndmlnlfhnaaGreatDoor
/- Rows of the call's own, cell by cell: copying within them and into them. Conditions: the cells lie in one block of plain memory. No program is named. -/
namespace Go.Proofs.YthmlndmlnlfhnaaGreatDoor
open Go.RowKit

theorem below_al (w : World) (o : Obj) : Below w.heap.size w (w.alloc o) := (Below.refl _ _).alloc (Nat.le_refl _) o
end Go.Proofs.YthmlndmlnlfhnaaGreatDoor
namespace Go.Proofs.YthmlndmlnlfhnaaGreatDoor
open Go.RowKit

section
variable {α : Type} {E : Enc α} {w w' : World} {base e : Nat} {S S' : Nat → Prop} {v : Value} {l : List α}
end

end Go.Proofs.YthmlndmlnlfhnaaGreatDoor
namespace Go.Proofs.YthmlndmlnlfhnaaGreatDoor
open Go.RowKit

section
variable {α : Type} {f : α → List Value} {S : Nat}
end

end Go.Proofs.YthmlndmlnlfhnaaGreatDoor
/- The store as Lean data: books with and without items, what a session sees, the actions and their replies, and what holds of every state that actions lead to. No condition; no program is named. -/
namespace Go.Proofs.YthmlndmlnlfhnaaGreatDoor

/- names in rising order -/
section
variable {α : Type} {f : α → ByteArray}
end

/- books -/
structure ActD where
  kind : Int
  n : Int
  name : ByteArray
  text : ByteArray
  inp : List Int
end Go.Proofs.YthmlndmlnlfhnaaGreatDoor
/-
  DERIVED: THE SHELF's CONTRACTS AT THIS DUMP, IN PLAIN WORDS (tools/lay-plain.mjs out of 'YthmlndmlnlfhnaaGreatDoorShelfXTry.lean', which tools/lay-shelf.mjs wrote): THE SAME DECLARATIONS UNDER THE SAME NAMES: 'import', 'namespace', 'open', 'def', 'theorem' AND NOTHING ELSE: no command of the shelf's: FOR A HAND-IN. Each laying: the table of numbers ('.._ren') and one theorem, a field a fact of the dump's own or the kernel's comparison; each contract: ONE APPLICATION.
-/
namespace Go.Proofs
open Go.Shelf
def Tryz.join_ren : Go.Shelf.Ren := ⟨fun | 156 => 49 | 165 => 78 | 166 => 79 | 169 => 80 | 240 => 121 | 241 => 122 | 276 => 160 | 277 => 161 | n => n, fun | 31 => 39 | 9 => 9 | 3 => 3 | 4 => 4 | 0 => 0 | 20 => 20 | 72 => 140 | 76 => 144 | 70 => 137 | 37 => 138 | 75 => 143 | 127 => 189 | 164 => 221 | 5 => 5 | 80 => 146 | n => n, fun | n => n⟩
theorem Tryz.join : Go.Proofs.Lays.n156 Tryz.prog Tryz.join_ren := {
  mixed := by kernel_rfl
  f156 := Tryz.func49.trans (congrArg some (by kernel_rfl))
  f165 := Tryz.func78.trans (congrArg some (by kernel_rfl))
  f166 := Tryz.func79.trans (congrArg some (by kernel_rfl))
  f169 := Tryz.func80.trans (congrArg some (by kernel_rfl))
  f240 := Tryz.func121.trans (congrArg some (by kernel_rfl))
  f241 := Tryz.func122.trans (congrArg some (by kernel_rfl))
  f276 := Tryz.func160.trans (congrArg some (by kernel_rfl))
  f277 := Tryz.func161.trans (congrArg some (by kernel_rfl))
  t0 := Tryz.underlying0
  a0 := Tryz.isAgg0
  z0 := Tryz.sizeOf0
  v0 := Tryz.zeroValue0
  t3 := Tryz.underlying3
  a3 := Tryz.isAgg3
  z3 := Tryz.sizeOf3
  v3 := Tryz.zeroValue3
  t4 := Tryz.underlying4
  a4 := Tryz.isAgg4
  z4 := Tryz.sizeOf4
  v4 := Tryz.zeroValue4
  t9 := Tryz.underlying9
  a9 := Tryz.isAgg9
  z9 := Tryz.sizeOf9
  v9 := Tryz.zeroValue9
  t20 := Tryz.underlying20
  a20 := Tryz.isAgg20
  z20 := Tryz.sizeOf20
  v20 := Tryz.zeroValue20
  t31 := Tryz.underlying39
  a31 := Tryz.isAgg39
  z31 := Tryz.sizeOf39
  v31 := Tryz.zeroValue39
  t37 := Tryz.underlying138
  a37 := Tryz.isAgg138
  z37 := Tryz.sizeOf138
  v37 := Tryz.zeroValue138
  t70 := Tryz.underlying137
  a70 := Tryz.isAgg137
  z70 := Tryz.sizeOf137
  v70 := Tryz.zeroValue137
  t72 := Tryz.underlying140
  a72 := Tryz.isAgg140
  z72 := Tryz.sizeOf140
  v72 := Tryz.zeroValue140
  t75 := Tryz.underlying143
  a75 := Tryz.isAgg143
  z75 := Tryz.sizeOf143
  v75 := Tryz.zeroValue143
  t76 := Tryz.underlying144
  a76 := Tryz.isAgg144
  z76 := Tryz.sizeOf144
  v76 := Tryz.zeroValue144
  t127 := Tryz.underlying189
  a127 := Tryz.isAgg189
  z127 := Tryz.sizeOf189
  v127 := Tryz.zeroValue189
  t164 := Tryz.underlying221
  a164 := Tryz.isAgg221
  z164 := Tryz.sizeOf221
  v164 := Tryz.zeroValue221 }
theorem Tryz.joinX : Builder.Extra Tryz.prog Tryz.join_ren := {
  sizeBuilder := by kernel_rfl
  liesBuilder := by kernel_rfl
  t5 := by kernel_rfl
  a5 := fun _ => by kernel_rfl
  z5 := fun _ => by kernel_rfl
  v5 := fun _ => by kernel_rfl
  infoByte := by kernel_rfl
  cellsByte := by kernel_rfl
  sizeByte := by kernel_rfl
  neB5 := by decide }
end Go.Proofs
/- The parser's method table, as a Lean function of the state that the receiver reads as. Conditions: the receiver is a parser in memory; the text has at most 2000 bytes; the package variables that strconv and the policies read are as their initialisers lay them. -/
namespace Go.Proofs.YthmlndmlnlfhnaaGreatDoor
open Go.RowKit Go.Shelf

theorem below_put5 (w : World) (b : Nat) (x y z u v : Value) : Below b w (((((w.setCell ⟨b, 0, none⟩ x).setCell ⟨b, 1, none⟩ y).setCell ⟨b, 2, none⟩ z).setCell ⟨b, 3, none⟩ u).setCell ⟨b, 4, none⟩ v) :=
  ((((below_set ..).trans (below_set ..)).trans (below_set ..)).trans (below_set ..)).trans (below_set ..)
end Go.Proofs.YthmlndmlnlfhnaaGreatDoor
/- text.GoodDomain and text.Parse, as Lean functions of what their arguments read as. Conditions: the text has at most 2^47 bytes; the package variables that strconv and the policies read are as their initialisers lay them. -/
namespace Go.Proofs.YthmlndmlnlfhnaaGreatDoor
open Go.RowKit Go.Shelf

def put5 (w : World) (b : Nat) (x y z u v : Value) : World := ((((w.setCell ⟨b, 0, none⟩ x).setCell ⟨b, 1, none⟩ y).setCell ⟨b, 2, none⟩ z).setCell ⟨b, 3, none⟩ u).setCell ⟨b, 4, none⟩ v
end Go.Proofs.YthmlndmlnlfhnaaGreatDoor
/- store.copyCells, copyTable, copyBook and copySession: what they return lies in new memory alone. Conditions: the argument reads as lists in old memory that fit into 2^47 bytes. -/
namespace Go.Proofs.YthmlndmlnlfhnaaGreatDoor
open Go.RowKit Go.Shelf

theorem below_moreS {A B : Nat} {a b c : World} (h : Below A a b) (h' : Below B b c) (hAB : A ≤ B) : Below A a c := h.trans (h'.mono hAB)
end Go.Proofs.YthmlndmlnlfhnaaGreatDoor
/- store.drop and store.put. Condition: the store lies as StoreM says. -/
namespace Go.Proofs.YthmlndmlnlfhnaaGreatDoor
open Go.RowKit Go.Shelf

theorem ret_reply {fn : Func} {p : Tmp} {tmps : Array Value} {W : World} {b : Nat} {x y z u v : Value} (h : fn.results = #[.cell p 30]) (hp : tmps.getD p undef = .pointer (some ⟨b, 0, none⟩)) (ht : Cs W b [x, y, z, u, v]) :
    (results fn tmps).run Tryz.prog W = .ok (.agg #[x, y, z, u, v]) W := by
  have q0 := ht.at 0 rfl
  have q1 := ht.at 1 rfl
  have q2 := ht.at 2 rfl
  have q3 := ht.at 3 rfl
  have q4 := ht.at 4 rfl
  have hp' : tmps[p]?.getD undef = .pointer (some ⟨b, 0, none⟩) := by simpa using hp
  simp [results, h, hp', go_sem, q0, q1, q2, q3, q4]
/-- the reply's block, as it is made -/
abbrev zeroRL : List Value := [.int .i64 0, .int .i64 0, .string ⟨#[]⟩, .slice none 0 0, .slice none 0 0]
theorem put5_cs {w : World} {b : Nat} {a1 a2 a3 a4 a5 : Value} (h : Cs w b [a1, a2, a3, a4, a5]) (x y z u v : Value) : Cs (put5 w b x y z u v) b [x, y, z, u, v] :=
  ((((h.set 0 (by simp) x).set 1 (by simp) y).set 2 (by simp) z).set 3 (by simp) u).set 4 (by simp) v
end Go.Proofs.YthmlndmlnlfhnaaGreatDoor
/- store.New, copySession, the methods Session and States; how actions and replies lie in rows. Condition: the store lies as StoreM says. -/
namespace Go.Proofs.YthmlndmlnlfhnaaGreatDoor
open Go.RowKit Go.Shelf

/- actions and replies in rows -/
def Enc.act : Enc ActD where
  size := 5
  rd w S a cs := ∃ vi, cs = [.int .i64 a.kind, .int .i64 a.n, .string a.name, .string a.text, vi] ∧ Sl Enc.int w S a.inp vi
  len := fun ⟨_, h, _⟩ => by subst h; rfl
  keep := fun ⟨vi, h, h1⟩ hk => ⟨vi, h, h1.keep hk⟩
  more := fun ⟨vi, h, h1⟩ hS => ⟨vi, h, h1.more hS⟩
  one := fun ⟨vi, h, h1⟩ u hu => by
    obtain ⟨A, c, rfl, _⟩ := h1
    subst h
    simp at hu
    rcases hu with rfl | rfl | rfl | rfl | rfl <;> rfl
def ActAt (w : World) (S : Nat → Prop) (a : ActD) (v : Value) : Prop := ∃ vi, v = .agg #[.int .i64 a.kind, .int .i64 a.n, .string a.name, .string a.text, vi] ∧ Sl Enc.int w S a.inp vi
/- a new store -/
/- sessions -/
def put7 (w : World) (b : Nat) (x0 x1 x2 x3 x4 x5 x6 : Value) : World :=
  ((((((w.setCell ⟨b, 0, none⟩ x0).setCell ⟨b, 1, none⟩ x1).setCell ⟨b, 2, none⟩ x2).setCell ⟨b, 3, none⟩ x3).setCell ⟨b, 4, none⟩ x4).setCell ⟨b, 5, none⟩ x5).setCell ⟨b, 6, none⟩ x6
theorem put7_cs {w : World} {b : Nat} {a0 a1 a2 a3 a4 a5 a6 : Value} (h : Cs w b [a0, a1, a2, a3, a4, a5, a6]) (x0 x1 x2 x3 x4 x5 x6 : Value) : Cs (put7 w b x0 x1 x2 x3 x4 x5 x6) b [x0, x1, x2, x3, x4, x5, x6] :=
  ((((((h.set 0 (by simp) x0).set 1 (by simp) x1).set 2 (by simp) x2).set 3 (by simp) x3).set 4 (by simp) x4).set 5 (by simp) x5).set 6 (by simp) x6
theorem below_put7 (w : World) (b : Nat) (x0 x1 x2 x3 x4 x5 x6 : Value) : Below b w (put7 w b x0 x1 x2 x3 x4 x5 x6) :=
  ((((((below_set ..).trans (below_set ..)).trans (below_set ..)).trans (below_set ..)).trans (below_set ..)).trans (below_set ..)).trans (below_set ..)
theorem ret_sess {fn : Func} {p : Tmp} {tmps : Array Value} {W : World} {b : Nat} {x0 x1 x2 x3 x4 x5 x6 : Value} (h : fn.results = #[.cell p 41]) (hp : tmps.getD p undef = .pointer (some ⟨b, 0, none⟩)) (ht : Cs W b [x0, x1, x2, x3, x4, x5, x6]) :
    (results fn tmps).run Tryz.prog W = .ok (.agg #[x0, x1, x2, x3, x4, x5, x6]) W := by
  have q0 := ht.at 0 rfl
  have q1 := ht.at 1 rfl
  have q2 := ht.at 2 rfl
  have q3 := ht.at 3 rfl
  have q4 := ht.at 4 rfl
  have q5 := ht.at 5 rfl
  have q6 := ht.at 6 rfl
  have hp' : tmps[p]?.getD undef = .pointer (some ⟨b, 0, none⟩) := by simpa using hp
  simp [results, h, hp', go_sem, q0, q1, q2, q3, q4, q5, q6]

end Go.Proofs.YthmlndmlnlfhnaaGreatDoor
/- Arguments that are actions and lists of actions read as Lean data. No condition. -/
namespace Go.Proofs.YthmlndmlnlfhnaaGreatDoor
open Go.ChangeShapes Go.WideShapes Go.ChangeAt Go.RowKit Go.Deep

def fitAct (a : ActD) : Prop := a.name.size ≤ reachBytes ∧ a.text.size ≤ reachBytes ∧ fitInts a.inp
abbrev ActP := Int × Int × ByteArray × ByteArray × List Int
def ActD.of (y : ActP) : ActD := ⟨y.1, y.2.1, y.2.2.1, y.2.2.2.1, y.2.2.2.2⟩
def Enc.actP : Enc ActP := Enc.int.pair (Enc.int.pair (Enc.str.pair (Enc.str.pair Enc.int.slice)))
theorem Enc.act_of {w : World} {S : Nat → Prop} {y : ActP} {cs : List Value} (h : Enc.actP.rd w S y cs) : Enc.act.rd w S (ActD.of y) cs := by
  obtain ⟨c1, _, rfl, h1, c2, _, rfl, h2, c3, _, rfl, h3, c4, _, rfl, h4, v, rfl, h5⟩ := h
  have h1' : c1 = [.int .i64 y.1] := h1
  have h2' : c2 = [.int .i64 y.2.1] := h2
  have h3' : c3 = [.string y.2.2.1] := h3
  have h4' : c4 = [.string y.2.2.2.1] := h4
  subst h1' h2' h3' h4'
  exact ⟨v, rfl, h5⟩
theorem opensActP {fs : Array Field} (hu : Tryz.prog.underlying 24 = some (.struct fs)) {f0 f1 f2 f3 f4 : Field} (hf : fs = #[f0, f1, f2, f3, f4]) (o0 : f0.offset = 0) (o1 : f1.offset = 1) (o2 : f2.offset = 2) (o3 : f3.offset = 3) (o4 : f4.offset = 4)
    (t0 : f0.type = 3) (t1 : f1.type = 3) (t2 : f2.type = 9) (t3 : f3.type = 9) (t4 : f4.type = 22) : Opens Tryz.prog Enc.act 24 fitAct := by
  have h := opens_struct (E := Enc.actP) (t := 24) hu (by kernel_rfl) (by
    rw [hf]
    exact opensF_cons (off := 0) o0 (by rw [t0]; kernel_rfl) (by rw [t0]; exact opens_int Tryz.underlying3) (opensF_cons o1 (by rw [t1]; kernel_rfl) (by rw [t1]; exact opens_int Tryz.underlying3) (opensF_cons o2 (by rw [t2]; kernel_rfl) (by rw [t2]; exact opens_str Tryz.underlying9)
      (opensF_cons o3 (by rw [t3]; kernel_rfl) (by rw [t3]; exact opens_str Tryz.underlying9) (opensF_one o4 (by rw [t4]; kernel_rfl) (by rw [t4]; exact opensInts))))))
  intro H enc W base spare held fuel cs x h1 h2
  obtain ⟨y, hy, _, _, f2, f3, f4⟩ := h H enc W base spare held fuel cs x h1 h2
  exact ⟨ActD.of y, Enc.act_of hy, f2, f3, f4⟩
set_option maxRecDepth 100000 in
theorem opensAct : Opens Tryz.prog Enc.act 24 fitAct := opensActP Tryz.underlying24 rfl rfl rfl rfl rfl rfl rfl rfl rfl rfl rfl
set_option maxRecDepth 100000 in
/-- an argument that is an action -/
theorem openAct {H : Type} {enc : TypeId × Value → H} {W : World} {base b0 : Nat} {spare : Nat → Bool} {held : Bool} {r : Reach} {v : Value} {d : DataW H} {p : List MemPlace} (hv : Value.okWide Tryz.prog W r b0 24 v)
    (h : DataW.Trod enc Tryz.prog W base spare held 24 v d p) {ts : List TypeId} {ds : List (DataW H)} (hsz : (DataW.weightsEach Tryz.prog ts ds).all (· ≤ reachBytes) = true) {j : Nat} (ht : ts[j]? = some 24) (hd : ds[j]? = some d) :
    ∃ a, ActAt W (Old W) a v ∧ fitAct a := by
  obtain ⟨cs, rfl, _⟩ := okWide_struct Tryz.underlying24 hv
  obtain ⟨fuel, hf⟩ := h
  have hf' : DataW.trod enc Tryz.prog W base spare held fuel 24 cs.toList = some (d, p) := hf
  obtain ⟨a, ha, hy⟩ := opensAct H enc W base spare held fuel _ _ hf' (fun n hn => by simpa using List.all_eq_true.1 hsz _ (DataW.weights_mem_each ht hd n hn))
  obtain ⟨vi, e, h1⟩ := ha
  refine ⟨a, ⟨vi, ?_, h1⟩, hy⟩
  have : cs = [.int .i64 a.kind, .int .i64 a.n, .string a.name, .string a.text, vi].toArray := by rw [← e]
  rw [this]

end Go.Proofs.YthmlndmlnlfhnaaGreatDoor
/- ratebooklaw.StoreNil returns true. Conditions: the action's input reads as a list in old memory. Its parts: what Do, States and Session answer at a nil store; ratebookref.SameReply and ratebookref.SameSession at empty replies and sessions. -/
namespace Go.Proofs.YthmlndmlnlfhnaaGreatDoor
open Go.RowKit Go.Shelf

set_option maxRecDepth 100000 in
set_option maxHeartbeats 1000000 in
theorem do_nil (a : ActD) (v : Value) (w : World) (S : Nat → Prop) (h : ActAt w S a v) :
    Calls Tryz.prog 15 #[.pointer none, v] w fun e w' => e = .returned (.agg #[.int .i64 3, .int .i64 0, .string ⟨#[]⟩, .slice none 0 0, .slice none 0 0]) ∧ Below w.heap.size w w' := by
  obtain ⟨vi, rfl, hi⟩ := h
  obtain ⟨A, c, rfl, -, -⟩ := hi.form
  clear hi
  have hb0 := below_al w (.cells #[.int .i64 a.kind, .int .i64 a.n, .string a.name, .string a.text, .slice A a.inp.length c] 24)
  have hz0 : (w.alloc (.cells #[.int .i64 a.kind, .int .i64 a.n, .string a.name, .string a.text, .slice A a.inp.length c] 24)).heap.size = w.heap.size + 1 := by simp
  generalize hw0 : w.alloc (.cells #[.int .i64 a.kind, .int .i64 a.n, .string a.name, .string a.text, .slice A a.inp.length c] 24) = w0 at *
  have hb1 := below_al w0 (.cells #[.int .i64 0, .int .i64 0, .string ⟨#[]⟩, .slice none 0 0, .slice none 0 0] 30)
  have C1 := Lib.hid (Cs.new w0 zeroRL 30)
  change Hid (Cs (w0.alloc (.cells #[.int .i64 0, .int .i64 0, .string ⟨#[]⟩, .slice none 0 0, .slice none 0 0] 30)) _ _) at C1
  rw [hz0] at C1
  have hb01 := bx hb0 hb1
  generalize hw1 : w0.alloc (.cells #[.int .i64 0, .int .i64 0, .string ⟨#[]⟩, .slice none 0 0, .slice none 0 0] 30) = w1 at *
  have r0 := C1.out.at 0 rfl
  have r1 := C1.out.at 1 rfl
  have r2 := C1.out.at 2 rfl
  have r3 := C1.out.at 3 rfl
  have r4 := C1.out.at 4 rfl
  have f0 := C1.out.2.2 0 (by simp)
  have f1 := C1.out.2.2 1 (by simp)
  have f2 := C1.out.2.2 2 (by simp)
  have f3 := C1.out.2.2 3 (by simp)
  have f4 := C1.out.2.2 4 (by simp)
  go_enter Tryz.func15, Tryz.ntmps15
  go_wp2
  (try simp only [Exit.inBlock, Exit.then])
  refine bodyPost_ret (ret_reply (b := w.heap.size + 1) rfl rfl (put5_cs C1.out _ _ _ _ _)) rfl ⟨rfl, ?_⟩
  exact below_moreS hb01 (below_put5 _ _ _ _ _ _ _) (by omega)

theorem states_nil (w : World) : Calls Tryz.prog 16 #[.pointer none] w fun e w' => e = .returned (.slice none 0 0) ∧ Below w.heap.size w w' := by
  go_enter Tryz.func16, Tryz.ntmps16
  go_wp2
  go_ret
  exact ⟨rfl, Below.refl _ _⟩

set_option maxRecDepth 100000 in
set_option maxHeartbeats 1000000 in
theorem session_nil (n : Int) (w : World) : Calls Tryz.prog 18 #[.pointer none, .int .i64 n] w fun e w' => e = .returned (.agg #[.bool false, .bool false, .int .i64 0, .slice none 0 0, .slice none 0 0, .slice none 0 0, .slice none 0 0]) ∧ Below w.heap.size w w' := by
  have hb1 := below_al w (.cells #[.bool false, .bool false, .int .i64 0, .slice none 0 0, .slice none 0 0, .slice none 0 0, .slice none 0 0] 41)
  have C1 := Lib.hid (Cs.new w [.bool false, .bool false, .int .i64 0, .slice none 0 0, .slice none 0 0, .slice none 0 0, .slice none 0 0] 41)
  change Hid (Cs (w.alloc (.cells #[.bool false, .bool false, .int .i64 0, .slice none 0 0, .slice none 0 0, .slice none 0 0, .slice none 0 0] 41)) _ _) at C1
  generalize hw1 : w.alloc (.cells #[.bool false, .bool false, .int .i64 0, .slice none 0 0, .slice none 0 0, .slice none 0 0, .slice none 0 0] 41) = w1 at *
  have r0 := C1.out.at 0 rfl
  have r1 := C1.out.at 1 rfl
  have r2 := C1.out.at 2 rfl
  have r3 := C1.out.at 3 rfl
  have r4 := C1.out.at 4 rfl
  have r5 := C1.out.at 5 rfl
  have r6 := C1.out.at 6 rfl
  have f0 := C1.out.2.2 0 (by simp)
  have f1 := C1.out.2.2 1 (by simp)
  have f2 := C1.out.2.2 2 (by simp)
  have f3 := C1.out.2.2 3 (by simp)
  have f4 := C1.out.2.2 4 (by simp)
  have f5 := C1.out.2.2 5 (by simp)
  have f6 := C1.out.2.2 6 (by simp)
  go_enter Tryz.func18, Tryz.ntmps18
  go_wp2
  (try simp only [Exit.inBlock, Exit.then])
  refine bodyPost_ret (ret_sess (b := w.heap.size) rfl rfl (put7_cs C1.out _ _ _ _ _ _ _)) rfl ⟨rfl, ?_⟩
  exact below_moreS hb1 (below_put7 _ _ _ _ _ _ _ _ _) (Nat.le_refl _)

set_option maxHeartbeats 1000000 in
theorem ref_SameAnswers0 (w : World) : Calls Tryz.prog 40 #[.slice none 0 0, .slice none 0 0] w fun e w' => e = .returned (.bool true) ∧ Below w.heap.size w w' := by
  go_enter Tryz.func40, Tryz.ntmps40
  go_wp2
  go_loopw [13] (fun i wr => i = .int .i64 0 ∧ wr = w) (fun i _ => 0)
  case atStart => exact ⟨rfl, rfl⟩
  case round =>
    obtain ⟨rfl, rfl⟩ := hrel
    go_wp2
    go_ret
    exact ⟨rfl, Below.refl _ _⟩
set_option maxHeartbeats 1000000 in
theorem ref_SameNumbers0 (w : World) : Calls Tryz.prog 41 #[.slice none 0 0, .slice none 0 0] w fun e w' => e = .returned (.bool true) ∧ Below w.heap.size w w' := by
  go_enter Tryz.func41, Tryz.ntmps41
  go_wp2
  go_loopw [13] (fun i wr => i = .int .i64 0 ∧ wr = w) (fun i _ => 0)
  case atStart => exact ⟨rfl, rfl⟩
  case round =>
    obtain ⟨rfl, rfl⟩ := hrel
    go_wp2
    go_ret
    exact ⟨rfl, Below.refl _ _⟩

set_option maxRecDepth 100000 in
set_option maxHeartbeats 1000000 in
theorem ref_SameReply3 (w : World) : Calls Tryz.prog 14 #[.agg #[.int .i64 3, .int .i64 0, .string ⟨#[]⟩, .slice none 0 0, .slice none 0 0], .agg #[.int .i64 3, .int .i64 0, .string ⟨#[]⟩, .slice none 0 0, .slice none 0 0]] w fun e w' => e = .returned (.bool true) ∧ Below w.heap.size w w' := by
  have hb0 := below_al w (.cells #[.int .i64 3, .int .i64 0, .string ⟨#[]⟩, .slice none 0 0, .slice none 0 0] 30)
  have C0 := Lib.hid (Cs.new w [.int .i64 3, .int .i64 0, .string ⟨#[]⟩, .slice none 0 0, .slice none 0 0] 30)
  have hz0 : (w.alloc (.cells #[.int .i64 3, .int .i64 0, .string ⟨#[]⟩, .slice none 0 0, .slice none 0 0] 30)).heap.size = w.heap.size + 1 := by simp
  change Hid (Cs (w.alloc (.cells #[.int .i64 3, .int .i64 0, .string ⟨#[]⟩, .slice none 0 0, .slice none 0 0] 30)) _ _) at C0
  generalize hw0 : w.alloc (.cells #[.int .i64 3, .int .i64 0, .string ⟨#[]⟩, .slice none 0 0, .slice none 0 0] 30) = w0 at *
  have hb1 := below_al w0 (.cells #[.int .i64 3, .int .i64 0, .string ⟨#[]⟩, .slice none 0 0, .slice none 0 0] 30)
  have C1 := Lib.hid (Cs.new w0 [.int .i64 3, .int .i64 0, .string ⟨#[]⟩, .slice none 0 0, .slice none 0 0] 30)
  change Hid (Cs (w0.alloc (.cells #[.int .i64 3, .int .i64 0, .string ⟨#[]⟩, .slice none 0 0, .slice none 0 0] 30)) _ _) at C1
  rw [hz0] at C1
  have C01 := Lib.hid (C0.out.next hb1)
  have hb01 := bx hb0 hb1
  generalize hw1 : w0.alloc (.cells #[.int .i64 3, .int .i64 0, .string ⟨#[]⟩, .slice none 0 0, .slice none 0 0] 30) = w1 at *
  have k0 := C01.out.at 0 rfl
  have k1 := C01.out.at 1 rfl
  have k2 := C01.out.at 2 rfl
  have k3 := C01.out.at 3 rfl
  have l0 := C1.out.at 0 rfl
  have l1 := C1.out.at 1 rfl
  have l2 := C1.out.at 2 rfl
  have l3 := C1.out.at 3 rfl
  go_enter Tryz.func14, Tryz.ntmps14
  go_wp2_with fail
  clear k0 k1 k2 k3 l0 l1 l2 l3
  refine (ref_SameAnswers0 _).mono ?_
  rintro e w2 ⟨rfl, hb2⟩
  have hb02 := bx hb01 hb2
  have k4 := (C01.out.next hb2).at 4 rfl
  have l4 := (C1.out.next hb2).at 4 rfl
  go_wp2_with fail
  refine (ref_SameNumbers0 _).mono ?_
  rintro e w3 ⟨rfl, hb3⟩
  go_wp2
  go_ret
  exact ⟨rfl, bx hb02 hb3⟩

theorem ref_Join0 (w : World) : Calls Tryz.prog 49 #[.slice none 0 0, .string ⟨#[44]⟩] w fun e w' => e = .returned (.string ⟨#[]⟩) ∧ Below w.heap.size w w' :=
  (Any.strings_Join_none Tryz.join Tryz.joinX none 0 ⟨#[44]⟩ w).mono fun _ _ ⟨he, hw⟩ => ⟨he, hw ▸ Below.refl _ _⟩

set_option maxRecDepth 100000 in
set_option maxHeartbeats 1000000 in
theorem ref_SameBook0 (w : World) : Calls Tryz.prog 48 #[.agg #[.slice none 0 0, .slice none 0 0], .agg #[.slice none 0 0, .slice none 0 0]] w fun e w' => e = .returned (.bool true) ∧ Below w.heap.size w w' := by
  have hb0 := below_al w (.cells #[.slice none 0 0, .slice none 0 0] 38)
  have C0 := Lib.hid (Cs.new w [.slice none 0 0, .slice none 0 0] 38)
  have hz0 : (w.alloc (.cells #[.slice none 0 0, .slice none 0 0] 38)).heap.size = w.heap.size + 1 := by simp
  change Hid (Cs (w.alloc (.cells #[.slice none 0 0, .slice none 0 0] 38)) _ _) at C0
  generalize hw0 : w.alloc (.cells #[.slice none 0 0, .slice none 0 0] 38) = w0 at *
  have hb1 := below_al w0 (.cells #[.slice none 0 0, .slice none 0 0] 38)
  have C1 := Lib.hid (Cs.new w0 [.slice none 0 0, .slice none 0 0] 38)
  change Hid (Cs (w0.alloc (.cells #[.slice none 0 0, .slice none 0 0] 38)) _ _) at C1
  rw [hz0] at C1
  have C01 := Lib.hid (C0.out.next hb1)
  have hb01 := bx hb0 hb1
  generalize hw1 : w0.alloc (.cells #[.slice none 0 0, .slice none 0 0] 38) = w1 at *
  have k0 := C01.out.at 0 rfl
  have k1 := C01.out.at 1 rfl
  have l0 := C1.out.at 0 rfl
  have l1 := C1.out.at 1 rfl
  go_enter Tryz.func48, Tryz.ntmps48
  go_wp2
  go_loopw [26] (fun i wr => i = .int .i64 0 ∧ wr = w1) (fun i _ => 0)
  case atStart => exact ⟨rfl, rfl⟩
  case round =>
    obtain ⟨rfl, rfl⟩ := hrel
    go_wp2
    go_loopw [44] (fun i w2 => i = .int .i64 0 ∧ w2 = wr) (fun i _ => 0)
    case atStart => exact ⟨rfl, rfl⟩
    case round =>
      obtain ⟨rfl, rfl⟩ := hrel
      go_wp2
      go_ret
      exact ⟨rfl, hb01⟩

set_option maxRecDepth 100000 in
set_option maxHeartbeats 2000000 in
theorem ref_SameSession0 (w : World) : Calls Tryz.prog 17 #[.agg #[.bool false, .bool false, .int .i64 0, .slice none 0 0, .slice none 0 0, .slice none 0 0, .slice none 0 0], .agg #[.bool false, .bool false, .int .i64 0, .slice none 0 0, .slice none 0 0, .slice none 0 0, .slice none 0 0]] w fun e w' => e = .returned (.bool true) ∧ Below w.heap.size w w' := by
  have hb0 := below_al w (.cells #[.bool false, .bool false, .int .i64 0, .slice none 0 0, .slice none 0 0, .slice none 0 0, .slice none 0 0] 41)
  have C0 := Lib.hid (Cs.new w [.bool false, .bool false, .int .i64 0, .slice none 0 0, .slice none 0 0, .slice none 0 0, .slice none 0 0] 41)
  have hz0 : (w.alloc (.cells #[.bool false, .bool false, .int .i64 0, .slice none 0 0, .slice none 0 0, .slice none 0 0, .slice none 0 0] 41)).heap.size = w.heap.size + 1 := by simp
  change Hid (Cs (w.alloc (.cells #[.bool false, .bool false, .int .i64 0, .slice none 0 0, .slice none 0 0, .slice none 0 0, .slice none 0 0] 41)) _ _) at C0
  generalize hw0 : w.alloc (.cells #[.bool false, .bool false, .int .i64 0, .slice none 0 0, .slice none 0 0, .slice none 0 0, .slice none 0 0] 41) = w0 at *
  have hb1 := below_al w0 (.cells #[.bool false, .bool false, .int .i64 0, .slice none 0 0, .slice none 0 0, .slice none 0 0, .slice none 0 0] 41)
  have C1 := Lib.hid (Cs.new w0 [.bool false, .bool false, .int .i64 0, .slice none 0 0, .slice none 0 0, .slice none 0 0, .slice none 0 0] 41)
  change Hid (Cs (w0.alloc (.cells #[.bool false, .bool false, .int .i64 0, .slice none 0 0, .slice none 0 0, .slice none 0 0, .slice none 0 0] 41)) _ _) at C1
  rw [hz0] at C1
  have C01 := Lib.hid (C0.out.next hb1)
  have hb01 := bx hb0 hb1
  generalize hw1 : w0.alloc (.cells #[.bool false, .bool false, .int .i64 0, .slice none 0 0, .slice none 0 0, .slice none 0 0, .slice none 0 0] 41) = w1 at *
  have hsz := hb01.size
  have K : Hid (∀ w2, Below w1.heap.size w1 w2 → (w2.cell? ⟨w.heap.size, 0, none⟩ = some (.bool false) ∧ w2.cell? ⟨w.heap.size, 1, none⟩ = some (.bool false) ∧ w2.cell? ⟨w.heap.size, 2, none⟩ = some (.int .i64 0) ∧ w2.cell? ⟨w.heap.size, 3, none⟩ = some (.slice none 0 0) ∧ w2.cell? ⟨w.heap.size, 4, none⟩ = some (.slice none 0 0) ∧ w2.cell? ⟨w.heap.size, 5, none⟩ = some (.slice none 0 0) ∧ w2.cell? ⟨w.heap.size, 6, none⟩ = some (.slice none 0 0) ∧ w2.cell? ⟨w.heap.size + 1, 0, none⟩ = some (.bool false) ∧ w2.cell? ⟨w.heap.size + 1, 1, none⟩ = some (.bool false) ∧ w2.cell? ⟨w.heap.size + 1, 2, none⟩ = some (.int .i64 0) ∧ w2.cell? ⟨w.heap.size + 1, 3, none⟩ = some (.slice none 0 0) ∧ w2.cell? ⟨w.heap.size + 1, 4, none⟩ = some (.slice none 0 0) ∧ w2.cell? ⟨w.heap.size + 1, 5, none⟩ = some (.slice none 0 0) ∧ w2.cell? ⟨w.heap.size + 1, 6, none⟩ = some (.slice none 0 0))) := fun w2 h2 => ⟨(C01.out.next h2).at 0 rfl, (C01.out.next h2).at 1 rfl, (C01.out.next h2).at 2 rfl, (C01.out.next h2).at 3 rfl, (C01.out.next h2).at 4 rfl, (C01.out.next h2).at 5 rfl, (C01.out.next h2).at 6 rfl, (C1.out.next h2).at 0 rfl, (C1.out.next h2).at 1 rfl, (C1.out.next h2).at 2 rfl, (C1.out.next h2).at 3 rfl, (C1.out.next h2).at 4 rfl, (C1.out.next h2).at 5 rfl, (C1.out.next h2).at 6 rfl⟩
  have E0 := K.out w1 (Below.refl _ _)
  have hbd : Below w1.heap.size w1 w1.drew := (Below.refl _ _).drew
  go_enter Tryz.func17, Tryz.ntmps17
  go_wp2_with fail
  clear hw0 hw1
  go_region_held3 (fun w' => w'.cell? ⟨w.heap.size, 0, none⟩ = some (.bool false) ∧ w'.cell? ⟨w.heap.size, 1, none⟩ = some (.bool false) ∧ w'.cell? ⟨w.heap.size, 2, none⟩ = some (.int .i64 0) ∧ w'.cell? ⟨w.heap.size, 3, none⟩ = some (.slice none 0 0) ∧ w'.cell? ⟨w.heap.size, 4, none⟩ = some (.slice none 0 0) ∧ w'.cell? ⟨w.heap.size, 5, none⟩ = some (.slice none 0 0) ∧ w'.cell? ⟨w.heap.size, 6, none⟩ = some (.slice none 0 0) ∧ w'.cell? ⟨w.heap.size + 1, 0, none⟩ = some (.bool false) ∧ w'.cell? ⟨w.heap.size + 1, 1, none⟩ = some (.bool false) ∧ w'.cell? ⟨w.heap.size + 1, 2, none⟩ = some (.int .i64 0) ∧ w'.cell? ⟨w.heap.size + 1, 3, none⟩ = some (.slice none 0 0) ∧ w'.cell? ⟨w.heap.size + 1, 4, none⟩ = some (.slice none 0 0) ∧ w'.cell? ⟨w.heap.size + 1, 5, none⟩ = some (.slice none 0 0) ∧ w'.cell? ⟨w.heap.size + 1, 6, none⟩ = some (.slice none 0 0)) (first | exact E0 | exact E2 | exact E3 | exact E4 | exact E5 | exact E6)
    (first
     | (go_at_call 48; refine (ref_SameBook0 _).mono ?_; rintro e w2 ⟨rfl, hb2'⟩; have hb2 : Below w1.heap.size w1 w2 := undrew hb2'; have E2 := K.out w2 hb2; clear E0 hb2')
     | (have qq := E2; clear E2; go_at_call 49; refine (ref_Join0 _).mono ?_; rintro e w3 ⟨rfl, hb3'⟩; have hb3 : Below w1.heap.size w1 w3 := bx hb2 hb3'; have E3 := K.out w3 hb3; clear qq hb3')
     | (have qq := E3; clear E3; go_at_call 49; refine (ref_Join0 _).mono ?_; rintro e w4 ⟨rfl, hb4'⟩; have hb4 : Below w1.heap.size w1 w4 := bx hb3 hb4'; have E4 := K.out w4 hb4; clear qq hb4')
     | (have qq := E4; clear E4; go_at_call 49; refine (ref_Join0 _).mono ?_; rintro e w5 ⟨rfl, hb5'⟩; have hb5 : Below w1.heap.size w1 w5 := bx hb4 hb5'; have E5 := K.out w5 hb5; clear qq hb5')
     | (have qq := E5; clear E5; go_at_call 49; refine (ref_Join0 _).mono ?_; rintro e w6 ⟨rfl, hb6'⟩; have hb6 : Below w1.heap.size w1 w6 := bx hb5 hb6'; have E6 := K.out w6 hb6; clear qq hb6'))
  all_goals
    go_wp2
    go_ret
    exact ⟨rfl, bx hb01 hb6⟩

set_option maxRecDepth 100000 in
set_option maxHeartbeats 1000000 in
theorem law_StoreNil (a : ActD) (v : Value) (n : Int) (w : World) (S : Nat → Prop) (h : ActAt w S a v) (hS : ∀ k, S k → k < w.heap.size) :
    Calls Tryz.prog 3 #[v, .int .i64 n] w fun e w' => e = .returned (.bool true) ∧ Below w.heap.size w w' := by
  obtain ⟨vi, rfl, hi⟩ := h
  have HI := Lib.hid hi
  obtain ⟨A, c, rfl, -, -⟩ := hi.form
  clear hi
  have hb0 := below_al w (.cells #[.int .i64 a.kind, .int .i64 a.n, .string a.name, .string a.text, .slice A a.inp.length c] 24)
  have C0 := Lib.hid (Cs.new w [.int .i64 a.kind, .int .i64 a.n, .string a.name, .string a.text, .slice A a.inp.length c] 24)
  change Hid (Cs (w.alloc (.cells #[.int .i64 a.kind, .int .i64 a.n, .string a.name, .string a.text, .slice A a.inp.length c] 24)) _ _) at C0
  have HA : Hid (ActAt (w.alloc (.cells #[.int .i64 a.kind, .int .i64 a.n, .string a.name, .string a.text, .slice A a.inp.length c] 24)) S a (.agg #[.int .i64 a.kind, .int .i64 a.n, .string a.name, .string a.text, .slice A a.inp.length c])) := ⟨_, rfl, HI.out.keep fun p hp => hb0.cell (hS _ hp)⟩
  generalize hw0 : w.alloc (.cells #[.int .i64 a.kind, .int .i64 a.n, .string a.name, .string a.text, .slice A a.inp.length c] 24) = w0 at *
  have k0 := C0.out.at 0 rfl
  have k1 := C0.out.at 1 rfl
  have k2 := C0.out.at 2 rfl
  have k3 := C0.out.at 3 rfl
  have k4 := C0.out.at 4 rfl
  clear hS
  go_enter Tryz.func3, Tryz.ntmps3
  go_wp2_with fail
  clear k0 k1 k2 k3 k4 hw0
  refine (do_nil a _ _ S HA.out).mono ?_
  rintro e w1 ⟨rfl, hb1⟩
  go_wp2_with fail
  refine (ref_SameReply3 _).mono ?_
  rintro e w2 ⟨rfl, hb2⟩
  go_wp2_with fail
  refine (states_nil _).mono ?_
  rintro e w3 ⟨rfl, hb3⟩
  go_wp2_with fail
  refine (session_nil n _).mono ?_
  rintro e w4 ⟨rfl, hb4⟩
  go_wp2_with fail
  refine (ref_SameSession0 _).mono ?_
  rintro e w5 ⟨rfl, hb5⟩
  go_wp2
  go_ret
  exact ⟨rfl, bx hb0 (bx hb1 (bx hb2 (bx hb3 (bx hb4 hb5))))⟩

end Go.Proofs.YthmlndmlnlfhnaaGreatDoor
