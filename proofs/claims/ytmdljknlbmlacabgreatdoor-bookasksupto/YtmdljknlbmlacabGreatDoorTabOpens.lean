/- An argument that is a slice of ranges, read as a list of pairs. No condition. Arguments of any shape read as Lean data, layer by layer, with the bounds that the row's own reach gives. No condition. Arguments that are tables read as Lean data. No condition. -/
import Derived.Test.YtmdljknlbmlacabGreatDoorRows
import Derived.Test.YtmdljknlbmlacabGreatDoorMem
import Derived.OpenShut
import Derived.ProofKit
import Derived.SizedLaws
import Derived.Deep.SlicePairs
import Derived.Test.YtmdljknlbmlacabGreatDoorTab
namespace Go.Proofs.YtmdljknlbmlacabGreatDoor
open Go.ChangeShapes Go.WideShapes Go.ChangeAt Go.RowKit Go.Deep

theorem own : ownKnob Tryz.prog.godebug = none := by kernel_rfl
theorem laidOut : laidOutB Tryz.prog = true := by kernel_rfl

theorem addr_zero {w : World} {a : Addr} {v : Value} (h : w.cell? (a.add 0) = some v) : a = ⟨a.block, a.off, none⟩ ∧ a.block < w.heap.size := by
  have e : a.add 0 = a := by unfold Addr.add; simp
  rw [e] at h
  obtain ⟨b, o, s⟩ := a
  have hs := World.cell?_spot h
  simp only at hs
  subst hs
  exact ⟨rfl, World.block_lt_of_cell? w _ h⟩
theorem addr_at {a : Addr} (ha : a = ⟨a.block, a.off, none⟩) (k : Nat) : a.add k = ⟨a.block, a.off + k, none⟩ := by
  unfold Addr.add
  split
  · rename_i h; subst h; exact ha
  · rfl

theorem wf_bounds {n : Int} (h : (Lit.int .i64 n).wf = true) : -9223372036854775808 ≤ n ∧ n ≤ 9223372036854775807 := by
  have h1 : IntKind.i64.min = -9223372036854775808 := rfl
  have h2 : IntKind.i64.max = 9223372036854775807 := rfl
  simp only [Lit.wf, Bool.and_eq_true, decide_eq_true_eq] at h
  omega

theorem open_rngs {H : Type} {enc : TypeId × Value → H} {W : World} {base : Nat} {spare : Nat → Bool} {held : Bool} {a0 : Option Addr} {len cap : Nat} {d : DataW H} {p : List MemPlace}
    (h : DataW.Trod enc Tryz.prog W base spare held 77 (.slice a0 len cap) d p) :
    ∃ l, Sl Enc.rng W (Old W) l (.slice a0 len cap) ∧ ((d = .nil ∧ l = []) ∨ ∃ elems sp, d = .slice elems sp ∧ elems.length = l.length) ∧ ∀ r, r ∈ l → -9223372036854775808 ≤ r.2 := by
  obtain ⟨fuel, hf⟩ := h
  have hf' : DataW.trod enc Tryz.prog W base spare held fuel 77 [.slice a0 len cap] = some (d, p) := by simpa [Value.cells] using hf
  rcases open_slice_pairs Tryz.underlying77 Tryz.underlying107 (by kernel_rfl) rfl rfl (by kernel_rfl) (by kernel_rfl) hf' with ⟨hcs, hx⟩ | ⟨a, len', cap', m, n, V0, V1, D0, D1, P0, P1, hcs, _, hl, hm, hmm, hx, hi⟩
  · simp at hcs hx
    obtain ⟨rfl, rfl, rfl⟩ := hcs
    exact ⟨[], Sl.nil, .inl ⟨hx.1, rfl⟩, fun r hr => by simp at hr⟩
  · simp at hcs hx
    obtain ⟨rfl, rfl, rfl⟩ := hcs
    have hlm : len ≤ m := by rw [hmm]; split <;> omega
    have hv : ∀ i, i < m → V0 i = .int .i64 (intOf (V0 i)) ∧ V1 i = .int .i64 (intOf (V1 i)) ∧ -9223372036854775808 ≤ intOf (V1 i) := by
      intro i him
      obtain ⟨_, _, t0, t1⟩ := hi i him
      obtain ⟨n0, e0, _⟩ := DataW.trod_int Tryz.underlying3 t0
      obtain ⟨n1, e1, _, wf1⟩ := DataW.trod_int Tryz.underlying3 t1
      simp at e0 e1
      rw [e0, e1]; exact ⟨rfl, rfl, (wf_bounds wf1).1⟩
    refine ⟨(List.range len).map fun i => (intOf (V0 i), intOf (V1 i)), ⟨some a, cap, by simp, by simpa using hl, hm, (fun h => by cases h), fun h0 => ?_⟩, .inr ⟨_, _, hx.1, by simp⟩, fun r hr => ?_⟩
    rotate_left
    · obtain ⟨i, hi', rfl⟩ := List.mem_map.1 hr
      exact (hv i (by have := List.mem_range.1 hi'; omega)).2.2
    have h0' : 0 < len := by simpa using h0
    obtain ⟨ha, hb⟩ := addr_zero (by have := (hi 0 (by omega)).1; rwa [Nat.zero_mul] at this)
    refine ⟨a.block, a.off, by rw [← ha], hb, fun i x hx => ?_⟩
    obtain ⟨hlt, ex⟩ := List.getElem?_eq_some_iff.1 hx
    simp at hlt ex
    subst ex
    refine ⟨_, rfl, fun j u hu => ?_⟩
    obtain ⟨c0, c1, _, _⟩ := hi i (by omega)
    obtain ⟨e0, e1, _⟩ := hv i (by omega)
    rw [addr_at ha, e0] at c0
    rw [addr_at ha, e1] at c1
    match j with
    | 0 => simp at hu; subst hu; exact c0
    | 1 => simp at hu; subst hu; exact c1
    | j + 2 => simp at hu

theorem bytesRange : Tryz.prog.bytesOf 107 = 16 := by kernel_rfl

end Go.Proofs.YtmdljknlbmlacabGreatDoor
namespace Go.Proofs.YtmdljknlbmlacabGreatDoor
open Go.ChangeShapes Go.WideShapes Go.ChangeAt Go.RowKit Go.Deep

/-- whatever reads by the type t reads as a Lean value under E, which is `fit` -/
def Opens {α : Type} (P : Program) (E : Enc α) (t : TypeId) (fit : α → Prop) : Prop :=
  ∀ (H : Type) (enc : TypeId × Value → H) (W : World) (base : Nat) (spare : Nat → Bool) (held : Bool) (fuel : Nat) (cs : List Value) (x : DataW H × List MemPlace),
    DataW.trod enc P W base spare held fuel t cs = some x → (∀ n ∈ x.1.weights P t, n ≤ reachBytes) → ∃ y, E.rd W (Old W) y cs ∧ fit y

theorem weightsAll_mem {H : Type} {P : Program} {e : TypeId} : ∀ {ds : List (DataW H)} {d : DataW H}, d ∈ ds → ∀ n ∈ d.weights P e, n ∈ DataW.weightsAll P e ds
  | d0 :: ds, d, hd, n, hn => by
    simp only [DataW.weightsAll, List.mem_append]
    rcases List.mem_cons.1 hd with rfl | h
    · exact .inl hn
    · exact .inr (weightsAll_mem h n hn)

def in64 (n : Int) : Prop := -9223372036854775808 ≤ n ∧ n ≤ 9223372036854775807
theorem opens_int {P : Program} {t : TypeId} (ht : P.underlying t = some (.int .i64)) : Opens P Enc.int t in64 := by
  intro H enc W base spare held fuel cs x h _
  obtain ⟨n, e, _, wf⟩ := DataW.trod_int ht h
  exact ⟨n, e, wf_bounds wf⟩
theorem opens_bool {P : Program} {t : TypeId} (ht : P.underlying t = some .bool) : Opens P Enc.bool t (fun _ => True) := by
  intro H enc W base spare held fuel cs x h _
  obtain ⟨b, e, _⟩ := DataW.trod_bool ht h
  exact ⟨b, e, trivial⟩
theorem opens_str {P : Program} {t : TypeId} (ht : P.underlying t = some .string) : Opens P Enc.str t (fun s => s.size ≤ reachBytes) := by
  intro H enc W base spare held fuel cs x h hw
  obtain ⟨s, e, e2, _⟩ := DataW.trod_string ht h
  refine ⟨s, e, ?_⟩
  subst e2
  simpa [DataW.weights] using hw s.data.toList.length (by simp [DataW.weights])
theorem opens_rng {P : Program} {t i : TypeId} {f0 f1 : Field} (ht : P.underlying t = some (.struct #[f0, f1])) (hc : P.cellsOf t = 2) (o0 : f0.offset = 0) (o1 : f1.offset = 1) (c0 : P.cellsOf f0.type = 1) (c1 : P.cellsOf f1.type = 1) (t0 : f0.type = i) (t1 : f1.type = i)
    (hi : P.underlying i = some (.int .i64)) : Opens P Enc.rng t (fun r => in64 r.1 ∧ in64 r.2) := by
  intro H enc W base spare held fuel cs x h _
  obtain ⟨xs, n, _, _, hl, hxl, hf⟩ := DataW.trod_struct ht h
  rw [hc] at hl
  have g0 := hf 0 f0 rfl
  have g1 := hf 1 f1 rfl
  rw [o0, c0, t0] at g0
  rw [o1, c1, t1] at g1
  have hxs : xs.length = 2 := by simpa using hxl
  match xs, hxs, cs, hl with
  | [x0, x1], _, [v0, v1], _ =>
    simp at g0 g1
    obtain ⟨n0, e0, _, wf0⟩ := DataW.trod_int hi g0
    obtain ⟨n1, e1, _, wf1⟩ := DataW.trod_int hi g1
    simp at e0 e1
    subst e0 e1
    exact ⟨(n0, n1), rfl, wf_bounds wf0, wf_bounds wf1⟩

theorem opens_slice {α : Type} [Inhabited α] {P : Program} {E : Enc α} {t e : TypeId} {fit : α → Prop} (ht : P.underlying t = some (.slice e)) (hc : P.cellsOf e = E.size) (h0 : 0 < E.size) (he : Opens P E e fit) :
    Opens P E.slice t (fun l => l.length * P.bytesOf e ≤ reachBytes ∧ ∀ y, y ∈ l → fit y) := by
  intro H enc W base spare held fuel cs x h hw
  rcases open_slice ht h with ⟨rfl, rfl⟩ | ⟨a, len, cap, m, n, D, Pl, rfl, hb, hl, hm, hmm, rfl, hx⟩
  · exact ⟨[], ⟨_, rfl, Sl.nil⟩, by simp, by simp⟩
  · have hlm : len ≤ m := by rw [hmm]; split <;> omega
    simp only [DataW.weights, ht, List.length_map, List.length_range, List.mem_cons, List.mem_append] at hw
    have hsz := hw _ (.inl rfl)
    have hlen : len * P.bytesOf e ≤ reachBytes := Nat.le_trans (Nat.mul_le_mul_right _ (by omega)) hsz
    have each : ∀ i, i < len → ∃ q : α × List Value, E.rd W (Old W) q.1 q.2 ∧ fit q.1 ∧ ∀ j u, q.2[j]? = some u → W.cell? (a.add (i * E.size + j)) = some u := by
      intro i hi
      obtain ⟨cs', h1, h2⟩ := hx i (by omega)
      obtain ⟨y, hy, hf⟩ := he H enc W base spare held n cs' _ h2 (fun k hk => hw k (.inr (.inl (weightsAll_mem (List.mem_map.2 ⟨i, List.mem_range.2 hi, rfl⟩) k hk))))
      obtain ⟨_, hl', hcell⟩ := World.cells?_some h1
      refine ⟨(y, cs'), hy, hf, fun j u hu => ?_⟩
      have hj : j < cs'.length := (List.getElem?_eq_some_iff.1 hu).1
      have := hcell j (by omega)
      rw [add_add, hc] at this
      rw [this, hu]
    obtain ⟨q, hq⟩ := choose_lt each
    refine ⟨(List.range len).map fun i => (q i).1, ⟨_, rfl, some a, cap, by simp, by simpa using hl, hm, (fun h => by cases h), fun hp => ?_⟩, by simpa using hlen, fun y hy => ?_⟩
    · have hp' : 0 < len := by simpa using hp
      obtain ⟨h1, _, h3⟩ := hq 0 hp'
      have hl0 := E.len h1
      have hc0 := h3 0 ((q 0).2[0]'(by omega)) (List.getElem?_eq_getElem (by omega))
      rw [Nat.zero_mul, Nat.zero_add] at hc0
      obtain ⟨ha, hbk⟩ := addr_zero hc0
      refine ⟨a.block, a.off, by rw [← ha], hbk, fun i y hy => ?_⟩
      obtain ⟨hlt, ex⟩ := List.getElem?_eq_some_iff.1 hy
      simp at hlt ex
      subst ex
      obtain ⟨g1, _, g3⟩ := hq i hlt
      refine ⟨_, g1, fun j u hu => ?_⟩
      have := g3 j u hu
      rw [addr_at ha] at this
      rw [Nat.add_assoc]
      exact this
    · obtain ⟨i, hi, rfl⟩ := List.mem_map.1 hy
      exact (hq i (List.mem_range.1 hi)).2.1

/-- an argument that is a slice -/
theorem Opens.arg {α : Type} {P : Program} {E : Enc α} {t : TypeId} {fit : List α → Prop} (ho : Opens P E.slice t fit) {H : Type} {enc : TypeId × Value → H} {W : World} {base : Nat} {spare : Nat → Bool} {held : Bool} {a0 : Option Addr} {len cap : Nat} {d : DataW H} {p : List MemPlace}
    (h : DataW.Trod enc P W base spare held t (.slice a0 len cap) d p) {ts : List TypeId} {ds : List (DataW H)} (hsz : (DataW.weightsEach P ts ds).all (· ≤ reachBytes) = true) {j : Nat} (ht : ts[j]? = some t) (hd : ds[j]? = some d) :
    ∃ l, Sl E W (Old W) l (.slice a0 len cap) ∧ fit l := by
  obtain ⟨fuel, hf⟩ := h
  have hf' : DataW.trod enc P W base spare held fuel t [.slice a0 len cap] = some (d, p) := by simpa [Value.cells] using hf
  obtain ⟨y, ⟨v, e, hv⟩, hy⟩ := ho H enc W base spare held fuel _ _ hf' (fun n hn => by simpa using List.all_eq_true.1 hsz _ (DataW.weights_mem_each ht hd n hn))
  injection e with e
  subst e
  exact ⟨y, hv, hy⟩

theorem reach47 : reachBytes ≤ 140737488355328 := by decide

def fitRng (r : Int × Int) : Prop := in64 r.1 ∧ in64 r.2
def fitSet (l : List (Int × Int)) : Prop := l.length * 16 ≤ 140737488355328 ∧ ∀ r, r ∈ l → fitRng r
def fitBox (b : List (List (Int × Int))) : Prop := b.length * 24 ≤ 140737488355328 ∧ ∀ s, s ∈ b → fitSet s
def fitBoxes (l : List (List (List (Int × Int)))) : Prop := l.length * 24 ≤ 140737488355328 ∧ ∀ b, b ∈ l → fitBox b
def fitInts (l : List Int) : Prop := l.length * 8 ≤ 140737488355328 ∧ ∀ n, n ∈ l → in64 n
theorem Opens.mono {α : Type} {P : Program} {E : Enc α} {t : TypeId} {fit fit' : α → Prop} (h : Opens P E t fit) (hf : ∀ y, fit y → fit' y) : Opens P E t fit' := by
  intro H enc W base spare held fuel cs x h1 h2
  obtain ⟨y, h3, h4⟩ := h H enc W base spare held fuel cs x h1 h2
  exact ⟨y, h3, hf y h4⟩

theorem uBox : Tryz.prog.underlying 63 = some (.slice 77) := by kernel_rfl
theorem uBoxes : Tryz.prog.underlying 142 = some (.slice 63) := by kernel_rfl
theorem uInts : Tryz.prog.underlying 27 = some (.slice 3) := by kernel_rfl
theorem opensRng : Opens Tryz.prog Enc.rng 107 fitRng := opens_rng Tryz.underlying107 (by kernel_rfl) rfl rfl (by kernel_rfl) (by kernel_rfl) rfl rfl Tryz.underlying3
theorem opensSet : Opens Tryz.prog Enc.rng.slice 77 fitSet :=
  (opens_slice (e := 107) Tryz.underlying77 (by kernel_rfl) (by decide) opensRng).mono fun l h => ⟨by have := h.1; rw [show Tryz.prog.bytesOf 107 = 16 from by kernel_rfl] at this; exact Nat.le_trans this reach47, h.2⟩
theorem opensBox : Opens Tryz.prog Enc.rng.slice.slice 63 fitBox :=
  (opens_slice (e := 77) (by kernel_rfl) (by kernel_rfl) (by decide) opensSet).mono fun l h => ⟨by have := h.1; rw [show Tryz.prog.bytesOf 77 = 24 from by kernel_rfl] at this; exact Nat.le_trans this reach47, h.2⟩
theorem opensBoxes : Opens Tryz.prog Enc.rng.slice.slice.slice 142 fitBoxes :=
  (opens_slice (e := 63) (by kernel_rfl) (by kernel_rfl) (by decide) opensBox).mono fun l h => ⟨by have := h.1; rw [show Tryz.prog.bytesOf 63 = 24 from by kernel_rfl] at this; exact Nat.le_trans this reach47, h.2⟩
theorem opensInts : Opens Tryz.prog Enc.int.slice 27 fitInts :=
  (opens_slice (e := 3) (by kernel_rfl) (by kernel_rfl) (by decide) (opens_int Tryz.underlying3)).mono fun l h => ⟨by have := h.1; rw [show Tryz.prog.bytesOf 3 = 8 from by kernel_rfl] at this; exact Nat.le_trans this reach47, h.2⟩

end Go.Proofs.YtmdljknlbmlacabGreatDoor
namespace Go.Proofs.YtmdljknlbmlacabGreatDoor
open Go.ChangeShapes Go.WideShapes Go.ChangeAt Go.RowKit Go.Deep

/-- what reads by the fields fs, from the cell off on -/
def OpensF {α : Type} (P : Program) (E : Enc α) (fs : List Field) (off : Nat) (fit : α → Prop) : Prop :=
  ∀ (H : Type) (enc : TypeId × Value → H) (W : World) (base : Nat) (spare : Nat → Bool) (held : Bool) (fuel : Nat) (cs : List Value) (xs : List (DataW H × List MemPlace)),
    off + E.size ≤ cs.length → (∀ (i : Nat) (f : Field), fs[i]? = some f → ∃ x, xs[i]? = some x ∧ DataW.trod enc P W base spare held fuel f.type ((cs.drop f.offset).take (P.cellsOf f.type)) = some x ∧ ∀ n ∈ x.1.weights P f.type, n ≤ reachBytes) →
    ∃ y, E.rd W (Old W) y ((cs.drop off).take E.size) ∧ fit y
theorem opensF_one {α : Type} {P : Program} {E : Enc α} {f : Field} {off : Nat} {fit : α → Prop} (ho : f.offset = off) (hc : P.cellsOf f.type = E.size) (he : Opens P E f.type fit) : OpensF P E [f] off fit := by
  intro H enc W base spare held fuel cs xs hl h
  obtain ⟨x, _, h2, h3⟩ := h 0 f rfl
  rw [ho, hc] at h2
  exact he H enc W base spare held fuel _ x h2 h3
theorem opensF_cons {α β : Type} {P : Program} {E : Enc α} {F : Enc β} {f : Field} {fs : List Field} {off : Nat} {fit : α → Prop} {fit' : β → Prop} (ho : f.offset = off) (hc : P.cellsOf f.type = E.size) (he : Opens P E f.type fit) (hr : OpensF P F fs (off + E.size) fit') :
    OpensF P (E.pair F) (f :: fs) off (fun y => fit y.1 ∧ fit' y.2) := by
  intro H enc W base spare held fuel cs xs hl h
  have es : (E.pair F).size = E.size + F.size := rfl
  rw [es] at hl ⊢
  obtain ⟨x, hx, h2, h3⟩ := h 0 f rfl
  rw [ho, hc] at h2
  obtain ⟨y, hy, fy⟩ := he H enc W base spare held fuel _ x h2 h3
  obtain ⟨z, hz, fz⟩ := hr H enc W base spare held fuel cs xs.tail (by omega) (fun i g hg => by
    obtain ⟨x', hx', h4⟩ := h (i + 1) g (by simpa using hg)
    exact ⟨x', by rw [List.getElem?_tail]; exact hx', h4⟩)
  refine ⟨(y, z), ⟨_, _, ?_, hy, hz⟩, fy, fz⟩
  rw [List.take_add, List.drop_drop]
theorem weightsEach_at {H : Type} {P : Program} : ∀ {ts : List TypeId} {ds : List (DataW H)} {i : Nat} {t : TypeId} {d : DataW H}, ts[i]? = some t → ds[i]? = some d → ∀ n ∈ d.weights P t, n ∈ DataW.weightsEach P ts ds := fun h1 h2 => DataW.weights_mem_each h1 h2
theorem opens_struct {α : Type} {P : Program} {E : Enc α} {t : TypeId} {fs : Array Field} {fit : α → Prop} (ht : P.underlying t = some (.struct fs)) (hc : P.cellsOf t = E.size) (hf : OpensF P E fs.toList 0 fit) : Opens P E t fit := by
  intro H enc W base spare held fuel cs x h hw
  obtain ⟨xs, n, _, rfl, hl, hxl, hg⟩ := DataW.trod_struct ht h
  have hl' : cs.length = E.size := hl.trans hc
  obtain ⟨y, hy, fy⟩ := hf H enc W base spare held n cs xs (by omega) (fun i f hi => by
    have hi' : fs[i]? = some f := by simpa using hi
    have hlt : i < xs.length := by have := (Array.getElem?_eq_some_iff.1 hi').1; omega
    have h1 := hg i f hi'
    rw [List.getElem?_eq_getElem hlt] at h1
    refine ⟨xs[i], List.getElem?_eq_getElem hlt, h1, fun k hk => hw k ?_⟩
    rw [DataW.weights.eq_def]
    simp only [ht]
    exact weightsEach_at (ts := fs.toList.map (·.type)) (i := i) (t := f.type) (d := xs[i].1) (by rw [List.getElem?_map, hi]; rfl) (by rw [List.getElem?_map, List.getElem?_eq_getElem hlt]; rfl) k hk)
  rw [List.drop_zero, ← hl', List.take_length] at hy
  exact ⟨y, hy, fy⟩

def fitStr (s : ByteArray) : Prop := s.size ≤ 2147483648
def fitCell (c : CellD) : Prop := fitSet c.2
def fitRule (r : RuleD) : Prop := (r.1.length * 32 ≤ 140737488355328 ∧ ∀ c, c ∈ r.1 → fitCell c) ∧ in64 r.2
def fitTab (t : TabD) : Prop := (t.name.size ≤ reachBytes ∧ in64 t.pol ∧ (t.ins.length * 16 ≤ reachBytes ∧ ∀ s, s ∈ t.ins → s.size ≤ reachBytes)) ∧ (t.rules.length * 32 ≤ 140737488355328 ∧ ∀ r, r ∈ t.rules → fitRule r)

set_option maxRecDepth 100000 in
theorem opensCell : Opens Tryz.prog Enc.cell 79 fitCell :=
  (opens_struct (E := Enc.cell) (t := 79) Tryz.underlying79 (by kernel_rfl) (opensF_cons (off := 0) rfl (by kernel_rfl) (opens_bool Tryz.underlying4) (opensF_one rfl (by kernel_rfl) opensSet))).mono fun _ h => h.2
theorem opensCells : Opens Tryz.prog Enc.cell.slice 80 (fun l => l.length * 32 ≤ 140737488355328 ∧ ∀ c, c ∈ l → fitCell c) :=
  (opens_slice (e := 79) (by kernel_rfl) (by kernel_rfl) (by decide) opensCell).mono fun l h => ⟨by have := h.1; rw [show Tryz.prog.bytesOf 79 = 32 from by kernel_rfl] at this; exact Nat.le_trans this reach47, h.2⟩
set_option maxRecDepth 100000 in
theorem opensRule : Opens Tryz.prog Enc.rule 82 fitRule :=
  (opens_struct (E := Enc.cell.slice.pair Enc.int) (t := 82) Tryz.underlying82 (by kernel_rfl) (opensF_cons (off := 0) rfl (by kernel_rfl) opensCells (opensF_one rfl (by kernel_rfl) (opens_int Tryz.underlying3)))).mono fun _ h => h
theorem opensRules : Opens Tryz.prog Enc.rule.slice 57 (fun l => l.length * 32 ≤ 140737488355328 ∧ ∀ r, r ∈ l → fitRule r) :=
  (opens_slice (e := 82) (by kernel_rfl) (by kernel_rfl) (by decide) opensRule).mono fun l h => ⟨by have := h.1; rw [show Tryz.prog.bytesOf 82 = 32 from by kernel_rfl] at this; exact Nat.le_trans this reach47, h.2⟩
theorem opensStrs : Opens Tryz.prog Enc.str.slice 39 (fun l => l.length * 16 ≤ reachBytes ∧ ∀ s, s ∈ l → s.size ≤ reachBytes) :=
  (opens_slice (e := 9) (by kernel_rfl) (by kernel_rfl) (by decide) (opens_str Tryz.underlying9)).mono fun l h => ⟨by have := h.1; rw [show Tryz.prog.bytesOf 9 = 16 from by kernel_rfl] at this; exact this, h.2⟩
theorem opensTabP {fs : Array Field} (hu : Tryz.prog.underlying 59 = some (.struct fs)) {f0 f1 f2 f3 f4 : Field} (hf : fs = #[f0, f1, f2, f3, f4]) (o0 : f0.offset = 0) (o1 : f1.offset = 1) (o2 : f2.offset = 2) (o3 : f3.offset = 3) (o4 : f4.offset = 4)
    (t0 : f0.type = 9) (t1 : f1.type = 3) (t2 : f2.type = 4) (t3 : f3.type = 39) (t4 : f4.type = 57) : Opens Tryz.prog Enc.tab 59 fitTab := by
  have h := opens_struct (E := Enc.tabP) (t := 59) hu (by kernel_rfl) (by
    rw [hf]
    exact opensF_cons (off := 0) o0 (by rw [t0]; kernel_rfl) (by rw [t0]; exact opens_str Tryz.underlying9) (opensF_cons o1 (by rw [t1]; kernel_rfl) (by rw [t1]; exact opens_int Tryz.underlying3) (opensF_cons o2 (by rw [t2]; kernel_rfl) (by rw [t2]; exact opens_bool Tryz.underlying4)
      (opensF_cons o3 (by rw [t3]; kernel_rfl) (by rw [t3]; exact opensStrs) (opensF_one o4 (by rw [t4]; kernel_rfl) (by rw [t4]; exact opensRules))))))
  intro H enc W base spare held fuel cs x h1 h2
  obtain ⟨y, hy, f0, f1, _, f3, f4⟩ := h H enc W base spare held fuel cs x h1 h2
  exact ⟨TabD.of y, hy, ⟨f0, f1, f3⟩, f4⟩
set_option maxRecDepth 100000 in
theorem opensTab : Opens Tryz.prog Enc.tab 59 fitTab := opensTabP Tryz.underlying59 rfl rfl rfl rfl rfl rfl rfl rfl rfl rfl rfl
set_option maxRecDepth 100000 in
/-- an argument that is a table -/
theorem openTab {H : Type} {enc : TypeId × Value → H} {W : World} {base b0 : Nat} {spare : Nat → Bool} {held : Bool} {r : Reach} {v : Value} {d : DataW H} {p : List MemPlace} (hv : Value.okWide Tryz.prog W r b0 59 v)
    (h : DataW.Trod enc Tryz.prog W base spare held 59 v d p) {ts : List TypeId} {ds : List (DataW H)} (hsz : (DataW.weightsEach Tryz.prog ts ds).all (· ≤ reachBytes) = true) {j : Nat} (ht : ts[j]? = some 59) (hd : ds[j]? = some d) :
    ∃ t, TabAt W (Old W) t v ∧ fitTab t := by
  obtain ⟨cs, rfl, _⟩ := okWide_struct Tryz.underlying59 hv
  obtain ⟨fuel, hf⟩ := h
  have hf' : DataW.trod enc Tryz.prog W base spare held fuel 59 cs.toList = some (d, p) := hf
  obtain ⟨t, ht', hy⟩ := opensTab H enc W base spare held fuel _ _ hf' (fun n hn => by simpa using List.all_eq_true.1 hsz _ (DataW.weights_mem_each ht hd n hn))
  obtain ⟨vi, vr, e, h1, h2⟩ := Enc.tab_rd.1 ht'
  refine ⟨t, ⟨vi, vr, ?_, h1, h2⟩, hy⟩
  have : cs = [.string t.name, .int .i64 t.pol, .bool t.comp, vi, vr].toArray := by rw [← e]
  rw [this]
theorem fitTab.small {t : TabD} (h : fitTab t) : t.name.size ≤ 140737488355328 ∧ (∀ s, s ∈ t.ins → s.size ≤ 140737488355328) ∧ t.rules.length * 32 ≤ 140737488355328 :=
  ⟨Nat.le_trans h.1.1 reach47, fun s hs => Nat.le_trans (h.1.2.2.2 s hs) reach47, h.2.1⟩

end Go.Proofs.YtmdljknlbmlacabGreatDoor
