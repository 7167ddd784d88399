/- Arguments of any shape read as Lean data, layer by layer, with the bounds that the row's own reach gives. No condition. -/
import Derived.Test.YthnfkghgaagaiabOpen
import Derived.Test.YthnfkghgaagaiabMem
namespace Go.Proofs.Ythnfkghgaagaiab
open Go.ChangeShapes Go.WideShapes Go.ChangeAt Go.RowKit Go.Deep

/-- whatever reads by the type t reads as a Lean value under E, which is `fit` -/
def Opens {α : Type} (P : Program) (E : Enc α) (t : TypeId) (fit : α → Prop) : Prop :=
  ∀ (H : Type) (enc : TypeId × Value → H) (W : World) (base : Nat) (spare : Nat → Bool) (held : Bool) (fuel : Nat) (cs : List Value) (x : DataW H × List MemPlace),
    DataW.trod enc P W base spare held fuel t cs = some x → (∀ n ∈ x.1.weights P t, n ≤ reachBytes) → ∃ y, E.rd W (Old W) y cs ∧ fit y

theorem weightsAll_mem {H : Type} {P : Program} {e : TypeId} : ∀ {ds : List (DataW H)} {d : DataW H}, d ∈ ds → ∀ n ∈ d.weights P e, n ∈ DataW.weightsAll P e ds
  | d0 :: ds, d, hd, n, hn => by
    simp only [DataW.weightsAll, List.mem_append]
    rcases List.mem_cons.1 hd with rfl | h
    · exact .inl hn
    · exact .inr (weightsAll_mem h n hn)

def in64 (n : Int) : Prop := -9223372036854775808 ≤ n ∧ n ≤ 9223372036854775807
theorem opens_int {P : Program} {t : TypeId} (ht : P.underlying t = some (.int .i64)) : Opens P Enc.int t in64 := by
  intro H enc W base spare held fuel cs x h _
  obtain ⟨n, e, _, wf⟩ := DataW.trod_int ht h
  exact ⟨n, e, wf_bounds wf⟩
theorem opens_bool {P : Program} {t : TypeId} (ht : P.underlying t = some .bool) : Opens P Enc.bool t (fun _ => True) := by
  intro H enc W base spare held fuel cs x h _
  obtain ⟨b, e, _⟩ := DataW.trod_bool ht h
  exact ⟨b, e, trivial⟩
theorem opens_str {P : Program} {t : TypeId} (ht : P.underlying t = some .string) : Opens P Enc.str t (fun s => s.size ≤ reachBytes) := by
  intro H enc W base spare held fuel cs x h hw
  obtain ⟨s, e, e2, _⟩ := DataW.trod_string ht h
  refine ⟨s, e, ?_⟩
  subst e2
  simpa [DataW.weights] using hw s.data.toList.length (by simp [DataW.weights])
theorem opens_rng {P : Program} {t i : TypeId} {f0 f1 : Field} (ht : P.underlying t = some (.struct #[f0, f1])) (hc : P.cellsOf t = 2) (o0 : f0.offset = 0) (o1 : f1.offset = 1) (c0 : P.cellsOf f0.type = 1) (c1 : P.cellsOf f1.type = 1) (t0 : f0.type = i) (t1 : f1.type = i)
    (hi : P.underlying i = some (.int .i64)) : Opens P Enc.rng t (fun r => in64 r.1 ∧ in64 r.2) := by
  intro H enc W base spare held fuel cs x h _
  obtain ⟨xs, n, _, _, hl, hxl, hf⟩ := DataW.trod_struct ht h
  rw [hc] at hl
  have g0 := hf 0 f0 rfl
  have g1 := hf 1 f1 rfl
  rw [o0, c0, t0] at g0
  rw [o1, c1, t1] at g1
  have hxs : xs.length = 2 := by simpa using hxl
  match xs, hxs, cs, hl with
  | [x0, x1], _, [v0, v1], _ =>
    simp at g0 g1
    obtain ⟨n0, e0, _, wf0⟩ := DataW.trod_int hi g0
    obtain ⟨n1, e1, _, wf1⟩ := DataW.trod_int hi g1
    simp at e0 e1
    subst e0 e1
    exact ⟨(n0, n1), rfl, wf_bounds wf0, wf_bounds wf1⟩

theorem opens_slice {α : Type} [Inhabited α] {P : Program} {E : Enc α} {t e : TypeId} {fit : α → Prop} (ht : P.underlying t = some (.slice e)) (hc : P.cellsOf e = E.size) (h0 : 0 < E.size) (he : Opens P E e fit) :
    Opens P E.slice t (fun l => l.length * P.bytesOf e ≤ reachBytes ∧ ∀ y, y ∈ l → fit y) := by
  intro H enc W base spare held fuel cs x h hw
  rcases open_slice ht h with ⟨rfl, rfl⟩ | ⟨a, len, cap, m, n, D, Pl, rfl, hb, hl, hm, hmm, rfl, hx⟩
  · exact ⟨[], ⟨_, rfl, Sl.nil⟩, by simp, by simp⟩
  · have hlm : len ≤ m := by rw [hmm]; split <;> omega
    simp only [DataW.weights, ht, List.length_map, List.length_range, List.mem_cons, List.mem_append] at hw
    have hsz := hw _ (.inl rfl)
    have hlen : len * P.bytesOf e ≤ reachBytes := Nat.le_trans (Nat.mul_le_mul_right _ (by omega)) hsz
    have each : ∀ i, i < len → ∃ q : α × List Value, E.rd W (Old W) q.1 q.2 ∧ fit q.1 ∧ ∀ j u, q.2[j]? = some u → W.cell? (a.add (i * E.size + j)) = some u := by
      intro i hi
      obtain ⟨cs', h1, h2⟩ := hx i (by omega)
      obtain ⟨y, hy, hf⟩ := he H enc W base spare held n cs' _ h2 (fun k hk => hw k (.inr (.inl (weightsAll_mem (List.mem_map.2 ⟨i, List.mem_range.2 hi, rfl⟩) k hk))))
      obtain ⟨_, hl', hcell⟩ := World.cells?_some h1
      refine ⟨(y, cs'), hy, hf, fun j u hu => ?_⟩
      have hj : j < cs'.length := (List.getElem?_eq_some_iff.1 hu).1
      have := hcell j (by omega)
      rw [add_add, hc] at this
      rw [this, hu]
    obtain ⟨q, hq⟩ := choose_lt each
    refine ⟨(List.range len).map fun i => (q i).1, ⟨_, rfl, some a, cap, by simp, by simpa using hl, hm, (fun h => by cases h), fun hp => ?_⟩, by simpa using hlen, fun y hy => ?_⟩
    · have hp' : 0 < len := by simpa using hp
      obtain ⟨h1, _, h3⟩ := hq 0 hp'
      have hl0 := E.len h1
      have hc0 := h3 0 ((q 0).2[0]'(by omega)) (List.getElem?_eq_getElem (by omega))
      rw [Nat.zero_mul, Nat.zero_add] at hc0
      obtain ⟨ha, hbk⟩ := addr_zero hc0
      refine ⟨a.block, a.off, by rw [← ha], hbk, fun i y hy => ?_⟩
      obtain ⟨hlt, ex⟩ := List.getElem?_eq_some_iff.1 hy
      simp at hlt ex
      subst ex
      obtain ⟨g1, _, g3⟩ := hq i hlt
      refine ⟨_, g1, fun j u hu => ?_⟩
      have := g3 j u hu
      rw [addr_at ha] at this
      rw [Nat.add_assoc]
      exact this
    · obtain ⟨i, hi, rfl⟩ := List.mem_map.1 hy
      exact (hq i (List.mem_range.1 hi)).2.1

/-- an argument that is a slice -/
theorem Opens.arg {α : Type} {P : Program} {E : Enc α} {t : TypeId} {fit : List α → Prop} (ho : Opens P E.slice t fit) {H : Type} {enc : TypeId × Value → H} {W : World} {base : Nat} {spare : Nat → Bool} {held : Bool} {a0 : Option Addr} {len cap : Nat} {d : DataW H} {p : List MemPlace}
    (h : DataW.Trod enc P W base spare held t (.slice a0 len cap) d p) {ts : List TypeId} {ds : List (DataW H)} (hsz : (DataW.weightsEach P ts ds).all (· ≤ reachBytes) = true) {j : Nat} (ht : ts[j]? = some t) (hd : ds[j]? = some d) :
    ∃ l, Sl E W (Old W) l (.slice a0 len cap) ∧ fit l := by
  obtain ⟨fuel, hf⟩ := h
  have hf' : DataW.trod enc P W base spare held fuel t [.slice a0 len cap] = some (d, p) := by simpa [Value.cells] using hf
  obtain ⟨y, ⟨v, e, hv⟩, hy⟩ := ho H enc W base spare held fuel _ _ hf' (fun n hn => by simpa using List.all_eq_true.1 hsz _ (DataW.weights_mem_each ht hd n hn))
  injection e with e
  subst e
  exact ⟨y, hv, hy⟩

theorem reach47 : reachBytes ≤ 140737488355328 := by decide

def fitRng (r : Int × Int) : Prop := in64 r.1 ∧ in64 r.2
def fitSet (l : List (Int × Int)) : Prop := l.length * 16 ≤ 140737488355328 ∧ ∀ r, r ∈ l → fitRng r
def fitBox (b : List (List (Int × Int))) : Prop := b.length * 24 ≤ 140737488355328 ∧ ∀ s, s ∈ b → fitSet s
def fitBoxes (l : List (List (List (Int × Int)))) : Prop := l.length * 24 ≤ 140737488355328 ∧ ∀ b, b ∈ l → fitBox b
def fitInts (l : List Int) : Prop := l.length * 8 ≤ 140737488355328 ∧ ∀ n, n ∈ l → in64 n
theorem Opens.mono {α : Type} {P : Program} {E : Enc α} {t : TypeId} {fit fit' : α → Prop} (h : Opens P E t fit) (hf : ∀ y, fit y → fit' y) : Opens P E t fit' := by
  intro H enc W base spare held fuel cs x h1 h2
  obtain ⟨y, h3, h4⟩ := h H enc W base spare held fuel cs x h1 h2
  exact ⟨y, h3, hf y h4⟩

theorem uBox : Try.prog.underlying 27 = some (.slice 71) := by kernel_rfl
theorem uBoxes : Try.prog.underlying 79 = some (.slice 27) := by kernel_rfl
theorem uInts : Try.prog.underlying 28 = some (.slice 3) := by kernel_rfl
theorem opensRng : Opens Try.prog Enc.rng 75 fitRng := opens_rng Try.underlying75 (by kernel_rfl) rfl rfl (by kernel_rfl) (by kernel_rfl) rfl rfl Try.underlying3
theorem opensSet : Opens Try.prog Enc.rng.slice 71 fitSet :=
  (opens_slice (e := 75) Try.underlying71 (by kernel_rfl) (by decide) opensRng).mono fun l h => ⟨by have := h.1; rw [show Try.prog.bytesOf 75 = 16 from by kernel_rfl] at this; exact Nat.le_trans this reach47, h.2⟩
theorem opensBox : Opens Try.prog Enc.rng.slice.slice 27 fitBox :=
  (opens_slice (e := 71) (by kernel_rfl) (by kernel_rfl) (by decide) opensSet).mono fun l h => ⟨by have := h.1; rw [show Try.prog.bytesOf 71 = 24 from by kernel_rfl] at this; exact Nat.le_trans this reach47, h.2⟩
theorem opensBoxes : Opens Try.prog Enc.rng.slice.slice.slice 79 fitBoxes :=
  (opens_slice (e := 27) (by kernel_rfl) (by kernel_rfl) (by decide) opensBox).mono fun l h => ⟨by have := h.1; rw [show Try.prog.bytesOf 27 = 24 from by kernel_rfl] at this; exact Nat.le_trans this reach47, h.2⟩
theorem opensInts : Opens Try.prog Enc.int.slice 28 fitInts :=
  (opens_slice (e := 3) (by kernel_rfl) (by kernel_rfl) (by decide) (opens_int Try.underlying3)).mono fun l h => ⟨by have := h.1; rw [show Try.prog.bytesOf 3 = 8 from by kernel_rfl] at this; exact Nat.le_trans this reach47, h.2⟩

end Go.Proofs.Ythnfkghgaagaiab
