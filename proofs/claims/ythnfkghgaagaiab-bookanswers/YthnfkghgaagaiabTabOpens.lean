/- Arguments that are tables read as Lean data. No condition. -/
import Derived.Test.YthnfkghgaagaiabOpens
import Derived.Test.YthnfkghgaagaiabTab
namespace Go.Proofs.Ythnfkghgaagaiab
open Go.ChangeShapes Go.WideShapes Go.ChangeAt Go.RowKit Go.Deep

/-- what reads by the fields fs, from the cell off on -/
def OpensF {α : Type} (P : Program) (E : Enc α) (fs : List Field) (off : Nat) (fit : α → Prop) : Prop :=
  ∀ (H : Type) (enc : TypeId × Value → H) (W : World) (base : Nat) (spare : Nat → Bool) (held : Bool) (fuel : Nat) (cs : List Value) (xs : List (DataW H × List MemPlace)),
    off + E.size ≤ cs.length → (∀ (i : Nat) (f : Field), fs[i]? = some f → ∃ x, xs[i]? = some x ∧ DataW.trod enc P W base spare held fuel f.type ((cs.drop f.offset).take (P.cellsOf f.type)) = some x ∧ ∀ n ∈ x.1.weights P f.type, n ≤ reachBytes) →
    ∃ y, E.rd W (Old W) y ((cs.drop off).take E.size) ∧ fit y
theorem opensF_one {α : Type} {P : Program} {E : Enc α} {f : Field} {off : Nat} {fit : α → Prop} (ho : f.offset = off) (hc : P.cellsOf f.type = E.size) (he : Opens P E f.type fit) : OpensF P E [f] off fit := by
  intro H enc W base spare held fuel cs xs hl h
  obtain ⟨x, _, h2, h3⟩ := h 0 f rfl
  rw [ho, hc] at h2
  exact he H enc W base spare held fuel _ x h2 h3
theorem opensF_cons {α β : Type} {P : Program} {E : Enc α} {F : Enc β} {f : Field} {fs : List Field} {off : Nat} {fit : α → Prop} {fit' : β → Prop} (ho : f.offset = off) (hc : P.cellsOf f.type = E.size) (he : Opens P E f.type fit) (hr : OpensF P F fs (off + E.size) fit') :
    OpensF P (E.pair F) (f :: fs) off (fun y => fit y.1 ∧ fit' y.2) := by
  intro H enc W base spare held fuel cs xs hl h
  have es : (E.pair F).size = E.size + F.size := rfl
  rw [es] at hl ⊢
  obtain ⟨x, hx, h2, h3⟩ := h 0 f rfl
  rw [ho, hc] at h2
  obtain ⟨y, hy, fy⟩ := he H enc W base spare held fuel _ x h2 h3
  obtain ⟨z, hz, fz⟩ := hr H enc W base spare held fuel cs xs.tail (by omega) (fun i g hg => by
    obtain ⟨x', hx', h4⟩ := h (i + 1) g (by simpa using hg)
    exact ⟨x', by rw [List.getElem?_tail]; exact hx', h4⟩)
  refine ⟨(y, z), ⟨_, _, ?_, hy, hz⟩, fy, fz⟩
  rw [List.take_add, List.drop_drop]
theorem weightsEach_at {H : Type} {P : Program} : ∀ {ts : List TypeId} {ds : List (DataW H)} {i : Nat} {t : TypeId} {d : DataW H}, ts[i]? = some t → ds[i]? = some d → ∀ n ∈ d.weights P t, n ∈ DataW.weightsEach P ts ds := fun h1 h2 => DataW.weights_mem_each h1 h2
theorem opens_struct {α : Type} {P : Program} {E : Enc α} {t : TypeId} {fs : Array Field} {fit : α → Prop} (ht : P.underlying t = some (.struct fs)) (hc : P.cellsOf t = E.size) (hf : OpensF P E fs.toList 0 fit) : Opens P E t fit := by
  intro H enc W base spare held fuel cs x h hw
  obtain ⟨xs, n, _, rfl, hl, hxl, hg⟩ := DataW.trod_struct ht h
  have hl' : cs.length = E.size := hl.trans hc
  obtain ⟨y, hy, fy⟩ := hf H enc W base spare held n cs xs (by omega) (fun i f hi => by
    have hi' : fs[i]? = some f := by simpa using hi
    have hlt : i < xs.length := by have := (Array.getElem?_eq_some_iff.1 hi').1; omega
    have h1 := hg i f hi'
    rw [List.getElem?_eq_getElem hlt] at h1
    refine ⟨xs[i], List.getElem?_eq_getElem hlt, h1, fun k hk => hw k ?_⟩
    rw [DataW.weights.eq_def]
    simp only [ht]
    exact weightsEach_at (ts := fs.toList.map (·.type)) (i := i) (t := f.type) (d := xs[i].1) (by rw [List.getElem?_map, hi]; rfl) (by rw [List.getElem?_map, List.getElem?_eq_getElem hlt]; rfl) k hk)
  rw [List.drop_zero, ← hl', List.take_length] at hy
  exact ⟨y, hy, fy⟩

def fitStr (s : ByteArray) : Prop := s.size ≤ 2147483648
def fitCell (c : CellD) : Prop := fitSet c.2
def fitRule (r : RuleD) : Prop := (r.1.length * 32 ≤ 140737488355328 ∧ ∀ c, c ∈ r.1 → fitCell c) ∧ in64 r.2
def fitTab (t : TabD) : Prop := (t.name.size ≤ reachBytes ∧ in64 t.pol ∧ (t.ins.length * 16 ≤ reachBytes ∧ ∀ s, s ∈ t.ins → s.size ≤ reachBytes)) ∧ (t.rules.length * 32 ≤ 140737488355328 ∧ ∀ r, r ∈ t.rules → fitRule r)

set_option maxRecDepth 100000 in
theorem opensCell : Opens Try.prog Enc.cell 77 fitCell :=
  (opens_struct (E := Enc.cell) (t := 77) Try.underlying77 (by kernel_rfl) (opensF_cons (off := 0) rfl (by kernel_rfl) (opens_bool Try.underlying4) (opensF_one rfl (by kernel_rfl) opensSet))).mono fun _ h => h.2
theorem opensCells : Opens Try.prog Enc.cell.slice 41 (fun l => l.length * 32 ≤ 140737488355328 ∧ ∀ c, c ∈ l → fitCell c) :=
  (opens_slice (e := 77) (by kernel_rfl) (by kernel_rfl) (by decide) opensCell).mono fun l h => ⟨by have := h.1; rw [show Try.prog.bytesOf 77 = 32 from by kernel_rfl] at this; exact Nat.le_trans this reach47, h.2⟩
set_option maxRecDepth 100000 in
theorem opensRule : Opens Try.prog Enc.rule 43 fitRule :=
  (opens_struct (E := Enc.cell.slice.pair Enc.int) (t := 43) Try.underlying43 (by kernel_rfl) (opensF_cons (off := 0) rfl (by kernel_rfl) opensCells (opensF_one rfl (by kernel_rfl) (opens_int Try.underlying3)))).mono fun _ h => h
theorem opensRules : Opens Try.prog Enc.rule.slice 23 (fun l => l.length * 32 ≤ 140737488355328 ∧ ∀ r, r ∈ l → fitRule r) :=
  (opens_slice (e := 43) (by kernel_rfl) (by kernel_rfl) (by decide) opensRule).mono fun l h => ⟨by have := h.1; rw [show Try.prog.bytesOf 43 = 32 from by kernel_rfl] at this; exact Nat.le_trans this reach47, h.2⟩
theorem opensStrs : Opens Try.prog Enc.str.slice 22 (fun l => l.length * 16 ≤ reachBytes ∧ ∀ s, s ∈ l → s.size ≤ reachBytes) :=
  (opens_slice (e := 9) (by kernel_rfl) (by kernel_rfl) (by decide) (opens_str Try.underlying9)).mono fun l h => ⟨by have := h.1; rw [show Try.prog.bytesOf 9 = 16 from by kernel_rfl] at this; exact this, h.2⟩
theorem opensTabP {fs : Array Field} (hu : Try.prog.underlying 25 = some (.struct fs)) {f0 f1 f2 f3 f4 : Field} (hf : fs = #[f0, f1, f2, f3, f4]) (o0 : f0.offset = 0) (o1 : f1.offset = 1) (o2 : f2.offset = 2) (o3 : f3.offset = 3) (o4 : f4.offset = 4)
    (t0 : f0.type = 9) (t1 : f1.type = 3) (t2 : f2.type = 4) (t3 : f3.type = 22) (t4 : f4.type = 23) : Opens Try.prog Enc.tab 25 fitTab := by
  have h := opens_struct (E := Enc.tabP) (t := 25) hu (by kernel_rfl) (by
    rw [hf]
    exact opensF_cons (off := 0) o0 (by rw [t0]; kernel_rfl) (by rw [t0]; exact opens_str Try.underlying9) (opensF_cons o1 (by rw [t1]; kernel_rfl) (by rw [t1]; exact opens_int Try.underlying3) (opensF_cons o2 (by rw [t2]; kernel_rfl) (by rw [t2]; exact opens_bool Try.underlying4)
      (opensF_cons o3 (by rw [t3]; kernel_rfl) (by rw [t3]; exact opensStrs) (opensF_one o4 (by rw [t4]; kernel_rfl) (by rw [t4]; exact opensRules))))))
  intro H enc W base spare held fuel cs x h1 h2
  obtain ⟨y, hy, f0, f1, _, f3, f4⟩ := h H enc W base spare held fuel cs x h1 h2
  exact ⟨TabD.of y, hy, ⟨f0, f1, f3⟩, f4⟩
set_option maxRecDepth 100000 in
theorem opensTab : Opens Try.prog Enc.tab 25 fitTab := opensTabP Try.underlying25 rfl rfl rfl rfl rfl rfl rfl rfl rfl rfl rfl
set_option maxRecDepth 100000 in
/-- an argument that is a table -/
theorem openTab {H : Type} {enc : TypeId × Value → H} {W : World} {base b0 : Nat} {spare : Nat → Bool} {held : Bool} {r : Reach} {v : Value} {d : DataW H} {p : List MemPlace} (hv : Value.okWide Try.prog W r b0 25 v)
    (h : DataW.Trod enc Try.prog W base spare held 25 v d p) {ts : List TypeId} {ds : List (DataW H)} (hsz : (DataW.weightsEach Try.prog ts ds).all (· ≤ reachBytes) = true) {j : Nat} (ht : ts[j]? = some 25) (hd : ds[j]? = some d) :
    ∃ t, TabAt W (Old W) t v ∧ fitTab t := by
  obtain ⟨cs, rfl, _⟩ := okWide_struct Try.underlying25 hv
  obtain ⟨fuel, hf⟩ := h
  have hf' : DataW.trod enc Try.prog W base spare held fuel 25 cs.toList = some (d, p) := hf
  obtain ⟨t, ht', hy⟩ := opensTab H enc W base spare held fuel _ _ hf' (fun n hn => by simpa using List.all_eq_true.1 hsz _ (DataW.weights_mem_each ht hd n hn))
  obtain ⟨vi, vr, e, h1, h2⟩ := Enc.tab_rd.1 ht'
  refine ⟨t, ⟨vi, vr, ?_, h1, h2⟩, hy⟩
  have : cs = [.string t.name, .int .i64 t.pol, .bool t.comp, vi, vr].toArray := by rw [← e]
  rw [this]
theorem fitTab.small {t : TabD} (h : fitTab t) : t.name.size ≤ 140737488355328 ∧ (∀ s, s ∈ t.ins → s.size ≤ 140737488355328) ∧ t.rules.length * 32 ≤ 140737488355328 :=
  ⟨Nat.le_trans h.1.1 reach47, fun s hs => Nat.le_trans (h.1.2.2.2 s hs) reach47, h.2.1⟩

end Go.Proofs.Ythnfkghgaagaiab
