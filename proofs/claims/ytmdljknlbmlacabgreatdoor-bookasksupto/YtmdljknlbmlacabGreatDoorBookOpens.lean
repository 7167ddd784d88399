/- Arguments that are books read as Lean data. No condition. -/
import Derived.Test.YtmdljknlbmlacabGreatDoorTabOpens
import Derived.Test.YtmdljknlbmlacabGreatDoorBookA
namespace Go.Proofs.YtmdljknlbmlacabGreatDoor
open Go.ChangeShapes Go.WideShapes Go.ChangeAt Go.RowKit Go.Deep

def fitBk (y : List DomD × List TabD) : Prop := (∀ d, d ∈ y.1 → d.1.size ≤ reachBytes) ∧ y.2.length * 80 ≤ reachBytes ∧ (∀ t, t ∈ y.2 → fitTab t) ∧ y.1.length * 32 ≤ reachBytes
theorem opensDomB {fs : Array Field} (hu : Tryz.prog.underlying 69 = some (.struct fs)) {f0 f1 f2 : Field} (hf : fs = #[f0, f1, f2]) (o0 : f0.offset = 0) (o1 : f1.offset = 1) (o2 : f2.offset = 2)
    (t0 : f0.type = 9) (t1 : f1.type = 3) (t2 : f2.type = 3) : Opens Tryz.prog Enc.dom 69 (fun d => d.1.size ≤ reachBytes) := by
  have h := opens_struct (E := Enc.dom) (t := 69) hu (by kernel_rfl) (by
    rw [hf]
    exact opensF_cons (off := 0) o0 (by rw [t0]; kernel_rfl) (by rw [t0]; exact opens_str Tryz.underlying9) (opensF_cons o1 (by rw [t1]; kernel_rfl) (by rw [t1]; exact opens_int Tryz.underlying3) (opensF_one o2 (by rw [t2]; kernel_rfl) (by rw [t2]; exact opens_int Tryz.underlying3))))
  intro H enc W base spare held fuel cs x h1 h2
  obtain ⟨y, hy, f0, f1, _⟩ := h H enc W base spare held fuel cs x h1 h2
  exact ⟨y, hy, f0⟩
set_option maxRecDepth 100000 in
theorem opensDom1 : Opens Tryz.prog Enc.dom 69 (fun d => d.1.size ≤ reachBytes) := opensDomB Tryz.underlying69 rfl rfl rfl rfl rfl rfl rfl
theorem opensDoms : Opens Tryz.prog Enc.dom.slice 22 (fun l => l.length * 32 ≤ reachBytes ∧ ∀ d, d ∈ l → d.1.size ≤ reachBytes) :=
  (@opens_slice _ ⟨(⟨#[]⟩, 0, 0)⟩ _ _ 22 69 _ (by kernel_rfl) (by kernel_rfl) (by decide) opensDom1).mono fun l h => ⟨by have := h.1; rw [show Tryz.prog.bytesOf 69 = 32 from by kernel_rfl] at this; exact this, h.2⟩
theorem opensTabs : Opens Tryz.prog Enc.tab.slice 23 (fun l => l.length * 80 ≤ reachBytes ∧ ∀ t, t ∈ l → fitTab t) :=
  (@opens_slice _ ⟨⟨⟨#[]⟩, 0, false, [], []⟩⟩ _ _ 23 59 _ (by kernel_rfl) (by kernel_rfl) (by decide) opensTab).mono fun l h => ⟨by have := h.1; rw [show Tryz.prog.bytesOf 59 = 80 from by kernel_rfl] at this; exact this, h.2⟩
theorem opensBookP {fs : Array Field} (hu : Tryz.prog.underlying 25 = some (.struct fs)) {f0 f1 : Field} (hf : fs = #[f0, f1]) (o0 : f0.offset = 0) (o1 : f1.offset = 1)
    (t0 : f0.type = 22) (t1 : f1.type = 23) : Opens Tryz.prog (Enc.dom.slice.pair Enc.tab.slice) 25 fitBk := by
  have h := opens_struct (E := Enc.dom.slice.pair Enc.tab.slice) (t := 25) hu (by kernel_rfl) (by
    rw [hf]
    exact opensF_cons (off := 0) o0 (by rw [t0]; kernel_rfl) (by rw [t0]; exact opensDoms) (opensF_one o1 (by rw [t1]; kernel_rfl) (by rw [t1]; exact opensTabs)))
  intro H enc W base spare held fuel cs x h1 h2
  obtain ⟨y, hy, f0, f1⟩ := h H enc W base spare held fuel cs x h1 h2
  exact ⟨y, hy, f0.2, f1.1, f1.2, f0.1⟩
set_option maxRecDepth 100000 in
theorem opensBook : Opens Tryz.prog (Enc.dom.slice.pair Enc.tab.slice) 25 fitBk := opensBookP Tryz.underlying25 rfl rfl rfl rfl rfl
set_option maxRecDepth 100000 in
/-- an argument that is a book -/
theorem openBook {H : Type} {enc : TypeId × Value → H} {W : World} {base b0 : Nat} {spare : Nat → Bool} {held : Bool} {r : Reach} {v : Value} {d : DataW H} {p : List MemPlace} (hv : Value.okWide Tryz.prog W r b0 25 v)
    (h : DataW.Trod enc Tryz.prog W base spare held 25 v d p) {ts : List TypeId} {ds : List (DataW H)} (hsz : (DataW.weightsEach Tryz.prog ts ds).all (· ≤ reachBytes) = true) {j : Nat} (ht : ts[j]? = some 25) (hd : ds[j]? = some d) :
    ∃ b, BookAt W (Old W) b v ∧ fitBk (b.doms, b.tabs) := by
  obtain ⟨cs, rfl, _⟩ := okWide_struct Tryz.underlying25 hv
  obtain ⟨fuel, hf⟩ := h
  have hf' : DataW.trod enc Tryz.prog W base spare held fuel 25 cs.toList = some (d, p) := hf
  obtain ⟨y, ht', hy⟩ := opensBook H enc W base spare held fuel _ _ hf' (fun n hn => by simpa using List.all_eq_true.1 hsz _ (DataW.weights_mem_each ht hd n hn))
  obtain ⟨_, _, e, ⟨vd, rfl, h1⟩, ⟨vt, rfl, h2⟩⟩ := ht'
  refine ⟨⟨y.1, y.2⟩, ⟨vd, vt, ?_, h1, h2⟩, hy⟩
  have : cs = [vd, vt].toArray := by rw [show [vd, vt] = cs.toList from e.symm]
  rw [this]
theorem fitBk.small {b : BookD} (h : fitBk (b.doms, b.tabs)) : smallB b := ⟨fun d hd => Nat.le_trans (h.1 d hd) reach47, fun t ht => (h.2.2.1 t ht).small⟩
theorem fitBk.len {b : BookD} (h : fitBk (b.doms, b.tabs)) : b.tabs.length * 16 ≤ 140737488355328 := by
  have h1 := h.2.1
  have h2 := reach47
  simp only at h1
  omega
theorem fitBk.doms {b : BookD} (h : fitBk (b.doms, b.tabs)) : b.doms.length * 32 ≤ 140737488355328 := Nat.le_trans h.2.2.2 reach47
theorem fitBk.tabs {b : BookD} (h : fitBk (b.doms, b.tabs)) : b.tabs.length * 80 ≤ 140737488355328 := Nat.le_trans h.2.1 reach47

end Go.Proofs.YtmdljknlbmlacabGreatDoor
