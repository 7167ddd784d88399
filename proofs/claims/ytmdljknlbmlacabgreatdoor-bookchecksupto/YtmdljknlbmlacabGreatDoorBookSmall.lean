/- What a bound on the bulk of a book's reading gives: the names of each table's inputs are few and short. No condition. -/
import Derived.Test.YtmdljknlbmlacabGreatDoorTellsSmall
import Derived.Test.YtmdljknlbmlacabGreatDoorBookOpens
import Derived.Test.YtmdljknlbmlacabGreatDoorRefBookF
namespace Go.Proofs.YtmdljknlbmlacabGreatDoor
open Go.ChangeShapes Go.WideShapes Go.ChangeAt Go.RowKit Go.Deep

theorem ins_smallC {H : Type} {enc : TypeId × Value → H} {W : World} {base : Nat} {spare : Nat → Bool} {held : Bool} {fuel : Nat} {x0 x1 x2 vi vr : Value} {ins : List ByteArray} {x : DataW H × List MemPlace}
    (hf' : DataW.trod enc Tryz.prog W base spare held fuel 59 [x0, x1, x2, vi, vr] = some x) (hi : Sl Enc.str W (Old W) ins vi) : ins.length ≤ Rows.uptoBulk x.1 ∧ ∀ s, s ∈ ins → s.size ≤ Rows.uptoBulk x.1 := by
  obtain ⟨xs, n, _, hx, hl, hxl, hg⟩ := DataW.trod_struct Tryz.underlying59 hf'
  have g3 := hg 3 _ rfl
  have hc : Tryz.prog.cellsOf 39 = 1 := by kernel_rfl
  have g3' : DataW.trod enc Tryz.prog W base spare held n 39 [vi] = xs[3]? := by simpa [hc] using g3
  have hlt : 3 < xs.length := by rw [hxl]; decide
  rw [List.getElem?_eq_getElem hlt] at g3'
  obtain ⟨h1, h2⟩ := strs_small g3' hi
  have hd : x.1 = .agg (xs.map (·.1)) := by have := congrArg Prod.fst hx; simpa using this
  have h3 : Rows.uptoBulk (xs[3].1) ≤ Rows.uptoBulkAll (xs.map (·.1)) := bulk_part (List.mem_map.2 ⟨_, List.getElem_mem hlt, rfl⟩)
  have h4 : Rows.uptoBulk x.1 = Rows.uptoBulkAll (xs.map (·.1)) + 1 := by rw [hd]; simp [Rows.uptoBulk]
  exact ⟨by omega, fun s hs => by have := h2 s hs; omega⟩
theorem addr_plain (b o n : Nat) : (⟨b, o, none⟩ : Addr).add n = ⟨b, o + n, none⟩ := by unfold Addr.add; split <;> simp_all
theorem tabs_small {H : Type} {enc : TypeId × Value → H} {W : World} {base : Nat} {spare : Nat → Bool} {held : Bool} {fuel : Nat} {vt : Value} {tabs : List TabD} {x : DataW H × List MemPlace}
    (h : DataW.trod enc Tryz.prog W base spare held fuel 23 [vt] = some x) (hi : Sl Enc.tab W (Old W) tabs vt) : ∀ t, t ∈ tabs → t.ins.length ≤ Rows.uptoBulk x.1 ∧ ∀ s, s ∈ t.ins → s.size ≤ Rows.uptoBulk x.1 := by
  have hu : Tryz.prog.underlying 23 = some (.slice 59) := by kernel_rfl
  have HI := Lib.hid hi
  obtain ⟨A, c, rfl, hc1, hc2, hn, h4⟩ := hi
  rcases open_slice hu h with ⟨e1, rfl⟩ | ⟨a, len, cap, m, n, D, Pl, e1, hb, hl, hm, hmm, rfl, hx⟩
  · injection e1 with e1 _
    injection e1 with _ e2 _
    obtain rfl : tabs = [] := List.length_eq_zero_iff.1 e2
    intro t ht; simp at ht
  · injection e1 with e1 _
    injection e1 with e2 e3 e4
    have hlm : len ≤ m := by rw [hmm]; split <;> omega
    have hle : Rows.uptoBulkAll ((List.range len).map D) ≤ Rows.uptoBulk (DataW.slice (H := H) ((List.range len).map D) ((List.range (m - len)).map fun j => D (len + j))) := by simp only [Rows.uptoBulk]; omega
    have hc9 : Tryz.prog.cellsOf 59 = 5 := by kernel_rfl
    intro t ht
    obtain ⟨i, hi', rfl⟩ := List.getElem_of_mem ht
    obtain ⟨b, o, nm, pol, comp, ins, rules, vi, vr, e5, _, hy, k0, k1, k2, k3, k4, hii, -⟩ := HI.out.tab_at hi'
    have hyi : tabs[i] = ⟨nm, pol, comp, ins, rules⟩ := by have := hy.out; rw [List.getElem?_eq_getElem hi'] at this; exact Option.some.inj this
    rw [hyi]
    rw [e2] at e5
    injection e5 with e5
    subst e5
    obtain ⟨cs', g1, g2⟩ := hx i (by omega)
    obtain ⟨_, hl', hcs⟩ := World.cells?_some g1
    rw [hc9] at hl'
    have hcell : ∀ j, j < 5 → W.cell? ⟨b, o + i * 5 + j, none⟩ = cs'[j]? := by
      intro j hj
      have := hcs j (by rw [hc9]; omega)
      rw [hc9, addr_plain, addr_plain] at this
      exact this
    have f0 := (hcell 0 (by omega)).symm.trans k0
    have f1 := (hcell 1 (by omega)).symm.trans k1
    have f2 := (hcell 2 (by omega)).symm.trans k2
    have f3 := (hcell 3 (by omega)).symm.trans k3
    have f4 := (hcell 4 (by omega)).symm.trans k4
    match cs', hl' with
    | [y0, y1, y2, y3, y4], _ =>
      simp at f3
      subst f3
      obtain ⟨r1, r2⟩ := ins_smallC g2 hii
      have h2 : Rows.uptoBulk (D i) ≤ Rows.uptoBulkAll ((List.range len).map D) := bulk_part (List.mem_map.2 ⟨i, List.mem_range.2 (by omega), rfl⟩)
      simp only at r1 r2 ⊢
      exact ⟨by show _ ≤ Rows.uptoBulk (DataW.slice _ _); omega, fun s hs => by have := r2 s hs; show _ ≤ Rows.uptoBulk (DataW.slice _ _); omega⟩
/-- a book -/
theorem book_small {H : Type} {enc : TypeId × Value → H} {W : World} {base : Nat} {spare : Nat → Bool} {held : Bool} {bk : BookD} {v : Value} {d : DataW H} {p : List MemPlace}
    (h : DataW.Trod enc Tryz.prog W base spare held 25 v d p) (hb : BookAt W (Old W) bk v) : ∀ t, t ∈ bk.tabs → t.ins.length ≤ Rows.uptoBulk d ∧ ∀ s, s ∈ t.ins → s.size ≤ Rows.uptoBulk d := by
  obtain ⟨vd, vt, rfl, -, ht⟩ := hb
  obtain ⟨fuel, hf⟩ := h
  have hf' : DataW.trod enc Tryz.prog W base spare held fuel 25 [vd, vt] = some (d, p) := hf
  obtain ⟨xs, n, _, hx, hl, hxl, hg⟩ := DataW.trod_struct Tryz.underlying25 hf'
  have g1 := hg 1 _ rfl
  have hc : Tryz.prog.cellsOf 23 = 1 := by kernel_rfl
  have g1' : DataW.trod enc Tryz.prog W base spare held n 23 [vt] = xs[1]? := by simpa [hc] using g1
  have hlt : 1 < xs.length := by rw [hxl]; decide
  rw [List.getElem?_eq_getElem hlt] at g1'
  have hd : d = .agg (xs.map (·.1)) := by have := congrArg Prod.fst hx; simpa using this
  have h3 : Rows.uptoBulk (xs[1].1) ≤ Rows.uptoBulkAll (xs.map (·.1)) := bulk_part (List.mem_map.2 ⟨_, List.getElem_mem hlt, rfl⟩)
  have h4 : Rows.uptoBulk d = Rows.uptoBulkAll (xs.map (·.1)) + 1 := by rw [hd]; simp [Rows.uptoBulk]
  intro t ht'
  obtain ⟨r1, r2⟩ := tabs_small g1' ht t ht'
  exact ⟨by omega, fun s hs => by have := r2 s hs; omega⟩
theorem fitBk.copy {b : BookD} (h : fitBk (b.doms, b.tabs)) {t : TabD} (ht : t ∈ b.tabs) : copyT t :=
  have ft := h.2.2.1 t ht
  ⟨Nat.le_trans ft.1.2.2.1 reach47, ft.2.1, fun r hr => ⟨(ft.2.2 r hr).1.1, fun c hc => ((ft.2.2 r hr).1.2 c hc).1⟩⟩

end Go.Proofs.YtmdljknlbmlacabGreatDoor
