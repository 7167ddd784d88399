/- An argument that is a slice of ranges, read as a list of pairs. No condition. -/
import Derived.Test.YthnfkghgaagaiabRows
import Derived.Test.YthnfkghgaagaiabMem
import Derived.OpenShut
import Derived.ProofKit
import Derived.SizedLaws
import Derived.Deep.SlicePairs
namespace Go.Proofs.Ythnfkghgaagaiab
open Go.ChangeShapes Go.WideShapes Go.ChangeAt Go.RowKit Go.Deep

theorem own : ownKnob Try.prog.godebug = none := by kernel_rfl
theorem laidOut : laidOutB Try.prog = true := by kernel_rfl

theorem addr_zero {w : World} {a : Addr} {v : Value} (h : w.cell? (a.add 0) = some v) : a = ⟨a.block, a.off, none⟩ ∧ a.block < w.heap.size := by
  have e : a.add 0 = a := by unfold Addr.add; simp
  rw [e] at h
  obtain ⟨b, o, s⟩ := a
  have hs := World.cell?_spot h
  simp only at hs
  subst hs
  exact ⟨rfl, World.block_lt_of_cell? w _ h⟩
theorem addr_at {a : Addr} (ha : a = ⟨a.block, a.off, none⟩) (k : Nat) : a.add k = ⟨a.block, a.off + k, none⟩ := by
  unfold Addr.add
  split
  · rename_i h; subst h; exact ha
  · rfl

theorem wf_bounds {n : Int} (h : (Lit.int .i64 n).wf = true) : -9223372036854775808 ≤ n ∧ n ≤ 9223372036854775807 := by
  have h1 : IntKind.i64.min = -9223372036854775808 := rfl
  have h2 : IntKind.i64.max = 9223372036854775807 := rfl
  simp only [Lit.wf, Bool.and_eq_true, decide_eq_true_eq] at h
  omega

theorem open_rngs {H : Type} {enc : TypeId × Value → H} {W : World} {base : Nat} {spare : Nat → Bool} {held : Bool} {a0 : Option Addr} {len cap : Nat} {d : DataW H} {p : List MemPlace}
    (h : DataW.Trod enc Try.prog W base spare held 71 (.slice a0 len cap) d p) :
    ∃ l, Sl Enc.rng W (Old W) l (.slice a0 len cap) ∧ ((d = .nil ∧ l = []) ∨ ∃ elems sp, d = .slice elems sp ∧ elems.length = l.length) ∧ ∀ r, r ∈ l → -9223372036854775808 ≤ r.2 := by
  obtain ⟨fuel, hf⟩ := h
  have hf' : DataW.trod enc Try.prog W base spare held fuel 71 [.slice a0 len cap] = some (d, p) := by simpa [Value.cells] using hf
  rcases open_slice_pairs Try.underlying71 Try.underlying75 (by kernel_rfl) rfl rfl (by kernel_rfl) (by kernel_rfl) hf' with ⟨hcs, hx⟩ | ⟨a, len', cap', m, n, V0, V1, D0, D1, P0, P1, hcs, _, hl, hm, hmm, hx, hi⟩
  · simp at hcs hx
    obtain ⟨rfl, rfl, rfl⟩ := hcs
    exact ⟨[], Sl.nil, .inl ⟨hx.1, rfl⟩, fun r hr => by simp at hr⟩
  · simp at hcs hx
    obtain ⟨rfl, rfl, rfl⟩ := hcs
    have hlm : len ≤ m := by rw [hmm]; split <;> omega
    have hv : ∀ i, i < m → V0 i = .int .i64 (intOf (V0 i)) ∧ V1 i = .int .i64 (intOf (V1 i)) ∧ -9223372036854775808 ≤ intOf (V1 i) := by
      intro i him
      obtain ⟨_, _, t0, t1⟩ := hi i him
      obtain ⟨n0, e0, _⟩ := DataW.trod_int Try.underlying3 t0
      obtain ⟨n1, e1, _, wf1⟩ := DataW.trod_int Try.underlying3 t1
      simp at e0 e1
      rw [e0, e1]; exact ⟨rfl, rfl, (wf_bounds wf1).1⟩
    refine ⟨(List.range len).map fun i => (intOf (V0 i), intOf (V1 i)), ⟨some a, cap, by simp, by simpa using hl, hm, (fun h => by cases h), fun h0 => ?_⟩, .inr ⟨_, _, hx.1, by simp⟩, fun r hr => ?_⟩
    rotate_left
    · obtain ⟨i, hi', rfl⟩ := List.mem_map.1 hr
      exact (hv i (by have := List.mem_range.1 hi'; omega)).2.2
    have h0' : 0 < len := by simpa using h0
    obtain ⟨ha, hb⟩ := addr_zero (by have := (hi 0 (by omega)).1; rwa [Nat.zero_mul] at this)
    refine ⟨a.block, a.off, by rw [← ha], hb, fun i x hx => ?_⟩
    obtain ⟨hlt, ex⟩ := List.getElem?_eq_some_iff.1 hx
    simp at hlt ex
    subst ex
    refine ⟨_, rfl, fun j u hu => ?_⟩
    obtain ⟨c0, c1, _, _⟩ := hi i (by omega)
    obtain ⟨e0, e1, _⟩ := hv i (by omega)
    rw [addr_at ha, e0] at c0
    rw [addr_at ha, e1] at c1
    match j with
    | 0 => simp at hu; subst hu; exact c0
    | 1 => simp at hu; subst hu; exact c1
    | j + 2 => simp at hu

theorem bytesRange : Try.prog.bytesOf 75 = 16 := by kernel_rfl

end Go.Proofs.Ythnfkghgaagaiab
