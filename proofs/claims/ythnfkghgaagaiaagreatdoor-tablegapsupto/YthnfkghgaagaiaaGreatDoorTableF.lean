/- table.sums, extremes and Span, as Lean functions of the data that their arguments read as. Conditions: argument slices read as lists in old memory; numbers that are added are bounded as those of good tables are. -/
import Derived.Test.YthnfkghgaagaiaaGreatDoorTableE
namespace Go.Proofs.YthnfkghgaagaiaaGreatDoor
open Go.RowKit

def lowS (l : List RuleD) : Int := (l.map fun r => min r.2 0).sum
def highS (l : List RuleD) : Int := (l.map fun r => max r.2 0).sum
theorem lowS_take {l : List RuleD} {k : Nat} {cs : List CellD} {x : Int} (h : l[k]? = some (cs, x)) : lowS (l.take (k + 1)) = lowS (l.take k) + min x 0 := by
  unfold lowS; rw [map_take _ h]; simp
theorem highS_take {l : List RuleD} {k : Nat} {cs : List CellD} {x : Int} (h : l[k]? = some (cs, x)) : highS (l.take (k + 1)) = highS (l.take k) + max x 0 := by
  unfold highS; rw [map_take _ h]; simp
theorem sums_bound {l : List RuleD} (hb : ∀ r, r ∈ l → -1000000 ≤ r.2 ∧ r.2 ≤ 1000000) (k : Nat) : (-1000000 * (k : Int) ≤ lowS (l.take k) ∧ lowS (l.take k) ≤ 0) ∧ 0 ≤ highS (l.take k) ∧ highS (l.take k) ≤ 1000000 * (k : Int) := by
  induction k with
  | zero => simp [lowS, highS]
  | succ k ih =>
    by_cases hk : k < l.length
    · have hx : l[k]? = some l[k] := List.getElem?_eq_getElem hk
      have hm := hb _ (List.getElem_mem hk)
      generalize l[k] = r at hx hm
      obtain ⟨cs, x⟩ := r
      rw [lowS_take hx, highS_take hx]
      simp only at hm
      push_cast
      omega
    · rw [List.take_of_length_le (by omega)]
      rw [List.take_of_length_le (by omega)] at ih
      push_cast
      omega
def RngPost (r : Int × Int) (w : World) (e : Ending) (w' : World) : Prop := e = .returned (.agg #[.int .i64 r.1, .int .i64 r.2]) ∧ Below w.heap.size w w'

theorem heap_old {w : World} {g : Nat} (h : g < w.heap.size) (o : Obj) : (w.alloc o).heap[g]? = w.heap[g]? := (below_alloc1 w o).block g h
/-- a struct of two ints of the call's own, at the block g -/
def Two (w : World) (g : Nat) (x y : Int) : Prop := g < w.heap.size ∧ w.cell? ⟨g, 0, none⟩ = some (.int .i64 x) ∧ w.cell? ⟨g, 1, none⟩ = some (.int .i64 y) ∧ w.frozen? ⟨g, 0, none⟩ = false ∧ w.frozen? ⟨g, 1, none⟩ = false
theorem Two.new (w : World) (x y : Int) (e : Nat) : Two (w.alloc (.cells #[.int .i64 x, .int .i64 y] e)) w.heap.size x y := ⟨by simp, cell_new _ _ _ _ _ rfl, cell_new _ _ _ _ _ rfl, by simp, by simp⟩
theorem Two.alloc {w : World} {g : Nat} {x y : Int} (h : Two w g x y) (o : Obj) : Two (w.alloc o) g x y := by
  obtain ⟨h0, h1, h2, h3, h4⟩ := h
  refine ⟨by simp; omega, (World.cell?_alloc_lt _ _ _ h0).trans h1, (World.cell?_alloc_lt _ _ _ h0).trans h2, ?_, ?_⟩
  · exact (World.frozen?_of_block (heap_old h0 o)).trans h3
  · exact (World.frozen?_of_block (heap_old h0 o)).trans h4
theorem Two.next {w w' : World} {g : Nat} {x y : Int} (h : Two w g x y) (hb : Below w.heap.size w w') : Two w' g x y := by
  obtain ⟨h0, h1, h2, h3, h4⟩ := h
  exact ⟨Nat.lt_of_lt_of_le h0 hb.size, (hb.cell (p := ⟨g, 0, none⟩) h0).trans h1, (hb.cell (p := ⟨g, 1, none⟩) h0).trans h2, (World.frozen?_of_block (hb.block g h0)).trans h3, (World.frozen?_of_block (hb.block g h0)).trans h4⟩
theorem Two.set0 {w : World} {g : Nat} {x y : Int} (h : Two w g x y) (z : Int) : Two (w.setCell ⟨g, 0, none⟩ (.int .i64 z)) g z y := by
  obtain ⟨h0, h1, h2, h3, h4⟩ := h
  exact ⟨by simpa [World.setCell] using h0, World.cell?_setCell_same w _ _ h1, (World.cell?_setCell_other w _ _ _ (by simp)).trans h2, by simpa using h3, by simpa using h4⟩
theorem Two.set1 {w : World} {g : Nat} {x y : Int} (h : Two w g x y) (z : Int) : Two (w.setCell ⟨g, 1, none⟩ (.int .i64 z)) g x z := by
  obtain ⟨h0, h1, h2, h3, h4⟩ := h
  exact ⟨by simpa [World.setCell] using h0, (World.cell?_setCell_other w _ _ _ (by simp)).trans h1, World.cell?_setCell_same w _ _ h2, by simpa using h3, by simpa using h4⟩
theorem Two.other {w : World} {g g' o : Nat} {x y : Int} (h : Two w g x y) (hne : g' ≠ g) (v : Value) : Two (w.setCell ⟨g', o, none⟩ v) g x y := by
  obtain ⟨h0, h1, h2, h3, h4⟩ := h
  exact ⟨by simpa [World.setCell] using h0, (World.cell?_setCell_other w _ _ _ (by simp)).trans h1, (World.cell?_setCell_other w _ _ _ (by simp)).trans h2, by simpa using h3, by simpa using h4⟩

/-- such a struct is handed back -/
theorem ret_two {fn : Func} {p : Tmp} {tmps : Array Value} {W : World} {g : Nat} {x y : Int} (h : fn.results = #[.cell p 62]) (hp : tmps.getD p undef = .pointer (some ⟨g, 0, none⟩)) (ht : Two W g x y) :
    (results fn tmps).run Tryz.prog W = .ok (.agg #[.int .i64 x, .int .i64 y]) W := by
  obtain ⟨_, q0, q1, _, _⟩ := ht
  have hp' : tmps[p]?.getD undef = .pointer (some ⟨g, 0, none⟩) := by simpa using hp
  simp [results, h, hp', go_sem, q0, q1]

end Go.Proofs.YthnfkghgaagaiaaGreatDoor
