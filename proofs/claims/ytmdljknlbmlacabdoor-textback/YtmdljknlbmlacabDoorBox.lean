/- box.Good, alike and Has, each as a Lean function of the lists that its arguments read as. Conditions: argument slices read as lists in old memory. -/
import Derived.Test.YtmdljknlbmlacabDoorSpan
import Derived.Test.YtmdljknlbmlacabDoorMem
import Derived.Test.YtmdljknlbmlacabDoorBoxes
namespace Go.Proofs.YtmdljknlbmlacabDoor
open Go.RowKit

theorem bx {w w1 w2 : World} (h : Below w.heap.size w w1) (h' : Below w1.heap.size w1 w2) : Below w.heap.size w w2 := below_next h h.size h'
theorem below_alloc1 (w : World) (o : Obj) : Below w.heap.size w (w.alloc o) := (Below.refl _ _).alloc (Nat.le_refl _) o

theorem cell_new (w : World) (cs : Array Value) (e j : Nat) (v : Value) (h : cs[j]? = some v) : (w.alloc (.cells cs e)).cell? ⟨w.heap.size, j, none⟩ = some v := (World.cell?_alloc_new ..).trans h
theorem undrew {w w' : World} (h : Below w.drew.heap.size w.drew w') : Below w.heap.size w w' := ⟨h.os, h.tape, h.output, h.size, h.block⟩

theorem setsB_at {b : List (List (Int × Int))} {k : Nat} {s : List (Int × Int)} (h : b[k]? = some s) : setsB (b.drop k) = ((decide (0 < s.length) && goodB s) && setsB (b.drop (k + 1))) := by
  rw [drop_at h]; rfl

theorem hasBox_at {b : List (List (Int × Int))} {l : List Int} {k : Nat} {s : List (Int × Int)} {n : Int} (h : b[k]? = some s) (h' : l[k]? = some n) : hasBox (b.drop k) (l.drop k) = (hasB s n && hasBox (b.drop (k + 1)) (l.drop (k + 1))) := by
  rw [drop_at h, drop_at h']; rfl
theorem hasBox_ne {b : List (List (Int × Int))} {l : List Int} (h : l.length ≠ b.length) : hasBox b l = false := by
  cases hb : hasBox b l
  · rfl
  · exact absurd (hasBox_length hb) h
/-- one number of a slice -/
theorem Sl.num_at {w : World} {S : Nat → Prop} {l : List Int} {A : Option Addr} {n c : Nat} (h : Sl Enc.int w S l (.slice A n c)) {k : Nat} (hk : k < l.length) :
    ∃ b o x, A = some ⟨b, o, none⟩ ∧ S b ∧ Hid (l[k]? = some x) ∧ w.cell? ⟨b, o + k, none⟩ = some (.int .i64 x) := by
  obtain ⟨A, c, e, h2, h3, _, h4⟩ := h
  injection e with e1 e2 e3
  subst e1 e2 e3
  obtain ⟨b, o, rfl, h6, h7⟩ := h4 (by omega)
  obtain ⟨cs, h8, h9⟩ := h7 k l[k] (List.getElem?_eq_getElem hk)
  have h8' : cs = [.int .i64 l[k]] := h8
  subst h8'
  refine ⟨b, o, l[k], rfl, h6, List.getElem?_eq_getElem hk, ?_⟩
  have := h9 0 _ rfl
  have es : Enc.int.size = 1 := rfl
  rw [es, Nat.mul_one, Nat.add_zero] at this
  exact this

end Go.Proofs.YtmdljknlbmlacabDoor
