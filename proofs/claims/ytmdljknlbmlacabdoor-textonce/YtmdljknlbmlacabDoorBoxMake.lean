/- slices.Clone at ranges, box.clone, join and Both: new boxes. Conditions: argument slices read as lists in old memory and fit into 2^47 bytes. -/
import Derived.Test.YtmdljknlbmlacabDoorBox
import Derived.Test.YtmdljknlbmlacabDoorSpan
namespace Go.Proofs.YtmdljknlbmlacabDoor
open Go.RowKit

theorem infoSet : (Tryd.prog.info? 53).map (fun i => (i.zero, i.size, i.bytes)) = some (some (.slice none 0 0), 1, 24) := by kernel_rfl
/-- what Both returns -/
def BothPost (l : List (List (Int × Int))) (ok : Bool) (w : World) (e : Ending) (w' : World) : Prop := ∃ v, e = .returned (.tuple #[v, .bool ok]) ∧ Sl Enc.rng.slice w' (From w.heap.size w') l v ∧ Below w.heap.size w w'

theorem BothPost.no {a b : List (List (Int × Int))} {w w' : World} (h : bothOk a b = false) (hb : Below w.heap.size w w') : BothPost (bothBox a b) (bothOk a b) w (.returned (.tuple #[.slice none 0 0, .bool false])) w' :=
  ⟨.slice none 0 0, by rw [h], by unfold bothBox; rw [h]; exact Sl.nil, hb⟩
theorem BothPost.yes {a b : List (List (Int × Int))} {w w' : World} {v : Value} (h : bothOk a b = true) (hs : Sl Enc.rng.slice w' (From w.heap.size w') (interL a b) v) (hb : Below w.heap.size w w') : BothPost (bothBox a b) (bothOk a b) w (.returned (.tuple #[v, .bool true])) w' :=
  ⟨v, by rw [h], by unfold bothBox; rw [if_pos h]; exact hs, hb⟩

theorem inter_at {a b : List (List (Int × Int))} {k : Nat} {s t : List (Int × Int)} (ha : a[k]? = some s) (hb : b[k]? = some t) : (interL a b)[k]? = some (bothF s t) := by
  simp [interL, List.getElem?_zipWith, ha, hb]
theorem set_at {b : List (List (Int × Int))} (h : setsB b = true) {k : Nat} {s : List (Int × Int)} (hk : b[k]? = some s) : goodB s = true := setsB_good h s (List.mem_of_getElem? hk)
theorem set_len {s : List (Int × Int)} (h : goodB s = true) : s.length ≤ 2000001 := good_length_le h
theorem fullB_take {b : List (List (Int × Int))} {k : Nat} {s : List (Int × Int)} (h : b[k]? = some s) (h0 : s.length = 0) : fullB b = false := by
  cases hf : fullB b
  · rfl
  · simp [fullB] at hf
    have := hf s (List.mem_of_getElem? h)
    omega

end Go.Proofs.YtmdljknlbmlacabDoor
