/- slices.Clone at ranges, box.clone, join and Both: new boxes. Conditions: argument slices read as lists in old memory and fit into 2^47 bytes. -/
import Derived.Test.YtmdljknlbmlacaaDoorBox
import Derived.Test.YtmdljknlbmlacaaDoorSpan
namespace Go.Proofs.YtmdljknlbmlacaaDoor
open Go.RowKit

theorem infoSet : (Tryd.prog.info? 38).map (fun i => (i.zero, i.size, i.bytes)) = some (some (.slice none 0 0), 1, 24) := by kernel_rfl
theorem under_box : Tryd.prog.underlying 49 = some (.slice 38) := by kernel_rfl
theorem infoBox : (Tryd.prog.info? 49).map (fun i => (i.zero, i.size, i.bytes)) = some (some (.slice none 0 0), 1, 24) := by kernel_rfl
set_option maxRecDepth 100000 in
set_option maxHeartbeats 400000 in
theorem slices_Clone (l : List (Int × Int)) (v : Value) (w : World) (h : Sl Enc.rng w (Old w) l v) (hl : l.length * 16 ≤ 140737488355328) :
    Calls Tryd.prog 62 #[v] w (NewPost Enc.rng l w) := by
  have H := Lib.hid h
  obtain ⟨A, c, rfl, hc1, hc2, hn, -⟩ := h
  cases A with
  | none =>
    have hc := hn rfl
    subst hc
    have e : l = [] := List.length_eq_zero_iff.1 (by omega)
    subst e
    have hq := fun w => Lib.run_eql_slice_nil (P := Tryd.prog) w 38 43 none 0 0 0 0 under_rs
    clear hn
    go_enter Tryd.func62, Tryd.ntmps62
    go_wp2
    go_ret
    exact ⟨_, rfl, Sl.nil, Below.refl _ _⟩
  | some a =>
    clear hn
    unfold maxLen at hc2
    have hq := fun w => Lib.run_eql_slice_nil (P := Tryd.prog) w 38 43 (some a) l.length c 0 0 under_rs
    have HL : Hid (OwnG Enc.rng (w.alloc (.cells #[] 43)) w.heap.size w.heap.size 43 (.slice (some ⟨w.heap.size, 0, none⟩) 0 0) []) := OwnG.lit w [] #[] (Nat.le_refl _) (by simp) rfl Elems.nil
    have HS := Lib.hid (H.out.onOld (below_alloc1 w (.cells #[] 43)))
    go_enter Tryd.func62, Tryd.ntmps62
    go_wp2_with (at_builtin; refine wpList_append_all (E := Enc.rng) _ rfl _ _ 38 rfl w.heap.size w.heap.size 43 16 (.agg #[.int .i64 0, .int .i64 0]) under_rs infoRange rfl (by decide) _ _ rfl HL.out _ l rfl _ HS.out (fun _ _ h => h) (by simp; omega) (by unfold maxLen; simp; omega) (by simp) ?_; intro v' w3 hown' hgrow3 _)
    go_ret
    exact ⟨v', rfl, hown'.sl (Nat.le_refl _), (below_alloc1 w _).grown hgrow3 (by simp) (fun k h => (HL.out.lt k h).1)⟩

/-- what Both returns -/
def BothPost (l : List (List (Int × Int))) (ok : Bool) (w : World) (e : Ending) (w' : World) : Prop := ∃ v, e = .returned (.tuple #[v, .bool ok]) ∧ Sl Enc.rng.slice w' (From w.heap.size w') l v ∧ Below w.heap.size w w'

theorem BothPost.no {a b : List (List (Int × Int))} {w w' : World} (h : bothOk a b = false) (hb : Below w.heap.size w w') : BothPost (bothBox a b) (bothOk a b) w (.returned (.tuple #[.slice none 0 0, .bool false])) w' :=
  ⟨.slice none 0 0, by rw [h], by unfold bothBox; rw [h]; exact Sl.nil, hb⟩
theorem BothPost.yes {a b : List (List (Int × Int))} {w w' : World} {v : Value} (h : bothOk a b = true) (hs : Sl Enc.rng.slice w' (From w.heap.size w') (interL a b) v) (hb : Below w.heap.size w w') : BothPost (bothBox a b) (bothOk a b) w (.returned (.tuple #[v, .bool true])) w' :=
  ⟨v, by rw [h], by unfold bothBox; rw [if_pos h]; exact hs, hb⟩

theorem inter_at {a b : List (List (Int × Int))} {k : Nat} {s t : List (Int × Int)} (ha : a[k]? = some s) (hb : b[k]? = some t) : (interL a b)[k]? = some (bothF s t) := by
  simp [interL, List.getElem?_zipWith, ha, hb]
theorem set_at {b : List (List (Int × Int))} (h : setsB b = true) {k : Nat} {s : List (Int × Int)} (hk : b[k]? = some s) : goodB s = true := setsB_good h s (List.mem_of_getElem? hk)
theorem set_len {s : List (Int × Int)} (h : goodB s = true) : s.length ≤ 2000001 := good_length_le h
theorem fullB_take {b : List (List (Int × Int))} {k : Nat} {s : List (Int × Int)} (h : b[k]? = some s) (h0 : s.length = 0) : fullB b = false := by
  cases hf : fullB b
  · rfl
  · simp [fullB] at hf
    have := hf s (List.mem_of_getElem? h)
    omega

end Go.Proofs.YtmdljknlbmlacaaDoor
