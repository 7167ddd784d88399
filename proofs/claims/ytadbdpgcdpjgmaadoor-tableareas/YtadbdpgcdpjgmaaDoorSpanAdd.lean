/- span.add and span.clipped: what they return, over rows that the caller has made. Conditions: what is appended to is the caller's own new row and fits into 2^47 bytes. -/
import Derived.Test.YtadbdpgcdpjgmaaDoorSpan
import Derived.Test.YtadbdpgcdpjgmaaDoorOwn
namespace Go.Proofs.YtadbdpgcdpjgmaaDoor
open Go.RowKit

theorem under_rs : Tryd.prog.underlying 38 = some (.slice 43) := by kernel_rfl

/-- the new row reads as l; of what was there only the old row's block may have turned -/
def AddPost (base : Nat) (v : Value) (l : List (Int × Int)) (w : World) (e : Ending) (w' : World) : Prop :=
  ∃ v', e = .returned v' ∧ OwnR w' base 43 v' l ∧ w.grownBy w' v.ownBlock ∧ Moved w v v'

set_option maxHeartbeats 400000 in
theorem span_add (base : Nat) (v : Value) (l : List (Int × Int)) (x y : Int) (w : World) (h : OwnR w base 43 v l) (hbase : base ≤ w.heap.size) (hl : (l.length + 1) * 16 ≤ 140737488355328) :
    Calls Tryd.prog 81 #[v, .agg #[.int .i64 x, .int .i64 y]] w (AddPost base v (l ++ addL x y) w) := by
  have H := Lib.hid h
  by_cases hxy : y < x
  · have ea : Hid (addL x y = []) := by simp [addL, hxy, Hid]
    go_enter Tryd.func81, Tryd.ntmps81
    go_wp2_with (go_at_call 75; refine (span_empty _ _ _).mono ?_; rintro e w' ⟨rfl, hb'⟩)
    go_ret
    have hb2 : Below w.heap.size w w' := below_next ((Below.refl _ _).alloc (Nat.le_refl _) _) (by simp) hb'
    exact ⟨v, rfl, by rw [ea.out, List.append_nil]; exact H.out.below hb2 (Nat.le_refl _), grown_of_below hb2, Moved.refl _ _⟩
  · have ea : Hid (addL x y = [(x, y)]) := by simp [addL, hxy, Hid]
    go_enter Tryd.func81, Tryd.ntmps81
    go_wp2_with fail
    refine (span_empty _ _ _).mono ?_
    rintro e w' ⟨rfl, hb'⟩
    have q0 : w'.cell? ⟨w.heap.size, 0, none⟩ = some (.int .i64 x) := (hb'.cell (p := ⟨w.heap.size, 0, none⟩) (by simp)).trans (by simp)
    have q1 : w'.cell? ⟨w.heap.size, 1, none⟩ = some (.int .i64 y) := (hb'.cell (p := ⟨w.heap.size, 1, none⟩) (by simp)).trans (by simp)
    have hb2 : Below w.heap.size w w' := below_next ((Below.refl _ _).alloc (Nat.le_refl _) _) (by simp) hb'
    have hsz := hb2.size
    have ho : Hid (w'.ownsRow base 43 2 v l.length (cellsR l)) := H.out.below hb2 (Nat.le_refl _)
    clear h
    go_wp2_with (at_builtin; refine wpList_append_mine _ rfl _ _ 38 rfl base 43 2 16 (.agg #[.int .i64 0, .int .i64 0]) under_rs infoRange rfl (by decide) _ _ _ rfl (ho.out.alloc _) ⟨w'.heap.size, 0, none⟩ 1 1 [.int .i64 x, .int .i64 y] rfl rfl (cell_two_new _ _ _ _) (fun x hx => by simp at hx; rcases hx with rfl | rfl <;> rfl) (by unfold maxLen; omega) (by omega) (by simp; omega) (by decide) ?_; intro v' w3 hown' hgrow3 hmv)
    go_ret
    refine ⟨v', rfl, ?_, ?_, hmv.later (by simp; omega)⟩
    · rw [ea.out]
      unfold OwnR
      rw [cellsR_append, List.length_append]
      exact hown'
    · exact World.grownBy.trans' (grown_of_below (hb2.alloc hsz _)) hgrow3

/-- of a row that began empty in this call -/
theorem AddPost.mk {w w' : World} {v' : Value} {l : List (Int × Int)} (ho : OwnR w' w.heap.size 43 v' l) (hb : Below w.heap.size w w') : AddPost w.heap.size (.slice none 0 0) l w (.returned v') w' :=
  ⟨v', rfl, ho, grown_of_below hb, fun _ hg => .inr (ho.lt _ hg).1⟩

end Go.Proofs.YtadbdpgcdpjgmaaDoor
