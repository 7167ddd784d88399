/- ratebookref.CellHolds and AreaOf, each as a Lean function of the data that its arguments read as. Conditions: argument slices read as lists in old memory; the cells of AreaOf's rule are good. -/
import Derived.Test.YtmdljknlbmlacabGreatDoorRefTab
import Derived.Test.YtmdljknlbmlacabGreatDoorTableI
import Derived.Test.YtmdljknlbmlacabGreatDoorTabLit
import Derived.Test.YtmdljknlbmlacabGreatDoorRefSets2
import Derived.Test.YtmdljknlbmlacabGreatDoorRefBox
namespace Go.Proofs.YtmdljknlbmlacabGreatDoor
open Go.RowKit

theorem made_part {l : List Int} {s rs : List (Int × Int)} {ng : Bool} (hs : goodB s = true) (h : Incr l) (hm : ∀ x, x ∈ l ↔ EdgeOf [s, rs] x) : madeF (fun n => hasB s n && holdsC (ng, rs) n) [] l = partV (ng, rs) s := by
  obtain ⟨g, m⟩ := made_set h hm (fun n => hasB s n && holdsC (ng, rs) n) (fun i n hn x h1 h2 => by
    unfold holdsC
    rw [has_const h hm (s := s) (by simp) hn h1 h2, has_const h hm (s := rs) (by simp) hn h1 h2])
  obtain ⟨g2, m2⟩ := part_good (c := (ng, rs)) hs
  refine good_unique g g2 (fun n => ?_)
  rw [m, m2]
  cases hh : hasB s n with
  | false => simp
  | true => have := good_in hs hh; simp [this.1, this.2]

set_option maxHeartbeats 400000 in
theorem ref_CellHolds (ng : Bool) (rs : List (Int × Int)) (n : Int) (v : Value) (w : World) (h : Sl Enc.rng w (Old w) rs v) :
    Calls Tryz.prog 98 #[.agg #[.bool ng, v], .int .i64 n] w fun e w' => e = .returned (.bool (holdsC (ng, rs) n)) ∧ Below w.heap.size w w' := by
  have H := Lib.hid h
  obtain ⟨A, c, rfl, hc1, hc2, -⟩ := h
  unfold maxLen at hc2
  have hb0 := below_alloc1 w (.cells #[.bool ng, .slice A rs.length c] 79)
  have H1 := Lib.hid (H.out.onOld hb0)
  by_cases h0 : rs.length = 0
  · have h0' : (rs.length : Int) = 0 := by omega
    have HE : Hid (holdsC (ng, rs) n = true) := by simp [holdsC, h0, Hid]
    go_enter Tryz.func98, Tryz.ntmps98
    go_wp2
    go_ret
    exact ⟨ret_bool HE.out.symm, below_alloc1 _ _⟩
  · have h0' : ((rs.length : Int) == 0) = false := beq_eq_false_iff_ne.2 (by omega)
    have HE : Hid (holdsC (ng, rs) n = (hasB rs n != ng)) := by show _ = _; unfold holdsC; rw [decide_eq_false h0]; rfl
    generalize holdsC (ng, rs) n = G at HE ⊢
    have k0 : (w.alloc (.cells #[.bool ng, .slice A rs.length c] 79)).cell? ⟨w.heap.size, 0, none⟩ = some (.bool ng) := cell_new _ _ _ _ _ rfl
    have k1 : (w.alloc (.cells #[.bool ng, .slice A rs.length c] 79)).cell? ⟨w.heap.size, 1, none⟩ = some (.slice A rs.length c) := cell_new _ _ _ _ _ rfl
    have hg0 : w.heap.size < (w.alloc (.cells #[.bool ng, .slice A rs.length c] 79)).heap.size := by simp
    go_enter Tryz.func98, Tryz.ntmps98
    go_wp2_with fail
    generalize w.alloc (.cells #[.bool ng, .slice A rs.length c] 79) = w0 at *
    go_region_held3 (fun w' => w'.cell? ⟨w.heap.size, 0, none⟩ = some (.bool ng) ∧ w'.cell? ⟨w.heap.size, 1, none⟩ = some (.slice A rs.length c)) (first | exact ⟨k0, k1⟩ | exact ⟨j0, j1⟩)
      (first
       | (go_at_call 96; refine (ref_InSet rs _ n _ ?_).mono ?_; exact H1.out; rintro e w1 ⟨rfl, hb1⟩; have j0 := (hb1.cell (p := ⟨w.heap.size, 0, none⟩) hg0).trans k0; have j1 := (hb1.cell (p := ⟨w.heap.size, 1, none⟩) hg0).trans k1; have hb01 := bx hb0 (undrew hb1); clear hb1))
    all_goals go_wp2
    all_goals go_ret
    all_goals exact ⟨ret_bool (by rw [HE.out]; cases hasB rs n <;> cases ng <;> rfl), hb01⟩

theorem lit_sets (W : World) (s rs : List (Int × Int)) (vs vr : Value) (e : Nat) (hs : Sl Enc.rng W (Old W) s vs) (hr : Sl Enc.rng W (Old W) rs vr) :
    Sl Enc.rng.slice (W.alloc (.cells #[vs, vr] e)) (Old (W.alloc (.cells #[vs, vr] e))) [s, rs] (.slice (some ⟨W.heap.size, 0, none⟩) 2 2) :=
  lit_old (E := Enc.rng.slice) W [s, rs] #[vs, vr] e (maxLen_ge (by simp)) rfl (Elems.append (us := [vs]) (l := [s]) (m := [rs]) (Elems.one ⟨_, rfl, hs⟩) (Elems.one ⟨_, rfl, hr⟩) rfl)
theorem loIn_two {s rs : List (Int × Int)} (hs : goodB s = true) (hr : goodB rs = true) : ∀ x, x ∈ [s, rs] → loIn x := by
  intro x hx
  rcases List.mem_cons.1 hx with rfl | hx
  · exact loIn_of_good hs
  · have : x = rs := by simpa using hx
    subst this; exact loIn_of_good hr

end Go.Proofs.YtmdljknlbmlacabGreatDoor
