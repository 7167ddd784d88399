/- ratebookref.NormOf, BothOf, LessOf and SizeOf. Conditions: argument slices read as lists of pairs in old memory; for BothOf and LessOf both are sets. -/
import Derived.Test.YtmdljknlbmlacaaRefEdge
import Derived.Test.YtmdljknlbmlacaaSets
import Derived.Test.YtmdljknlbmlacaaKeepSpan
namespace Go.Proofs.Ytmdljknlbmlacaa
open Go.RowKit

theorem bn' {w w1 w2 : World} (h : Below w.heap.size w w1) (h' : Below w1.heap.size w1 w2) : Below w.heap.size w w2 := below_next h h.size h'
theorem Sl.next' {α : Type} {E : Enc α} {w w' : World} {l : List α} {v : Value} (h : Sl E w (Old w) l v) (hb : Below w.heap.size w w') : Sl E w' (Old w') l v :=
  (h.below (fun _ h => h) hb).more fun _ h => Nat.lt_of_lt_of_le h hb.size

set_option maxHeartbeats 400000 in
theorem norm_holds (B : Nat) (l : List (Int × Int)) (v : Value) (n : Int) (w : World) (hv : w.cell? ⟨B, 0, none⟩ = some v) (h : Sl Enc.rng w (Old w) l v) :
    Calls Try.prog 58 #[.int .i64 n, .pointer (some ⟨B, 0, none⟩)] w fun e w' => e = .returned (.bool (hasB l n)) ∧ Below w.heap.size w w' := by
  have H := Lib.hid h
  clear h
  go_enter Try.func58, Try.ntmps58
  go_wp2_with fail
  refine (ref_InSet l v n _ H.out).mono ?_
  rintro e w' ⟨rfl, hb⟩
  go_wp2
  go_ret
  exact ⟨rfl, hb⟩

set_option maxHeartbeats 400000 in
theorem both_holds (B C : Nat) (a b : List (Int × Int)) (va vb : Value) (n : Int) (w : World) (hva : w.cell? ⟨B, 0, none⟩ = some va) (hvb : w.cell? ⟨C, 0, none⟩ = some vb) (ha : Sl Enc.rng w (Old w) a va) (hb : Sl Enc.rng w (Old w) b vb) (hC : C < w.heap.size) :
    Calls Try.prog 62 #[.int .i64 n, .pointer (some ⟨B, 0, none⟩), .pointer (some ⟨C, 0, none⟩)] w fun e w' => e = .returned (.bool (hasB a n && hasB b n)) ∧ Below w.heap.size w w' := by
  have HA := Lib.hid ha
  have HB := Lib.hid hb
  clear ha hb
  go_enter Try.func62, Try.ntmps62
  go_wp2_with fail
  refine (ref_InSet a va n _ HA.out).mono ?_
  rintro e w1 ⟨rfl, hb1⟩
  have hvb1 := (hb1.cell (p := ⟨C, 0, none⟩) hC).trans hvb
  have HB1 := Lib.hid (HB.out.next' hb1)
  cases h1 : hasB a n
  · have H1 := Lib.hid h1
    clear h1
    go_wp2
    go_ret
    exact ⟨ret_bool (by rw [H1.out]; rfl), hb1⟩
  · have H1 := Lib.hid h1
    clear h1
    go_wp2_with fail
    refine (ref_InSet b vb n _ HB1.out).mono ?_
    rintro e w2 ⟨rfl, hb2⟩
    go_wp2
    go_ret
    exact ⟨ret_bool (by rw [H1.out, Bool.true_and]), bn' hb1 hb2⟩

set_option maxHeartbeats 400000 in
theorem less_holds (B C : Nat) (a b : List (Int × Int)) (va vb : Value) (n : Int) (w : World) (hva : w.cell? ⟨B, 0, none⟩ = some va) (hvb : w.cell? ⟨C, 0, none⟩ = some vb) (ha : Sl Enc.rng w (Old w) a va) (hb : Sl Enc.rng w (Old w) b vb) (hC : C < w.heap.size) :
    Calls Try.prog 63 #[.int .i64 n, .pointer (some ⟨B, 0, none⟩), .pointer (some ⟨C, 0, none⟩)] w fun e w' => e = .returned (.bool (hasB a n && !hasB b n)) ∧ Below w.heap.size w w' := by
  have HA := Lib.hid ha
  have HB := Lib.hid hb
  clear ha hb
  go_enter Try.func63, Try.ntmps63
  go_wp2_with fail
  refine (ref_InSet a va n _ HA.out).mono ?_
  rintro e w1 ⟨rfl, hb1⟩
  have hvb1 := (hb1.cell (p := ⟨C, 0, none⟩) hC).trans hvb
  have HB1 := Lib.hid (HB.out.next' hb1)
  cases h1 : hasB a n
  · have H1 := Lib.hid h1
    clear h1
    go_wp2
    go_ret
    exact ⟨ret_bool (by rw [H1.out]; rfl), hb1⟩
  · have H1 := Lib.hid h1
    clear h1
    go_wp2_with fail
    refine (ref_InSet b vb n _ HB1.out).mono ?_
    rintro e w2 ⟨rfl, hb2⟩
    go_wp2
    go_ret
    exact ⟨ret_bool (by rw [H1.out, Bool.true_and]), bn' hb1 hb2⟩

/-- new cells that hold slices, read as a slice of slices -/
theorem sl_lit {w : World} {S : Nat → Prop} {ls : List (List (Int × Int))} {vs : List Value} (g : Nat) (t : TypeId) (hg : g = w.heap.size) (hl : ls.length = vs.length) (hm : ls.length ≤ maxLen) (h : ∀ (i : Nat) (l : List (Int × Int)) (v : Value), ls[i]? = some l → vs[i]? = some v → Sl Enc.rng w S l v) (hS : ∀ k, S k → k < w.heap.size) :
    Sl Enc.rng.slice (w.alloc (.cells vs.toArray t)) (Old (w.alloc (.cells vs.toArray t))) ls (.slice (some ⟨g, 0, none⟩) vs.length vs.length) := by
  subst hg
  refine ⟨_, vs.length, by rw [hl], by omega, by omega, (fun h => by cases h), fun _ => ⟨_, 0, rfl, by unfold Old; simp, fun i l hx => ?_⟩⟩
  have hi := (List.getElem?_eq_some_iff.1 hx).1
  have hv : vs[i]? = some (vs[i]'(by omega)) := List.getElem?_eq_getElem (by omega)
  have hsl := h i l _ hx hv
  refine ⟨[vs[i]'(by omega)], ⟨_, rfl, (hsl.keep fun p hp => World.cell?_alloc_lt w _ p (hS _ hp)).more fun k hk => by have := hS k hk; unfold Old; simp; omega⟩, fun j u hu => ?_⟩
  have es : Enc.rng.slice.size = 1 := rfl
  rw [es]
  match j with
  | 0 =>
    simp at hu
    subst hu
    have ho := World.ownsRow_lit (base := 0) (e := t) (size := 1) w vs.toArray vs.length (Nat.zero_le _) (by omega) (by simp)
    have := World.ownsRow.cellAt ho i (by omega)
    rw [Nat.zero_add, Nat.mul_one, Nat.add_zero, this]
    exact hv
  | j + 1 => simp at hu

set_option maxHeartbeats 1000000 in
theorem ref_NormOf (l : List (Int × Int)) (v : Value) (w : World) (h : Sl Enc.rng w (Old w) l v) (hw : loIn l) :
    Calls Try.prog 15 #[v] w (AddPost w.heap.size (.slice none 0 0) (normL l) w) := by
  have H := Lib.hid h
  have HW := Lib.hid hw
  obtain ⟨A, c, rfl, hc1, hc2, -⟩ := h
  clear hw
  go_enter Try.func15, Try.ntmps15
  go_wp2_with fail
  have hb0 : Below w.heap.size w (w.alloc (.cells #[.slice A l.length c] 22)) := (Below.refl _ _).alloc (Nat.le_refl _) _
  refine (ref_edges [l] _ _ (sl_lit (S := Old w) (ls := [l]) (vs := [.slice A l.length c]) _ _ (by simp) rfl (by unfold maxLen; simp) (fun i x y hx hy => by match i with | 0 => (simp at hx hy; subst hx hy; exact H.out.below (fun _ h => h) hb0) | i + 1 => simp at hx) (fun k hk => by unfold Old at hk; simp; omega)) (fun s hs => by simp at hs; subst hs; exact HW.out)).mono ?_
  rintro e w1 ⟨v1, l1, rfl, ho1, hi1, hm1, hb1⟩
  have hbw : Below w.heap.size w w1 := below_next (hb0.alloc (by simp) _) (by simp; omega) hb1
  have hcell : w1.cell? ⟨w.heap.size, 0, none⟩ = some (.slice A l.length c) := (hb1.cell (p := ⟨w.heap.size, 0, none⟩) (by simp; omega)).trans (by simp)
  have HE := Lib.hid (made_norm hi1 hm1)
  have HS1 := Lib.hid ho1.slOld
  have HI1 := Lib.hid hi1
  have hlt : w.heap.size < w1.heap.size := by have := hb1.size; simp at this; omega
  clear ho1 hi1 hm1 hb1 hb0
  go_wp2_with fail
  refine (ref_made l1 v1 58 #[.pointer (some ⟨w.heap.size, 0, none⟩)] (hasB l) _ HS1.out HI1.out (enters_of Try.func58 (by kernel_rfl) rfl) (fun n W hW => norm_holds w.heap.size l _ n W ((hW.cell (p := ⟨w.heap.size, 0, none⟩) hlt).trans hcell) (H.out.next' (bn' hbw hW)))).mono ?_
  rintro e w2 ⟨v2, rfl, ho2, hg2, _⟩
  have hb2 : Below w1.heap.size w1 w2 := below_of_grown hg2 (Nat.le_refl _) (fun _ h => by cases h)
  go_wp2
  go_ret
  rw [HE.out] at ho2
  exact AddPost.mk (ho2.mono hbw.size) (bn' hbw hb2)

end Go.Proofs.Ytmdljknlbmlacaa
