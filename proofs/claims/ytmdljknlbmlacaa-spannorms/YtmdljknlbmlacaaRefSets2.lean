/- ratebookref.BothOf, LessOf, SizeOf and SameSet, ratebooklaw.spans. Conditions: argument slices read as lists of pairs in old memory; for BothOf and LessOf both are sets. -/
import Derived.Test.YtmdljknlbmlacaaRefSets
import Derived.Test.YtmdljknlbmlacaaKeepSpans
namespace Go.Proofs.Ytmdljknlbmlacaa
open Go.RowKit

theorem heap_alloc_size (w : World) (o : Obj) : (w.alloc o).heap.size = w.heap.size + 1 := by simp
theorem cell_box (w : World) (g : Nat) (x : Value) (t : TypeId) (hg : g = w.heap.size) : (w.alloc (.cells #[x] t)).cell? ⟨g, 0, none⟩ = some x := by subst hg; simp
theorem loIn_of_good {l : List (Int × Int)} (h : goodB l = true) : loIn l := fun r hr => by have := good_allIn h r hr; omega

set_option maxHeartbeats 1000000 in
theorem ref_BothOf (a b : List (Int × Int)) (va vb : Value) (w : World) (ha : Sl Enc.rng w (Old w) a va) (hb : Sl Enc.rng w (Old w) b vb) (hga : goodB a = true) (hgb : goodB b = true) :
    Calls Try.prog 24 #[va, vb] w (AddPost w.heap.size (.slice none 0 0) (bothF a b) w) := by
  have HA := Lib.hid ha
  have HB := Lib.hid hb
  have GA := Lib.hid hga
  have GB := Lib.hid hgb
  obtain ⟨A, c, rfl, hc1, hc2, -⟩ := ha
  obtain ⟨B, d, rfl, hd1, hd2, -⟩ := hb
  clear hga hgb
  go_enter Try.func24, Try.ntmps24
  go_wp2_with fail
  have hb0 : Below w.heap.size w ((w.alloc (.cells #[.slice A a.length c] 22)).alloc (.cells #[.slice B b.length d] 22)) := ((Below.refl _ _).alloc (Nat.le_refl _) _).alloc (by simp) _
  refine (ref_edges [a, b] _ _ (sl_lit (S := Old w) (ls := [a, b]) (vs := [.slice A a.length c, .slice B b.length d]) _ _ (by simp) rfl (by unfold maxLen; simp) (fun i x y hx hy => by match i with | 0 => (simp at hx hy; subst hx hy; exact HA.out.below (fun _ h => h) hb0) | 1 => (simp at hx hy; subst hx hy; exact HB.out.below (fun _ h => h) hb0) | i + 2 => simp at hx) (fun k hk => by unfold Old at hk; simp; omega)) (fun s hs => by simp at hs; rcases hs with rfl | rfl; exact loIn_of_good GA.out; exact loIn_of_good GB.out)).mono ?_
  rintro e w1 ⟨v1, l1, rfl, ho1, hi1, hm1, hb1⟩
  have hbw : Below w.heap.size w w1 := below_next (hb0.alloc (by simp; omega) _) (by simp; omega) hb1
  have hcell : w1.cell? ⟨w.heap.size, 0, none⟩ = some (.slice A a.length c) := (hb1.cell (p := ⟨w.heap.size, 0, none⟩) (show w.heap.size < _ by rw [heap_alloc_size, heap_alloc_size, heap_alloc_size]; omega)).trans (by rw [World.cell?_alloc_lt _ _ _ (show w.heap.size < _ by rw [heap_alloc_size, heap_alloc_size]; omega), World.cell?_alloc_lt _ _ _ (show w.heap.size < _ by rw [heap_alloc_size]; omega)]; exact cell_box _ _ _ _ rfl)
  have hcell2 : w1.cell? ⟨w.heap.size + 1, 0, none⟩ = some (.slice B b.length d) := (hb1.cell (p := ⟨w.heap.size + 1, 0, none⟩) (show w.heap.size + 1 < _ by rw [heap_alloc_size, heap_alloc_size, heap_alloc_size]; omega)).trans (by rw [World.cell?_alloc_lt _ _ _ (show w.heap.size + 1 < _ by rw [heap_alloc_size, heap_alloc_size]; omega)]; exact cell_box _ _ _ _ (heap_alloc_size _ _).symm)
  have HE := Lib.hid (made_both GA.out GB.out hi1 hm1)
  have HS1 := Lib.hid ho1.slOld
  have HI1 := Lib.hid hi1
  have hlt : w.heap.size + 1 < w1.heap.size := by have := hb1.size; simp at this; omega
  clear ho1 hi1 hm1 hb1 hb0
  go_wp2_with fail
  refine (ref_made l1 v1 62 #[.pointer (some ⟨w.heap.size, 0, none⟩), .pointer (some ⟨w.heap.size + 1, 0, none⟩)] (fun n => hasB a n && hasB b n) _ HS1.out HI1.out (enters_of Try.func62 (by kernel_rfl) rfl) (fun n W hW => both_holds w.heap.size (w.heap.size + 1) a b _ _ n W ((hW.cell (p := ⟨w.heap.size, 0, none⟩) (Nat.lt_trans (Nat.lt_succ_self _) hlt)).trans hcell) ((hW.cell (p := ⟨w.heap.size + 1, 0, none⟩) hlt).trans hcell2) (HA.out.next' (bn' hbw hW)) (HB.out.next' (bn' hbw hW)) (Nat.lt_of_lt_of_le hlt hW.size))).mono ?_
  rintro e w2 ⟨v2, rfl, ho2, hg2, _⟩
  have hb2 : Below w1.heap.size w1 w2 := below_of_grown hg2 (Nat.le_refl _) (fun _ h => by cases h)
  go_wp2
  go_ret
  rw [HE.out] at ho2
  exact AddPost.mk (ho2.mono hbw.size) (bn' hbw hb2)

set_option maxHeartbeats 1000000 in
theorem ref_LessOf (a b : List (Int × Int)) (va vb : Value) (w : World) (ha : Sl Enc.rng w (Old w) a va) (hb : Sl Enc.rng w (Old w) b vb) (hga : goodB a = true) (hgb : goodB b = true) :
    Calls Try.prog 26 #[va, vb] w (AddPost w.heap.size (.slice none 0 0) (lessF a b) w) := by
  have HA := Lib.hid ha
  have HB := Lib.hid hb
  have GA := Lib.hid hga
  have GB := Lib.hid hgb
  obtain ⟨A, c, rfl, hc1, hc2, -⟩ := ha
  obtain ⟨B, d, rfl, hd1, hd2, -⟩ := hb
  clear hga hgb
  go_enter Try.func26, Try.ntmps26
  go_wp2_with fail
  have hb0 : Below w.heap.size w ((w.alloc (.cells #[.slice A a.length c] 22)).alloc (.cells #[.slice B b.length d] 22)) := ((Below.refl _ _).alloc (Nat.le_refl _) _).alloc (by simp) _
  refine (ref_edges [a, b] _ _ (sl_lit (S := Old w) (ls := [a, b]) (vs := [.slice A a.length c, .slice B b.length d]) _ _ (by simp) rfl (by unfold maxLen; simp) (fun i x y hx hy => by match i with | 0 => (simp at hx hy; subst hx hy; exact HA.out.below (fun _ h => h) hb0) | 1 => (simp at hx hy; subst hx hy; exact HB.out.below (fun _ h => h) hb0) | i + 2 => simp at hx) (fun k hk => by unfold Old at hk; simp; omega)) (fun s hs => by simp at hs; rcases hs with rfl | rfl; exact loIn_of_good GA.out; exact loIn_of_good GB.out)).mono ?_
  rintro e w1 ⟨v1, l1, rfl, ho1, hi1, hm1, hb1⟩
  have hbw : Below w.heap.size w w1 := below_next (hb0.alloc (by simp; omega) _) (by simp; omega) hb1
  have hcell : w1.cell? ⟨w.heap.size, 0, none⟩ = some (.slice A a.length c) := (hb1.cell (p := ⟨w.heap.size, 0, none⟩) (show w.heap.size < _ by rw [heap_alloc_size, heap_alloc_size, heap_alloc_size]; omega)).trans (by rw [World.cell?_alloc_lt _ _ _ (show w.heap.size < _ by rw [heap_alloc_size, heap_alloc_size]; omega), World.cell?_alloc_lt _ _ _ (show w.heap.size < _ by rw [heap_alloc_size]; omega)]; exact cell_box _ _ _ _ rfl)
  have hcell2 : w1.cell? ⟨w.heap.size + 1, 0, none⟩ = some (.slice B b.length d) := (hb1.cell (p := ⟨w.heap.size + 1, 0, none⟩) (show w.heap.size + 1 < _ by rw [heap_alloc_size, heap_alloc_size, heap_alloc_size]; omega)).trans (by rw [World.cell?_alloc_lt _ _ _ (show w.heap.size + 1 < _ by rw [heap_alloc_size, heap_alloc_size]; omega)]; exact cell_box _ _ _ _ (heap_alloc_size _ _).symm)
  have HE := Lib.hid (made_less GA.out GB.out hi1 hm1)
  have HS1 := Lib.hid ho1.slOld
  have HI1 := Lib.hid hi1
  have hlt : w.heap.size + 1 < w1.heap.size := by have := hb1.size; simp at this; omega
  clear ho1 hi1 hm1 hb1 hb0
  go_wp2_with fail
  refine (ref_made l1 v1 63 #[.pointer (some ⟨w.heap.size, 0, none⟩), .pointer (some ⟨w.heap.size + 1, 0, none⟩)] (fun n => hasB a n && !hasB b n) _ HS1.out HI1.out (enters_of Try.func63 (by kernel_rfl) rfl) (fun n W hW => less_holds w.heap.size (w.heap.size + 1) a b _ _ n W ((hW.cell (p := ⟨w.heap.size, 0, none⟩) (Nat.lt_trans (Nat.lt_succ_self _) hlt)).trans hcell) ((hW.cell (p := ⟨w.heap.size + 1, 0, none⟩) hlt).trans hcell2) (HA.out.next' (bn' hbw hW)) (HB.out.next' (bn' hbw hW)) (Nat.lt_of_lt_of_le hlt hW.size))).mono ?_
  rintro e w2 ⟨v2, rfl, ho2, hg2, _⟩
  have hb2 : Below w1.heap.size w1 w2 := below_of_grown hg2 (Nat.le_refl _) (fun _ h => by cases h)
  go_wp2
  go_ret
  rw [HE.out] at ho2
  exact AddPost.mk (ho2.mono hbw.size) (bn' hbw hb2)

set_option maxHeartbeats 400000 in
theorem ref_SizeOf (l : List (Int × Int)) (v : Value) (w : World) (h : Sl Enc.rng w (Old w) l v) (hw : loIn l) :
    Calls Try.prog 21 #[v] w fun e w' => e = .returned (.int .i64 (sumL (normL l))) ∧ Below w.heap.size w w' := by
  have H := Lib.hid h
  clear h
  have HG := Lib.hid (normL_good l).1
  go_enter Try.func21, Try.ntmps21
  go_wp2_with fail
  refine (ref_NormOf l v _ H.out hw).mono ?_
  rintro e w1 ⟨v1, rfl, ho1, hg1, _⟩
  have hb1 : Below w.heap.size w w1 := below_of_grown hg1 (Nat.le_refl _) (fun _ h => by cases h)
  have HS := Lib.hid ho1.slOld
  clear hg1
  obtain ⟨A, c, rfl, hc1, hc2⟩ := ho1.form'
  clear ho1
  unfold maxLen at hc2
  generalize hN : normL l = N at *
  have HN := Lib.hid hN
  clear hN
  go_wp2
  go_loopw [3, 9] (fun n i wr => ∃ k : Nat, k ≤ N.length ∧ i = .int .i64 k ∧ n = .int .i64 (sumL (N.take k)) ∧ Below w1.heap.size w1 wr) (fun _ i _ => N.length - (intOf i).toNat)
  case atStart => exact ⟨0, Nat.zero_le _, rfl, rfl, Below.refl _ _⟩
  case round =>
    obtain ⟨k, hk, rfl, rfl, hb⟩ := hrel
    have hsz := hb.size
    by_cases hlt : k < N.length
    · obtain ⟨b, o, x, y, rfl, _, hx, h1, h2⟩ := (HS.out.below (fun _ h => h) hb).rng_at hlt
      obtain ⟨i1, i2, i3, i4⟩ := allIn_at (good_allIn HG.out) hx.out
      obtain ⟨s1, s2⟩ := sumL_bounds HG.out k
      have HX := Lib.hid (sumL_at hx.out)
      generalize sumL (N.take k) = S at *
      go_wp2
      exact ⟨⟨k + 1, by omega, by go_num, by rw [HX.out]; congr 1; omega, hb.alloc hsz _⟩, by simp [intOf]; omega⟩
    · go_wp2
      go_ret
      exact ⟨ret_int (by rw [HN.out, List.take_of_length_le (by omega)]), below_next hb1 hb1.size hb⟩

set_option maxHeartbeats 400000 in
theorem ref_SameSet (a b : List (Int × Int)) (va vb : Value) (w : World) (ha : Sl Enc.rng w (Old w) a va) (hb : Sl Enc.rng w (Old w) b vb) :
    Calls Try.prog 13 #[va, vb] w fun e w' => e = .returned (.bool (decide (a = b))) ∧ Below w.heap.size w w' := by
  have HA := Lib.hid ha
  have HB := Lib.hid hb
  obtain ⟨A, c, rfl, hc1, hc2, -⟩ := ha
  obtain ⟨B, d, rfl, hd1, hd2, -⟩ := hb
  unfold maxLen at hc2 hd2
  by_cases hlen : a.length = b.length
  · have hne : ((a.length : Int) != (b.length : Int)) = false := by simp [hlen]
    have HL := Lib.hid hlen
    clear hlen
    go_enter Try.func13, Try.ntmps13
    go_wp2
    go_loopw [13] (fun i wr => ∃ k : Nat, k ≤ a.length ∧ i = .int .i64 k ∧ Hid (a.take k = b.take k) ∧ Below w.heap.size w wr) (fun i _ => a.length - (intOf i).toNat)
    case atStart => exact ⟨0, Nat.zero_le _, rfl, rfl, Below.refl _ _⟩
    case round =>
      obtain ⟨k, hk, rfl, hT, hbl⟩ := hrel
      by_cases hka : k < a.length
      · have hkb : k < b.length := by have := HL.out; omega
        obtain ⟨ba, oa, x, y, rfl, hba, hx, a1, a2⟩ := (HA.out.below (fun _ h => h) hbl).rng_at hka
        obtain ⟨bb, ob, p, q, rfl, hbb, hq, b1, b2⟩ := (HB.out.below (fun _ h => h) hbl).rng_at hkb
        have heq := fun w => eqRange x y p q w
        by_cases hxy : x = p ∧ y = q
        · have hb1 : (x == p) = true := by simp [hxy.1]
          have hb2 : (y == q) = true := by simp [hxy.2]
          have HXY := Lib.hid hxy
          clear hxy
          go_wp2_with fail
          go_quiet (fail)
          clear heq
          go_wp2
          refine ⟨⟨k + 1, by omega, by go_num, ?_, below_drewN hbl _⟩, by simp [intOf]; omega⟩
          show a.take (k + 1) = b.take (k + 1)
          rw [take_at hx.out, take_at hq.out, hT.out, HXY.out.1, HXY.out.2]
        · have hb1 : (x == p && y == q) = false := by
            cases h1 : (x == p) <;> cases h2 : (y == q) <;> simp_all
          have HXY := Lib.hid (take_ne hx.out hq.out hxy)
          clear hxy
          go_wp2_with fail
          go_quiet (fail)
          clear heq
          go_wp2
          go_ret
          exact ⟨ret_bool HXY.out.symm, below_drewN hbl _⟩
      · go_wp2
        go_ret
        refine ⟨ret_bool ?_, hbl⟩
        have e := hT.out
        have := HL.out
        rw [List.take_of_length_le (by omega), List.take_of_length_le (by omega)] at e
        simp [e]
  · have HD := Lib.hid (ne_len hlen)
    have hne : ((a.length : Int) != (b.length : Int)) = true := by simp; omega
    go_enter Try.func13, Try.ntmps13
    go_wp2
    go_ret
    exact ⟨ret_bool HD.out.symm, Below.refl _ _⟩

set_option maxHeartbeats 400000 in
theorem law_spans (w : World) :
    Calls Try.prog 22 #[] w fun e w' => e = .returned (.bool true) ∧ Below w.heap.size w w' := by
  go_enter Try.func22, Try.ntmps22
  go_wp2_with fail
  refine (span_Norm [(5, 9), (1, 4)] _ _ (own_lit w [(5, 9), (1, 4)] _ rfl (by unfold maxLen; simp)).slOld (by simp)).mono ?_
  rintro e w1 ⟨v1, rfl, ho1, hg1, _⟩
  rw [norm_ex] at ho1
  have hb1 : Below w.heap.size w w1 := below_next ((Below.refl _ _).alloc (Nat.le_refl _) _) (by simp) (below_of_grown hg1 (Nat.le_refl _) (fun _ h => by cases h))
  obtain ⟨A, c, rfl, hc1, hc2⟩ := ho1.form'
  obtain ⟨b, o, x, y, rfl, _, hx, h1, h2⟩ := ho1.sl.rng_at (k := 0) (by simp)
  have hx' := hx.out
  simp at hx'
  obtain ⟨rfl, rfl⟩ := hx'
  have HS := Lib.hid ho1.slOld
  clear ho1 hg1 hx
  have h1' : w1.cell? ⟨b, o, none⟩ = some (.int .i64 1) := by simpa using h1
  have h2' : w1.cell? ⟨b, o + 1, none⟩ = some (.int .i64 9) := by simpa using h2
  clear h1 h2
  have heq := fun w => eqRange 1 9 1 9 w
  go_wp2_with fail
  refine (span_Has [(1, 9)] _ 4 _ HS.out).mono ?_
  rintro e w2 ⟨rfl, hb2⟩
  rw [show hasB [(1, 9)] 4 = true from rfl]
  have HS2 := Lib.hid ((HS.out.below (fun _ h => h) hb2).more (S' := Old w2) fun _ h => Nat.lt_of_lt_of_le h hb2.size)
  go_wp2_with fail
  refine (span_Size [(1, 9)] _ _ HS2.out (by simp)).mono ?_
  rintro e w3 ⟨rfl, hb3⟩
  rw [show sumL (normL [(1, 9)]) = 9 from by rw [normL_of_good (by rfl)]; rfl]
  go_wp2
  go_ret
  exact ⟨rfl, below_next (below_next hb1 hb1.size hb2) (Nat.le_trans hb1.size hb2.size) hb3⟩

end Go.Proofs.Ytmdljknlbmlacaa
