/- ratebookkeep.boxes and ratebooklaw.boxes: package box answers at all; ratebookkeep.count. Conditions: argument slices read as lists in old memory; the sizes of the boxes that are counted come to less than 2^63. -/
import Derived.Test.YtmdljknlbmlacaaBoxRest
import Derived.Test.YtmdljknlbmlacaaKeepSpans
import Derived.Test.YtmdljknlbmlacaaRefSets
import Derived.Deep.RegionHeld3
namespace Go.Proofs.Ytmdljknlbmlacaa
open Go.RowKit

theorem boxes_less : ∃ x l, lessBox [[(1, 9)], [(1, 9)]] [[(5, 6)], [(1, 9)]] = x :: l := by
  have h := lessBox_cnt (a := [[(1, 9)], [(1, 9)]]) (b := [[(5, 6)], [(1, 9)]]) (by decide) [1, 1]
  rw [show bit (hasBox [[(1, 9)], [(1, 9)]] [1, 1] && !hasBox [[(5, 6)], [(1, 9)]] [1, 1]) = 1 from by decide] at h
  match hl : lessBox [[(1, 9)], [(1, 9)]] [[(5, 6)], [(1, 9)]] with
  | [] => rw [hl] at h; simp [cntBox] at h
  | x :: l => exact ⟨x, l, rfl⟩
/-- a box of two sets of one range each, as a literal lays it -/
theorem lit_two (w : World) (g : Nat) (hg : g = w.heap.size) (x y p q : Int) (w1 w2 : World) (e1 : w.alloc (.cells #[.int .i64 x, .int .i64 y] 61) = w1) (e2 : w1.alloc (.cells #[.int .i64 p, .int .i64 q] 61) = w2) :
    Sl Enc.rng.slice (w2.alloc (.cells #[.slice (some ⟨g, 0, none⟩) 1 1, .slice (some ⟨g + 1, 0, none⟩) 1 1] 22)) (Old (w2.alloc (.cells #[.slice (some ⟨g, 0, none⟩) 1 1, .slice (some ⟨g + 1, 0, none⟩) 1 1] 22)))
      [[(x, y)], [(p, q)]] (.slice (some ⟨g + 1 + 1, 0, none⟩) 2 2) ∧ Below w.heap.size w (w2.alloc (.cells #[.slice (some ⟨g, 0, none⟩) 1 1, .slice (some ⟨g + 1, 0, none⟩) 1 1] 22)) ∧
      (w2.alloc (.cells #[.slice (some ⟨g, 0, none⟩) 1 1, .slice (some ⟨g + 1, 0, none⟩) 1 1] 22)).heap.size = g + 1 + 1 + 1 := by
  subst hg
  have s1 : w1.heap.size = w.heap.size + 1 := by rw [← e1]; simp
  have s2 : w2.heap.size = w.heap.size + 1 + 1 := by rw [← e2]; simp [s1]
  have h1 : Sl Enc.rng w1 (Old w1) [(x, y)] (.slice (some ⟨w.heap.size, 0, none⟩) 1 1) := by rw [← e1]; exact (own_lit w [(x, y)] _ rfl (by unfold maxLen; simp)).slOld
  have h2 : Sl Enc.rng w2 (Old w2) [(p, q)] (.slice (some ⟨w.heap.size + 1, 0, none⟩) 1 1) := by rw [← e2, ← s1]; exact (own_lit w1 [(p, q)] _ rfl (by unfold maxLen; simp)).slOld
  have hb1 : Below w.heap.size w w1 := by rw [← e1]; exact below_alloc1 _ _
  have hb2 : Below w1.heap.size w1 w2 := by rw [← e2]; exact below_alloc1 _ _
  have h1' : Sl Enc.rng w2 (Old w2) [(x, y)] (.slice (some ⟨w.heap.size, 0, none⟩) 1 1) := h1.onOld hb2
  refine ⟨?_, bx (bx hb1 hb2) (below_alloc1 _ _), by simp [s2]⟩
  exact sl_lit (w := w2) (S := Old w2) (ls := [[(x, y)], [(p, q)]]) (vs := [.slice (some ⟨w.heap.size, 0, none⟩) 1 1, .slice (some ⟨w.heap.size + 1, 0, none⟩) 1 1]) (w.heap.size + 1 + 1) 22 s2.symm rfl (by unfold maxLen; simp) (fun i l v hl hv => by
    match i with
    | 0 => simp at hl hv; subst hl hv; exact h1'
    | 1 => simp at hl hv; subst hl hv; exact h2
    | i + 2 => simp at hl) (fun _ h => h)
theorem size_two : sizeBox [[(1, 9)], [(1, 9)]] = 81 := by decide

set_option maxHeartbeats 1000000 in
theorem keep_boxes (w : World) :
    Calls Try.prog 40 #[] w fun e w' => e = .returned (.bool true) ∧ Below w.heap.size w w' := by
  obtain ⟨x, l, hxl⟩ := boxes_less
  have HXL := Lib.hid hxl
  have hgx : goodBox x 2 = true := lessBox_good (a := [[(1, 9)], [(1, 9)]]) (b := [[(5, 6)], [(1, 9)]]) (by rw [hxl]; simp)
  have HG := Lib.hid (goodBox_iff.1 hgx)
  have HP := Lib.hid (point_has HG.out.2)
  clear hxl hgx
  go_enter Try.func40, Try.ntmps40
  go_wp2_with fail
  generalize hw1 : w.alloc (.cells #[.int .i64 1, .int .i64 9] 61) = w1
  generalize hw2 : w1.alloc (.cells #[.int .i64 1, .int .i64 9] 61) = w2
  obtain ⟨hl3, hb3, hs3⟩ := lit_two w w.heap.size rfl 1 9 1 9 w1 w2 hw1 hw2
  generalize w2.alloc (.cells #[.slice (some ⟨w.heap.size, 0, none⟩) 1 1, .slice (some ⟨w.heap.size + 1, 0, none⟩) 1 1] 22) = w3 at *
  generalize hw4 : w3.alloc (.cells #[.int .i64 5, .int .i64 6] 61) = w4
  generalize hw5 : w4.alloc (.cells #[.int .i64 1, .int .i64 9] 61) = w5
  obtain ⟨hl6, hb6, hs6⟩ := lit_two w3 (w.heap.size + 1 + 1 + 1) hs3.symm 5 6 1 9 w4 w5 hw4 hw5
  generalize w5.alloc (.cells #[.slice (some ⟨w.heap.size + 1 + 1 + 1, 0, none⟩) 1 1, .slice (some ⟨w.heap.size + 1 + 1 + 1 + 1, 0, none⟩) 1 1] 22) = w6 at *
  have HA6 := Lib.hid (hl3.onOld hb6)
  have HB6 := Lib.hid hl6
  have hb06 := bx hb3 hb6
  clear hl3 hl6 hb3 hb6 hs3 hs6 hw1 hw2 hw4 hw5
  refine (box_Less _ _ _ _ _ HA6.out HB6.out).mono ?_
  rintro e w7 ⟨v7, rfl, ho7, hb7⟩
  rw [HXL.out] at ho7
  have hn7 := ho7.slOld (Nat.le_refl _)
  obtain ⟨A7, c7, rfl, -, -⟩ := hn7.form
  obtain ⟨g7, o7, x', vx, rfl, -, hx', r7, hX7⟩ := hn7.sl_at (k := 0) (by simp)
  have ex := hx'.out
  simp at ex
  subst ex
  have k7 : w7.cell? ⟨g7, o7, none⟩ = some vx := by simpa using r7
  have HA7 := Lib.hid (HA6.out.onOld hb7)
  have HX7 := Lib.hid hX7
  have hb07 := bx hb06 hb7
  have hg7 : g7 < w7.heap.size := World.block_lt_of_cell? w7 _ k7
  have hxl : x.length ≤ 3 := by have := HG.out; omega
  clear r7 hx' hn7 ho7 hb7 hX7 hb06 HA6 HB6
  have hN0 : 1 ≤ (x :: l).length := by simp
  generalize (x :: l).length = N at *
  have hN1 : (1 : Int) ≤ N := by omega
  have hN2 : (0 : Int) < N := by omega
  have hN3 : 0 < N := hN0
  have hN4 : ¬ N = 0 := by omega
  clear hN0
  go_wp2_with fail
  go_region_held3 (fun w' => w'.cell? ⟨g7, o7, none⟩ = some vx) (first | exact k7 | exact k8 | exact k9 | exact k10 | exact k11)
   (first
    | (go_at_call 33; refine (box_Good [[(1, 9)], [(1, 9)]] _ 2 _ ?_).mono ?_; exact HA7.out; rintro e w8 ⟨rfl, hb8⟩; rw [show goodBox [[(1, 9)], [(1, 9)]] 2 = true from by decide]; have HA8 := Lib.hid (HA7.out.onOld (undrew hb8)); have HX8 := Lib.hid (HX7.out.onOld (undrew hb8)); have k8 := (hb8.cell (p := ⟨g7, o7, none⟩) hg7).trans k7; have hb08 := bx hb07 (undrew hb8); have hg8 := Nat.lt_of_lt_of_le hg7 (undrew hb8).size; clear hb8)
    | (go_at_call 37; refine (box_Size [[(1, 9)], [(1, 9)]] _ _ ?_).mono ?_; exact HA8.out; rintro e w9 ⟨rfl, hb9⟩; rw [size_two]; have HX9 := Lib.hid (HX8.out.onOld hb9); have k9 := (hb9.cell (p := ⟨g7, o7, none⟩) hg8).trans k8; have hb09 := bx hb08 hb9; have hg9 := Nat.lt_of_lt_of_le hg8 hb9.size; clear hb9)
    | (go_at_call 44; refine (box_Point x _ _ ?_ ?_).mono ?_; exact HX9.out; omega; rintro e w10 ⟨v10, rfl, ho10, hb10⟩; have HX10 := Lib.hid (HX9.out.onOld hb10); have k10 := (hb10.cell (p := ⟨g7, o7, none⟩) hg9).trans k9; have HP10 := Lib.hid (ho10.slOld (Nat.le_refl _)); have hb010 := bx hb09 hb10; have hg10 := Nat.lt_of_lt_of_le hg9 hb10.size; clear hb10 ho10)
    | (go_at_call 35; refine (box_Has x (pointL x) _ _ _ ?_ ?_).mono ?_; exact HX10.out; exact HP10.out; rintro e w11 ⟨rfl, hb11⟩; rw [HP.out]; have k11 := (hb11.cell (p := ⟨g7, o7, none⟩) hg10).trans k10; have hb011 := bx hb010 hb11; clear hb11))
  all_goals go_wp2
  all_goals go_ret
  all_goals exact ⟨rfl, hb011⟩

set_option maxHeartbeats 1000000 in
theorem law_boxes (w : World) :
    Calls Try.prog 39 #[] w fun e w' => e = .returned (.bool true) ∧ Below w.heap.size w w' := by
  obtain ⟨x, l, hxl⟩ := boxes_less
  have HXL := Lib.hid hxl
  have hgx : goodBox x 2 = true := lessBox_good (a := [[(1, 9)], [(1, 9)]]) (b := [[(5, 6)], [(1, 9)]]) (by rw [hxl]; simp)
  have HG := Lib.hid (goodBox_iff.1 hgx)
  have HP := Lib.hid (point_has HG.out.2)
  clear hxl hgx
  go_enter Try.func39, Try.ntmps39
  go_wp2_with fail
  generalize hw1 : w.alloc (.cells #[.int .i64 1, .int .i64 9] 61) = w1
  generalize hw2 : w1.alloc (.cells #[.int .i64 1, .int .i64 9] 61) = w2
  obtain ⟨hl3, hb3, hs3⟩ := lit_two w w.heap.size rfl 1 9 1 9 w1 w2 hw1 hw2
  generalize w2.alloc (.cells #[.slice (some ⟨w.heap.size, 0, none⟩) 1 1, .slice (some ⟨w.heap.size + 1, 0, none⟩) 1 1] 22) = w3 at *
  generalize hw4 : w3.alloc (.cells #[.int .i64 5, .int .i64 6] 61) = w4
  generalize hw5 : w4.alloc (.cells #[.int .i64 1, .int .i64 9] 61) = w5
  obtain ⟨hl6, hb6, hs6⟩ := lit_two w3 (w.heap.size + 1 + 1 + 1) hs3.symm 5 6 1 9 w4 w5 hw4 hw5
  generalize w5.alloc (.cells #[.slice (some ⟨w.heap.size + 1 + 1 + 1, 0, none⟩) 1 1, .slice (some ⟨w.heap.size + 1 + 1 + 1 + 1, 0, none⟩) 1 1] 22) = w6 at *
  have HA6 := Lib.hid (hl3.onOld hb6)
  have HB6 := Lib.hid hl6
  have hb06 := bx hb3 hb6
  clear hl3 hl6 hb3 hb6 hs3 hs6 hw1 hw2 hw4 hw5
  refine (box_Less _ _ _ _ _ HA6.out HB6.out).mono ?_
  rintro e w7 ⟨v7, rfl, ho7, hb7⟩
  rw [HXL.out] at ho7
  have hn7 := ho7.slOld (Nat.le_refl _)
  obtain ⟨A7, c7, rfl, -, -⟩ := hn7.form
  obtain ⟨g7, o7, x', vx, rfl, -, hx', r7, hX7⟩ := hn7.sl_at (k := 0) (by simp)
  have ex := hx'.out
  simp at ex
  subst ex
  have k7 : w7.cell? ⟨g7, o7, none⟩ = some vx := by simpa using r7
  have HA7 := Lib.hid (HA6.out.onOld hb7)
  have HX7 := Lib.hid hX7
  have hb07 := bx hb06 hb7
  have hg7 : g7 < w7.heap.size := World.block_lt_of_cell? w7 _ k7
  have hxl : x.length ≤ 3 := by have := HG.out; omega
  clear r7 hx' hn7 ho7 hb7 hX7 hb06 HA6 HB6
  have hN0 : 1 ≤ (x :: l).length := by simp
  generalize (x :: l).length = N at *
  have hN1 : (1 : Int) ≤ N := by omega
  have hN2 : (0 : Int) < N := by omega
  have hN3 : 0 < N := hN0
  have hN4 : ¬ N = 0 := by omega
  clear hN0
  go_wp2_with fail
  go_region_held3 (fun w' => w'.cell? ⟨g7, o7, none⟩ = some vx) (first | exact k7 | exact k8 | exact k9 | exact k10 | exact k11)
   (first
    | (go_at_call 33; refine (box_Good [[(1, 9)], [(1, 9)]] _ 2 _ ?_).mono ?_; exact HA7.out; rintro e w8 ⟨rfl, hb8⟩; rw [show goodBox [[(1, 9)], [(1, 9)]] 2 = true from by decide]; have HA8 := Lib.hid (HA7.out.onOld (undrew hb8)); have HX8 := Lib.hid (HX7.out.onOld (undrew hb8)); have k8 := (hb8.cell (p := ⟨g7, o7, none⟩) hg7).trans k7; have hb08 := bx hb07 (undrew hb8); have hg8 := Nat.lt_of_lt_of_le hg7 (undrew hb8).size; clear hb8)
    | (go_at_call 37; refine (box_Size [[(1, 9)], [(1, 9)]] _ _ ?_).mono ?_; exact HA8.out; rintro e w9 ⟨rfl, hb9⟩; rw [size_two]; have HX9 := Lib.hid (HX8.out.onOld hb9); have k9 := (hb9.cell (p := ⟨g7, o7, none⟩) hg8).trans k8; have hb09 := bx hb08 hb9; have hg9 := Nat.lt_of_lt_of_le hg8 hb9.size; clear hb9)
    | (go_at_call 44; refine (box_Point x _ _ ?_ ?_).mono ?_; exact HX9.out; omega; rintro e w10 ⟨v10, rfl, ho10, hb10⟩; have HX10 := Lib.hid (HX9.out.onOld hb10); have k10 := (hb10.cell (p := ⟨g7, o7, none⟩) hg9).trans k9; have HP10 := Lib.hid (ho10.slOld (Nat.le_refl _)); have hb010 := bx hb09 hb10; have hg10 := Nat.lt_of_lt_of_le hg9 hb10.size; clear hb10 ho10)
    | (go_at_call 35; refine (box_Has x (pointL x) _ _ _ ?_ ?_).mono ?_; exact HX10.out; exact HP10.out; rintro e w11 ⟨rfl, hb11⟩; rw [HP.out]; have k11 := (hb11.cell (p := ⟨g7, o7, none⟩) hg10).trans k10; have hb011 := bx hb010 hb11; clear hb11))
  all_goals go_wp2
  all_goals go_ret
  all_goals exact ⟨rfl, hb011⟩

theorem cntBox_take {l : List (List (List (Int × Int)))} {k : Nat} {x : List (List (Int × Int))} (h : l[k]? = some x) (i : List Int) : cntBox (l.take (k + 1)) i = cntBox (l.take k) i + bit (hasBox x i) := by
  rw [take_at h, cntBox_append]
  congr 1
  simp only [cntBox, List.countP_cons, List.countP_nil, bit]
  cases hasBox x i <;> rfl
theorem sumBox_take {l : List (List (List (Int × Int)))} {k : Nat} {x : List (List (Int × Int))} (h : l[k]? = some x) : sumBox (l.take (k + 1)) = sumBox (l.take k) + sizeP x := by
  rw [take_at h, sumBox_append]
  simp [sumBox]
theorem cntBox_le (l : List (List (List (Int × Int)))) (i : List Int) : cntBox l i ≤ l.length := List.countP_le_length

set_option maxHeartbeats 400000 in
theorem keep_count (l : List (List (List (Int × Int)))) (i : List Int) (vl vi : Value) (w : World) (hl : Sl Enc.rng.slice.slice w (Old w) l vl) (hi : Sl Enc.int w (Old w) i vi) (hg : ∀ x, x ∈ l → goodBox x x.length = true) (hs : sumBox l ≤ 8000012000006000001) :
    Calls Try.prog 42 #[vl, vi] w fun e w' => e = .returned (.tuple #[.int .i64 (cntBox l i : Nat), .int .i64 (sumBox l)]) ∧ Below w.heap.size w w' := by
  have H := Lib.hid hl
  have HI := Lib.hid hi
  have HG := Lib.hid hg
  have HS := Lib.hid hs
  clear hi hg hs
  obtain ⟨A, c, rfl, hc1, hc2, -⟩ := hl
  unfold maxLen at hc2
  go_enter Try.func42, Try.ntmps42
  go_wp2
  go_loopw [6, 7, 12] (fun n s j wr => ∃ k : Nat, k ≤ l.length ∧ j = .int .i64 k ∧ n = .int .i64 (cntBox (l.take k) i : Nat) ∧ s = .int .i64 (sumBox (l.take k)) ∧ Below w.heap.size w wr) (fun _ _ j _ => l.length - (intOf j).toNat)
  case atStart => exact ⟨0, Nat.zero_le _, rfl, rfl, rfl, Below.refl _ _⟩
  case round =>
    obtain ⟨k, hk, rfl, rfl, rfl, hbl⟩ := hrel
    have hsz := hbl.size
    by_cases hlt : k < l.length
    · obtain ⟨bb, o, x, ux, rfl, _, hx, h1, h2⟩ := (H.out.below (fun _ h => h) hbl).sl_at hlt
      have HX := Lib.hid (h2.more (S' := Old wr) fun _ h => Nat.lt_of_lt_of_le h hsz)
      have HI1 := Lib.hid (HI.out.onOld hbl)
      have HC := Lib.hid (cntBox_take hx.out i)
      have HM := Lib.hid (sumBox_take hx.out)
      have HGX := Lib.hid (HG.out x (List.mem_of_getElem? hx.out))
      have HSX : Hid (sizeBox x = sizeP x) := by simp [sizeBox, HGX.out, Hid]
      have hcl : cntBox (l.take k) i ≤ k := by have := cntBox_le (l.take k) i; rw [List.length_take] at this; omega
      have hall : ∀ y, y ∈ l → setsB y = true := fun y hy => (goodBox_iff.1 (HG.out y hy)).2
      obtain ⟨q1, q2⟩ := sumBox_take_le hall k
      obtain ⟨q3, q4⟩ := sumBox_take_le hall (k + 1)
      rw [HM.out] at q3 q4
      have q5 := HS.out
      have q6 := sizeP_pos (hall x (List.mem_of_getElem? hx.out))
      clear h2 hall
      generalize hCC : cntBox (l.take k) i = CC at *
      generalize hSS : sumBox (l.take k) = SS at *
      have HCC := Lib.hid hCC
      have HSS := Lib.hid hSS
      clear hCC hSS
      generalize hPP : sizeP x = PP at *
      clear hPP
      generalize hLL : sumBox l = LL at *
      have HLL := Lib.hid hLL
      clear hLL
      go_wp2_with fail
      refine (box_Has x i _ _ _ HX.out HI1.out).mono ?_
      rintro e w1 ⟨rfl, hb1⟩
      have HX1 := Lib.hid (HX.out.onOld hb1)
      cases hh : hasBox x i
      · have HH := Lib.hid hh
        clear hh
        go_wp2_with fail
        refine (box_Size x _ _ HX1.out).mono ?_
        rintro e w2 ⟨rfl, hb2⟩
        rw [HSX.out]
        go_wp2
        refine ⟨⟨k + 1, by omega, by go_num, ?_, by rw [HM.out], bx hbl (bx hb1 hb2)⟩, by simp [intOf]; omega⟩
        rw [HC.out, HH.out]; rfl
      · have HH := Lib.hid hh
        clear hh
        go_wp2_with fail
        refine (box_Size x _ _ HX1.out).mono ?_
        rintro e w2 ⟨rfl, hb2⟩
        rw [HSX.out]
        go_wp2
        refine ⟨⟨k + 1, by omega, by go_num, ?_, by rw [HM.out], bx hbl (bx hb1 hb2)⟩, by simp [intOf]; omega⟩
        rw [HC.out, HH.out]; simp [bit]
    · go_wp2
      go_ret2
      have e : l.take k = l := List.take_of_length_le (by omega)
      rw [e]
      exact ⟨rfl, hbl⟩

end Go.Proofs.Ytmdljknlbmlacaa
