/- box.lessEach, Rest, Point and Size. Conditions: argument slices read as lists in old memory; the boxes that are left are few enough to fit into 2^47 bytes. -/
import Derived.Test.YthnfkghgaagaiabBoxLess
import Derived.Test.YthnfkghgaagaiabSpanNorm
import Derived.Test.YthnfkghgaagaiabMem
namespace Go.Proofs.Ythnfkghgaagaiab
open Go.RowKit

set_option maxHeartbeats 400000 in
theorem box_lessEach (l : List (List (List (Int × Int)))) (b : List (List (Int × Int))) (vl vb : Value) (w : World) (hl : Sl Enc.rng.slice.slice w (Old w) l vl) (hb : Sl Enc.rng.slice w (Old w) b vb) (hlen : l.length * 3 * 24 ≤ 140737488355328) :
    Calls Try.prog 51 #[vl, vb] w (RowPost Enc.rng.slice.slice 27 w.heap.size (eachBox l b) w) := by
  have H := Lib.hid hl
  have HB := Lib.hid hb
  clear hb
  obtain ⟨A, c, rfl, hc1, hc2, -⟩ := hl
  unfold maxLen at hc2
  go_enter Try.func51, Try.ntmps51
  go_wp2
  go_loopw [5, 10] (fun u i wr => ∃ k : Nat, k ≤ l.length ∧ i = .int .i64 k ∧ OwnG Enc.rng.slice.slice wr w.heap.size w.heap.size 27 u (eachBox (l.take k) b) ∧ Below w.heap.size w wr) (fun _ i _ => l.length - (intOf i).toNat)
  case atStart => exact ⟨0, Nat.zero_le _, rfl, OwnG.nil, Below.refl _ _⟩
  case round =>
    obtain ⟨k, hk, rfl, hown, hbl⟩ := hrel
    have hsz := hbl.size
    by_cases hlt : k < l.length
    · obtain ⟨bb, o, a, ua, rfl, _, hx, h1, h2⟩ := (H.out.below (fun _ h => h) hbl).sl_at hlt
      have HS := Lib.hid (h2.more (S' := Old wr) fun _ h => Nat.lt_of_lt_of_le h hsz)
      have HB1 := Lib.hid (HB.out.onOld hbl)
      have HO := Lib.hid hown
      have HT := Lib.hid (eachBox_take hx.out b)
      have HN : Hid ((eachBox (l.take k) b).length ≤ 3 * k) := by have := eachBox_length (l.take k) b; rw [List.length_take] at this; show _ ≤ _; omega
      have HM := Lib.hid (lessBox_length a b)
      clear h2 hown
      go_wp2_with fail
      refine (box_Less a b _ _ _ HS.out HB1.out).mono ?_
      rintro e w1 ⟨v1, rfl, ho1, hb1⟩
      have hn1 := ho1.sl (Nat.le_refl _)
      have HO1 := Lib.hid (HO.out.next hb1)
      have HX := Lib.hid hn1
      have HF := Lib.hid (fun (y : List (List (Int × Int))) cs (h : Enc.rng.slice.slice.rd w1 (From wr.heap.size w1) y cs) => Enc.more _ h (off_new HO.out hsz (Nat.le_refl w1.heap.size)))
      have hb2 : Below w.heap.size w w1 := bx hbl hb1
      have hsz2 := hb2.size
      clear hn1 ho1 hb1
      go_wp2_with (at_builtin; refine wpList_append_all (E := Enc.rng.slice.slice) _ rfl _ _ 79 rfl w.heap.size w.heap.size 27 24 (.slice none 0 0) under_boxes infoBox rfl (by decide) _ _ rfl HO1.out _ (lessBox a b) rfl _ HX.out HF.out (by have := HN.out; have := HM.out; omega) (by have := HN.out; have := HM.out; unfold maxLen; omega) hsz2 ?_; intro v4 w4 ho4 hg4 _)
      refine ⟨⟨k + 1, by omega, by go_num, by rw [HT.out]; exact ho4, hb2.grown hg4 hsz2 (fun _ hr => (HO.out.lt _ hr).1)⟩, by simp [intOf]; omega⟩
    · go_wp2
      go_ret
      have e : l.take k = l := List.take_of_length_le (by omega)
      rw [e] at hown
      exact ⟨_, rfl, hown, hbl⟩

set_option maxHeartbeats 400000 in
theorem box_Rest (a : List (List (Int × Int))) (l : List (List (List (Int × Int)))) (va vl : Value) (w : World) (ha : Sl Enc.rng.slice w (Old w) a va) (hl : Sl Enc.rng.slice.slice w (Old w) l vl) (hlen : l.length ≤ 20) :
    Calls Try.prog 30 #[va, vl] w (RowPost Enc.rng.slice.slice 27 w.heap.size (restBox a l) w) := by
  have HA := Lib.hid ha
  have H := Lib.hid hl
  obtain ⟨A, c, rfl, hc1, hc2, -⟩ := ha
  obtain ⟨B, d, rfl, hd1, hd2, -⟩ := hl
  unfold maxLen at hc2 hd2
  cases hg : goodBox a a.length
  · have HG := Lib.hid hg
    clear hg
    go_enter Try.func30, Try.ntmps30
    go_wp2_with fail
    refine (box_Good a _ _ _ HA.out).mono ?_
    rintro e w1 ⟨rfl, hb1⟩
    rw [HG.out]
    go_wp2
    go_ret
    exact ⟨_, rfl, by rw [restBox_eq, HG.out]; exact OwnG.nil, hb1⟩
  · have HG := Lib.hid hg
    have HGA := Lib.hid (goodBox_iff.1 hg)
    have lenA : a.length ≤ 3 := by have := HGA.out; omega
    clear hg
    go_enter Try.func30, Try.ntmps30
    go_wp2_with fail
    refine (box_Good a _ _ _ HA.out).mono ?_
    rintro e w1 ⟨rfl, hb1⟩
    rw [HG.out]
    have HA1 := Lib.hid (HA.out.onOld hb1)
    go_wp2_with fail
    refine (box_clone a _ _ HA1.out (by omega) (sets_small (setsB_good HGA.out.2))).mono ?_
    rintro e w2 ⟨v2, rfl, ho2, hb2⟩
    have hn2 := ho2.sl (Nat.le_refl _)
    obtain ⟨A2, c2, rfl, -, -⟩ := hn2.form
    have hb02 := bx hb1 hb2
    have HL2 := Lib.hid (H.out.onOld hb02)
    have hsz2 := hb02.size
    have HO2 : Hid (OwnG Enc.rng.slice.slice (w2.alloc (.cells #[.slice A2 a.length c2] 27)) w.heap.size w.heap.size 27 (.slice (some ⟨w2.heap.size, 0, none⟩) 1 1) [a]) := by
      refine OwnG.lit w2 [a] #[.slice A2 a.length c2] hsz2 (by unfold maxLen; simp) rfl (Elems.one ⟨_, rfl, ?_⟩)
      exact (hn2.below (fun _ h => h.2) (below_alloc1 w2 _)).more fun k hk => ⟨Nat.le_trans hb1.size hk.1, hk.2⟩
    have hb03 : Below w.heap.size w (w2.alloc (.cells #[.slice A2 a.length c2] 27)) := hb02.alloc hsz2 _
    clear hn2 ho2 hb2 hb1 hb02
    have HAW := Lib.hid (HA.out)
    go_wp2
    go_loopw [5, 18] (fun u i wr => ∃ k : Nat, k ≤ l.length ∧ i = .int .i64 k ∧ OwnG Enc.rng.slice.slice wr w.heap.size w.heap.size 27 u (restF a (l.take k)) ∧ Below w.heap.size w wr) (fun _ i _ => l.length - (intOf i).toNat)
    case atStart => exact ⟨0, Nat.zero_le _, rfl, HO2.out, hb03⟩
    case round =>
      clear HO2 hb03
      obtain ⟨k, hk, rfl, hown, hbl⟩ := hrel
      have hsz := hbl.size
      by_cases hlt : k < l.length
      · obtain ⟨bb, o, b, ub, rfl, _, hx, h1, h2⟩ := (H.out.below (fun _ h => h) hbl).sl_at hlt
        have HS := Lib.hid (h2.more (S' := Old wr) fun _ h => Nat.lt_of_lt_of_le h hsz)
        have HO := Lib.hid hown
        have HT := Lib.hid (restF_take (a := a) hx.out)
        have HN := Lib.hid (restF_all HG.out l k hk).2.1
        clear h2 hown
        go_wp2_with fail
        refine (box_Good b _ _ _ HS.out).mono ?_
        rintro e w3 ⟨rfl, hb3⟩
        cases hgb : goodBox b a.length
        · have HGB := Lib.hid hgb
          clear hgb
          go_wp2
          refine ⟨⟨k + 1, by omega, by go_num, ?_, bx hbl hb3⟩, by simp [intOf]; omega⟩
          rw [HT.out, restStep, HGB.out]
          exact HO.out.next hb3
        · have HGB := Lib.hid hgb
          have HS3 := Lib.hid (HS.out.onOld hb3)
          have HR3 := Lib.hid ((HO.out.next hb3).slOld (Nat.le_refl _))
          have hb4 := bx hbl hb3
          clear hgb hb3
          go_wp2_with fail
          refine (box_lessEach (restF a (l.take k)) b _ _ _ HR3.out HS3.out ?_).mono ?_
          · have h1 := HN.out
            have h2 : 3 ^ k ≤ 3 ^ 20 := Nat.pow_le_pow_right (by omega) (by omega)
            have h3 : 3 ^ 20 = 3486784401 := by decide
            omega
          rintro e w4 ⟨v4, rfl, ho4, hb5⟩
          go_wp2
          refine ⟨⟨k + 1, by omega, by go_num, ?_, bx hb4 hb5⟩, by simp [intOf]; omega⟩
          rw [HT.out, restStep, HGB.out]
          exact (ho4.mono hb4.size).monoLo hb4.size
      · go_wp2
        go_ret
        have e : l.take k = l := List.take_of_length_le (by omega)
        rw [e] at hown
        exact ⟨_, rfl, by rw [restBox_eq, HG.out]; exact hown, hbl⟩

theorem pointL_take {b : List (List (Int × Int))} {k : Nat} {s : List (Int × Int)} (h : b[k]? = some s) : pointL (b.take (k + 1)) = pointL (b.take k) ++ (s.head?.map (·.1)).toList := by
  rw [take_at h]
  simp only [pointL, List.filterMap_append]
  cases s <;> rfl
theorem pointL_length (b : List (List (Int × Int))) : (pointL b).length ≤ b.length := List.length_filterMap_le ..
theorem infoInt' : (Try.prog.info? 3).map (fun i => (i.zero, i.size, i.bytes)) = some (some (.int .i64 0), 1, 8) := by kernel_rfl
theorem under_ints : Try.prog.underlying 28 = some (.slice 3) := by kernel_rfl

set_option maxHeartbeats 400000 in
theorem box_Point (b : List (List (Int × Int))) (v : Value) (w : World) (h : Sl Enc.rng.slice w (Old w) b v) (hl : b.length * 8 ≤ 140737488355328) :
    Calls Try.prog 48 #[v] w (RowPost Enc.int 3 w.heap.size (pointL b) w) := by
  have H := Lib.hid h
  obtain ⟨A, c, rfl, hc1, hc2, -⟩ := h
  unfold maxLen at hc2
  go_enter Try.func48, Try.ntmps48
  go_wp2
  go_loopw [3, 8] (fun u i wr => ∃ k : Nat, k ≤ b.length ∧ i = .int .i64 k ∧ OwnG Enc.int wr w.heap.size w.heap.size 3 u (pointL (b.take k)) ∧ Below w.heap.size w wr) (fun _ i _ => b.length - (intOf i).toNat)
  case atStart => exact ⟨0, Nat.zero_le _, rfl, OwnG.nil, Below.refl _ _⟩
  case round =>
    obtain ⟨k, hk, rfl, hown, hbl⟩ := hrel
    have hsz := hbl.size
    by_cases hlt : k < b.length
    · obtain ⟨bb, o, s, us, rfl, _, hx, h1, h2⟩ := (H.out.below (fun _ h => h) hbl).sl_at hlt
      have HS := Lib.hid h2
      have HO := Lib.hid hown
      have HT := Lib.hid (pointL_take hx.out)
      have HN : Hid ((pointL (b.take k)).length ≤ k) := by have := pointL_length (b.take k); rw [List.length_take] at this; show _ ≤ _; omega
      obtain ⟨As, cs, rfl, hs1, hs2, -⟩ := h2
      clear hown
      by_cases h0 : s.length = 0
      · have h0' : (s.length : Int) = 0 := by omega
        have HE : Hid (s = []) := List.length_eq_zero_iff.1 h0
        clear h0
        go_wp2
        refine ⟨⟨k + 1, by omega, by go_num, ?_, hbl⟩, by simp [intOf]; omega⟩
        rw [HT.out, HE.out]
        simpa using HO.out
      · have h0' : 0 < (s.length : Int) := by omega
        obtain ⟨b2, o2, x, y, rfl, _, hr, r1, r2⟩ := HS.out.rng_at (k := 0) (by omega)
        have r1' : wr.cell? ⟨b2, o2, none⟩ = some (.int .i64 x) := by simpa using r1
        have HE : Hid (s.head?.map (·.1) = some x) := by
          have := hr.out
          cases s with
          | nil => simp at this
          | cons r s => simp at this; simp [this, Hid]
        clear r1 r2 h0
        have HO1 := Lib.hid (HO.out.alloc (.cells #[.int .i64 x] 3))
        have HY : Hid (Enc.int.rd (wr.alloc (.cells #[.int .i64 x] 3)) (Off w.heap.size (wr.alloc (.cells #[.int .i64 x] 3)) u3) x [.int .i64 x]) := rfl
        have hb2 : Below w.heap.size w (wr.alloc (.cells #[.int .i64 x] 3)) := hbl.alloc hsz _
        go_wp2_with (at_builtin; refine wpList_append_one (E := Enc.int) _ rfl _ _ 28 rfl w.heap.size w.heap.size 3 8 (.int .i64 0) under_ints infoInt' rfl (by decide) _ _ rfl HO1.out ⟨wr.heap.size, 0, none⟩ x [.int .i64 x] rfl HY.out (cell_one_new _ _ _) (by have := HN.out; omega) (by have := HN.out; unfold maxLen; omega) (by simp; omega) ?_; intro v' w3 hown' hgrow3 _)
        refine ⟨⟨k + 1, by omega, by go_num, ?_, hb2.grown hgrow3 (by simp; omega) (fun _ hr => (HO.out.lt _ hr).1)⟩, by simp [intOf]; omega⟩
        rw [HT.out, HE.out]
        exact hown'
    · go_wp2
      go_ret
      have e : b.take k = b := List.take_of_length_le (by omega)
      rw [e] at hown
      exact ⟨_, rfl, hown, hbl⟩

end Go.Proofs.Ythnfkghgaagaiab
