/- box.Good, alike and Has, each as a Lean function of the lists that its arguments read as. Conditions: argument slices read as lists in old memory. -/
import Derived.Test.YtmdljknlbmlacabGreatDoorSpan
import Derived.Test.YtmdljknlbmlacabGreatDoorMem
import Derived.Test.YtmdljknlbmlacabGreatDoorBoxes
namespace Go.Proofs.YtmdljknlbmlacabGreatDoor
open Go.RowKit

theorem bx {w w1 w2 : World} (h : Below w.heap.size w w1) (h' : Below w1.heap.size w1 w2) : Below w.heap.size w w2 := below_next h h.size h'
theorem below_alloc1 (w : World) (o : Obj) : Below w.heap.size w (w.alloc o) := (Below.refl _ _).alloc (Nat.le_refl _) o

theorem cell_new (w : World) (cs : Array Value) (e j : Nat) (v : Value) (h : cs[j]? = some v) : (w.alloc (.cells cs e)).cell? ⟨w.heap.size, j, none⟩ = some v := (World.cell?_alloc_new ..).trans h
theorem undrew {w w' : World} (h : Below w.drew.heap.size w.drew w') : Below w.heap.size w w' := ⟨h.os, h.tape, h.output, h.size, h.block⟩

theorem setsB_at {b : List (List (Int × Int))} {k : Nat} {s : List (Int × Int)} (h : b[k]? = some s) : setsB (b.drop k) = ((decide (0 < s.length) && goodB s) && setsB (b.drop (k + 1))) := by
  rw [drop_at h]; rfl

set_option maxHeartbeats 400000 in
theorem box_Good (b : List (List (Int × Int))) (v : Value) (n : Int) (w : World) (h : Sl Enc.rng.slice w (Old w) b v) :
    Calls Tryz.prog 121 #[v, .int .i64 n] w fun e w' => e = .returned (.bool (goodBox b n)) ∧ Below w.heap.size w w' := by
  have H := Lib.hid h
  obtain ⟨A, c, rfl, hc1, hc2, -⟩ := h
  unfold maxLen at hc2
  by_cases hn : (b.length : Int) = n
  · by_cases h3 : n ≤ 3
    · have HE : Hid (goodBox b n = setsB b) := by simp [goodBox, hn, h3, Hid]
      have hne : ((b.length : Int) != n) = false := by simp [hn]
      have HN := Lib.hid hn
      clear hn
      go_enter Tryz.func121, Tryz.ntmps121
      go_wp2
      go_loopw [17] (fun i wr => ∃ k : Nat, k ≤ b.length ∧ i = .int .i64 k ∧ Hid (setsB b = setsB (b.drop k)) ∧ Below w.heap.size w wr) (fun i _ => b.length - (intOf i).toNat)
      case atStart => exact ⟨0, Nat.zero_le _, rfl, rfl, Below.refl _ _⟩
      case round =>
        obtain ⟨k, hk, rfl, hf, hb⟩ := hrel
        have hsz := hb.size
        by_cases hlt : k < b.length
        · obtain ⟨bb, o, s, us, rfl, _, hs, h1, h2⟩ := (H.out.below (fun _ h => h) hb).sl_at hlt
          have HS := Lib.hid (h2.more (S' := Old wr) fun _ h => Nat.lt_of_lt_of_le h hsz)
          have HX := Lib.hid (setsB_at hs.out)
          obtain ⟨As, cs, rfl, hs1, hs2, -⟩ := h2
          by_cases h0 : s.length = 0
          · have h0' : (s.length : Int) = 0 := by omega
            go_wp2
            go_ret
            exact ⟨ret_bool (by rw [HE.out, hf.out, HX.out]; simp [h0]), hb⟩
          · have h0' : ((s.length : Int) == 0) = false := beq_eq_false_iff_ne.2 (by omega)
            have hp : Hid (decide (0 < s.length) = true) := decide_eq_true (by omega)
            cases hg : goodB s
            · have HG := Lib.hid hg
              clear hg
              go_wp2_with fail
              refine (span_Good s _ _ HS.out).mono ?_
              rintro e w1 ⟨rfl, hb1⟩
              rw [HG.out]
              go_wp2
              go_ret
              exact ⟨ret_bool (by rw [HE.out, hf.out, HX.out, HG.out]; simp), below_next hb hsz hb1⟩
            · have HG := Lib.hid hg
              clear hg
              go_wp2_with fail
              refine (span_Good s _ _ HS.out).mono ?_
              rintro e w1 ⟨rfl, hb1⟩
              rw [HG.out]
              go_wp2
              refine ⟨⟨k + 1, by omega, by go_num, ?_, below_next hb hsz hb1⟩, by simp [intOf]; omega⟩
              show setsB b = _
              rw [hf.out, HX.out, HG.out, hp.out]; rfl
        · go_wp2
          go_ret
          have hf' := hf.out
          rw [List.drop_of_length_le (by omega)] at hf'
          exact ⟨ret_bool (by rw [HE.out, hf']; rfl), hb⟩
    · have HE : Hid (goodBox b n = false) := by simp [goodBox, h3, Hid]
      have hne : ((b.length : Int) != n) = false := by simp [hn]
      have h3' : 3 < n := by omega
      have HN := Lib.hid hn
      clear hn
      go_enter Tryz.func121, Tryz.ntmps121
      go_wp2
      go_ret
      exact ⟨ret_bool HE.out.symm, Below.refl _ _⟩
  · have HE : Hid (goodBox b n = false) := by simp [goodBox, hn, Hid]
    have hne : ((b.length : Int) != n) = true := by simpa using hn
    go_enter Tryz.func121, Tryz.ntmps121
    go_wp2
    go_ret
    exact ⟨ret_bool HE.out.symm, Below.refl _ _⟩

set_option maxHeartbeats 400000 in
theorem box_alike (a b : List (List (Int × Int))) (va vb : Value) (w : World) (ha : Sl Enc.rng.slice w (Old w) a va) (hb : Sl Enc.rng.slice w (Old w) b vb) :
    Calls Tryz.prog 208 #[va, vb] w fun e w' => e = .returned (.bool (alikeB a b)) ∧ Below w.heap.size w w' := by
  have HA := Lib.hid ha
  have HB := Lib.hid hb
  clear hb
  obtain ⟨A, c, rfl, hc1, hc2, -⟩ := ha
  unfold maxLen at hc2
  cases hg : goodBox a a.length
  · have HG := Lib.hid hg
    clear hg
    go_enter Tryz.func208, Tryz.ntmps208
    go_wp2_with fail
    refine (box_Good a _ _ _ HA.out).mono ?_
    rintro e w1 ⟨rfl, hb1⟩
    rw [HG.out]
    go_wp2
    go_ret
    exact ⟨ret_bool (by simp [alikeB, HG.out]), hb1⟩
  · have HG := Lib.hid hg
    clear hg
    go_enter Tryz.func208, Tryz.ntmps208
    go_wp2_with fail
    refine (box_Good a _ _ _ HA.out).mono ?_
    rintro e w1 ⟨rfl, hb1⟩
    rw [HG.out]
    have HB1 := Lib.hid (HB.out.onOld hb1)
    go_wp2_with fail
    refine (box_Good b _ _ _ HB1.out).mono ?_
    rintro e w2 ⟨rfl, hb2⟩
    go_wp2
    go_ret
    exact ⟨ret_bool (by simp [alikeB, HG.out]), bx hb1 hb2⟩

theorem hasBox_at {b : List (List (Int × Int))} {l : List Int} {k : Nat} {s : List (Int × Int)} {n : Int} (h : b[k]? = some s) (h' : l[k]? = some n) : hasBox (b.drop k) (l.drop k) = (hasB s n && hasBox (b.drop (k + 1)) (l.drop (k + 1))) := by
  rw [drop_at h, drop_at h']; rfl
theorem hasBox_ne {b : List (List (Int × Int))} {l : List Int} (h : l.length ≠ b.length) : hasBox b l = false := by
  cases hb : hasBox b l
  · rfl
  · exact absurd (hasBox_length hb) h
/-- one number of a slice -/
theorem Sl.num_at {w : World} {S : Nat → Prop} {l : List Int} {A : Option Addr} {n c : Nat} (h : Sl Enc.int w S l (.slice A n c)) {k : Nat} (hk : k < l.length) :
    ∃ b o x, A = some ⟨b, o, none⟩ ∧ S b ∧ Hid (l[k]? = some x) ∧ w.cell? ⟨b, o + k, none⟩ = some (.int .i64 x) := by
  obtain ⟨A, c, e, h2, h3, _, h4⟩ := h
  injection e with e1 e2 e3
  subst e1 e2 e3
  obtain ⟨b, o, rfl, h6, h7⟩ := h4 (by omega)
  obtain ⟨cs, h8, h9⟩ := h7 k l[k] (List.getElem?_eq_getElem hk)
  have h8' : cs = [.int .i64 l[k]] := h8
  subst h8'
  refine ⟨b, o, l[k], rfl, h6, List.getElem?_eq_getElem hk, ?_⟩
  have := h9 0 _ rfl
  have es : Enc.int.size = 1 := rfl
  rw [es, Nat.mul_one, Nat.add_zero] at this
  exact this

end Go.Proofs.YtmdljknlbmlacabGreatDoor
