/- book.Box, as a Lean function of what its arguments read as. Conditions: the book and the table read as lists in old memory; names and lists fit into 2^47 bytes; the table has at most three inputs. -/
import Derived.Test.YthnfkghgaagaiabBookB
import Derived.Test.YthnfkghgaagaiabBoxMake
namespace Go.Proofs.Ythnfkghgaagaiab
open Go.RowKit

theorem rngO_eq (b : BookD) (s : ByteArray) : rngO b s = match allO b s with | some r => if inBd r.1 && inBd r.2 then some r else none | none => none := rfl
theorem box_no {b : BookD} {l : List ByteArray} {k : Nat} {s : ByteArray} (h : l[k]? = some s) (hn : rngO b s = none) : boxOk b l = false := by
  unfold boxOk
  rw [List.all_eq_false]
  exact ⟨s, List.mem_of_getElem? h, by rw [hn]; simp⟩
theorem box_more {b : BookD} {l : List ByteArray} {k : Nat} {s : ByteArray} {r : Int × Int} (h : l[k]? = some s) (h0 : boxOk b (l.take k) = true) (hn : rngO b s = some r) : boxOk b (l.take (k + 1)) = true ∧ boxL b (l.take (k + 1)) = boxL b (l.take k) ++ [[r]] := by
  rw [take_at h]
  unfold boxOk boxL at *
  rw [List.all_append, h0, List.map_append]
  simp [hn]
theorem BoxPost.no {b : BookD} {t : TabD} {w w' : World} (h : boxOk b t.ins = false) (hb : Below w.heap.size w w') : BothPost (boxV b t).1 (boxV b t).2 w (.returned (.tuple #[.slice none 0 0, .bool false])) w' := by
  unfold boxV; rw [h]; exact ⟨_, rfl, Sl.nil, hb⟩
theorem BoxPost.yes {b : BookD} {t : TabD} {w w' : World} {v : Value} (h : boxOk b t.ins = true) (hs : Sl Enc.rng.slice w' (From w.heap.size w') (boxL b t.ins) v) (hb : Below w.heap.size w w') : BothPost (boxV b t).1 (boxV b t).2 w (.returned (.tuple #[v, .bool true])) w' := by
  unfold boxV; rw [h]; exact ⟨_, rfl, hs, hb⟩
/-- a set of one range that a literal lays -/
theorem one_rng (w : World) (lo hi : Int) (e : Nat) : Sl Enc.rng (w.alloc (.cells #[.int .i64 lo, .int .i64 hi] e)) (From w.heap.size (w.alloc (.cells #[.int .i64 lo, .int .i64 hi] e))) [(lo, hi)] (.slice (some ⟨w.heap.size, 0, none⟩) 1 1) :=
  (OwnG.lit (E := Enc.rng) w (base := w.heap.size) (lo := w.heap.size) (e := e) [(lo, hi)] #[.int .i64 lo, .int .i64 hi] (Nat.le_refl _) (by unfold maxLen; simp) rfl (Elems.one rfl)).sl (Nat.le_refl _)

set_option maxHeartbeats 1000000 in
theorem book_Box (b : BookD) (t : TabD) (v vt : Value) (w : World) (h : BookAt w (Old w) b v) (ht : TabAt w (Old w) t vt) (hs : smallB b) (hl : t.ins.length ≤ 3) :
    Calls Try.prog 38 #[v, vt] w (BothPost (boxV b t).1 (boxV b t).2 w) := by
  have HS := Lib.hid hs
  have HB := Lib.hid h
  clear hs
  have HNO : Hid (∀ w', boxOk b t.ins = false → Below w.heap.size w w' → BothPost (boxV b t).1 (boxV b t).2 w (.returned (.tuple #[.slice none 0 0, .bool false])) w') := fun w' h1 h2 => BoxPost.no h1 h2
  have HYES : Hid (∀ w' v, boxOk b t.ins = true → Sl Enc.rng.slice w' (From w.heap.size w') (boxL b t.ins) v → Below w.heap.size w w' → BothPost (boxV b t).1 (boxV b t).2 w (.returned (.tuple #[v, .bool true])) w') := fun w' v h1 h2 h3 => BoxPost.yes h1 h2 h3
  generalize boxV b t = R at *
  obtain ⟨nm, pol, comp, ins, rules⟩ := t
  obtain ⟨vd, vtb, rfl, h1, h2⟩ := h
  obtain ⟨vi, vr, rfl, hi, hr⟩ := ht
  simp only at hi hr hl HNO HYES
  have HI := Lib.hid hi
  obtain ⟨A, c, rfl, hc1, hc2, -⟩ := h1
  obtain ⟨B, d, rfl, hd1, hd2, -⟩ := h2
  obtain ⟨Ai, ci, rfl, hi1, hi2, -⟩ := hi
  obtain ⟨Ar, cr, rfl, hr1, hr2, -⟩ := hr
  unfold maxLen at hc2 hd2 hi2
  have hb0 := below_alloc1 w (.cells #[.slice A b.doms.length c, .slice B b.tabs.length d] 48)
  have C0 := Lib.hid (Cs.new w [.slice A b.doms.length c, .slice B b.tabs.length d] 48)
  have hz0 : (w.alloc (.cells #[.slice A b.doms.length c, .slice B b.tabs.length d] 48)).heap.size = w.heap.size + 1 := by simp
  change Hid (Cs (w.alloc (.cells #[.slice A b.doms.length c, .slice B b.tabs.length d] 48)) _ _) at C0
  generalize hw0 : w.alloc (.cells #[.slice A b.doms.length c, .slice B b.tabs.length d] 48) = w0 at *
  have hb1 := below_alloc1 w0 (.cells #[.string nm, .int .i64 pol, .bool comp, .slice Ai ins.length ci, .slice Ar rules.length cr] 25)
  have C1 := Lib.hid (Cs.new w0 [.string nm, .int .i64 pol, .bool comp, .slice Ai ins.length ci, .slice Ar rules.length cr] 25)
  change Hid (Cs (w0.alloc (.cells #[.string nm, .int .i64 pol, .bool comp, .slice Ai ins.length ci, .slice Ar rules.length cr] 25)) _ _) at C1
  rw [hz0] at C1
  have C01 := Lib.hid (C0.out.next hb1)
  have hb01 := bx hb0 hb1
  generalize hw1 : w0.alloc (.cells #[.string nm, .int .i64 pol, .bool comp, .slice Ai ins.length ci, .slice Ar rules.length cr] 25) = w1 at *
  have k3 := C1.out.at 3 rfl
  go_enter Try.func38, Try.ntmps38
  go_wp2
  go_loopw [6, 14] (fun u i wr => ∃ k : Nat, k ≤ ins.length ∧ i = .int .i64 k ∧ Hid (OwnG Enc.rng.slice wr w1.heap.size w1.heap.size 71 u (boxL b (ins.take k))) ∧ Hid (boxOk b (ins.take k) = true) ∧ Hid (Cs wr w.heap.size [.slice A b.doms.length c, .slice B b.tabs.length d]) ∧ Below w1.heap.size w1 wr) (fun _ i _ => ins.length - (intOf i).toNat)
  case atStart => exact ⟨0, Nat.zero_le _, rfl, OwnG.nil, rfl, C01, Below.refl _ _⟩
  case round =>
    clear hw0 hw1 k3 hb0 hb1
    obtain ⟨k, hk, rfl, HO, HK, CB, hbl⟩ := hrel
    have hb := bx hb01 hbl
    have hsz1 := hbl.size
    by_cases hlt : k < ins.length
    · obtain ⟨bb, o, x, rfl, _, hx, c1⟩ := (HI.out.onOld hb).str_at hlt
      have HBk := Lib.hid (HB.out.onOld hb)
      have kB0 := CB.out.at 0 rfl
      have kB1 := CB.out.at 1 rfl
      have HRE := Lib.hid (rngO_eq b x)
      go_wp2_with fail
      refine (book_All b x _ _ HBk.out HS.out).mono ?_
      rintro e w2 ⟨rfl, hb2⟩
      have hb12 := bx hbl hb2
      have hb02 := bx hb hb2
      cases ha : allO b x with
      | none =>
        have HN : Hid (boxOk b ins = false) := box_no hx.out (by rw [HRE.out, ha])
        simp only [Option.getD_none, Option.isSome_none]
        have hbz := below_alloc1 w2 (.cells #[.int .i64 0, .int .i64 0] 75)
        clear ha HRE
        go_wp2
        go_ret2
        exact HNO.out _ HN.out (bx hb02 hbz)
      | some r =>
        obtain ⟨lo, hi⟩ := r
        have HRE2 : Hid (rngO b x = if inBd lo && inBd hi then some (lo, hi) else none) := by show _ = _; rw [HRE.out, ha]
        simp only [Option.getD_some, Option.isSome_some]
        clear ha HRE
        have hbz := below_alloc1 w2 (.cells #[.int .i64 lo, .int .i64 hi] 75)
        have CN := Lib.hid (Cs.new w2 [.int .i64 lo, .int .i64 hi] 75)
        change Hid (Cs (w2.alloc (.cells #[.int .i64 lo, .int .i64 hi] 75)) _ _) at CN
        have CBz := Lib.hid ((CB.out.next hb2).next hbz)
        have HOz := Lib.hid ((HO.out.next hb2).next hbz)
        have hb1z := bx hb12 hbz
        have hb0z := bx hb02 hbz
        have q0 := CN.out.at 0 rfl
        have q1 := CN.out.at 1 rfl
        go_wp2_with fail
        generalize hwa : w2.alloc (.cells #[.int .i64 lo, .int .i64 hi] 75) = wa at *
        clear hwa hbz
        refine (book_bounded lo _).mono ?_
        rintro e w3 ⟨rfl, hb3⟩
        have CN3 := Lib.hid (CN.out.next hb3)
        have r0 := CN3.out.at 0 rfl
        have r1 := CN3.out.at 1 rfl
        have hb13 := bx hb1z hb3
        have hb03 := bx hb0z hb3
        clear q0 q1
        cases h3 : inBd lo
        · have HN : Hid (boxOk b ins = false) := box_no hx.out (by rw [HRE2.out, h3]; rfl)
          clear h3
          go_wp2
          go_ret2
          exact HNO.out _ HN.out hb03
        · have HRE3 : Hid (rngO b x = if inBd hi then some (lo, hi) else none) := by show _ = _; rw [HRE2.out, h3]; rfl
          clear h3 HRE2
          go_wp2_with fail
          refine (book_bounded hi _).mono ?_
          rintro e w4 ⟨rfl, hb4⟩
          have CN4 := Lib.hid (CN3.out.next hb4)
          have s0 := CN4.out.at 0 rfl
          have s1 := CN4.out.at 1 rfl
          have hb14 := bx hb13 hb4
          have hb04 := bx hb03 hb4
          clear r0 r1
          cases h4 : inBd hi
          · have HN : Hid (boxOk b ins = false) := box_no hx.out (by rw [HRE3.out, h4]; rfl)
            clear h4
            go_wp2
            go_ret2
            exact HNO.out _ HN.out hb04
          · have HM := Lib.hid (box_more (r := (lo, hi)) hx.out HK.out (by rw [HRE3.out, h4]; rfl))
            clear h4 HRE3
            have CB4 := Lib.hid ((CBz.out.next hb3).next hb4)
            have HO4 := Lib.hid ((HOz.out.next hb3).next hb4)
            have h5 := below_alloc1 w4 (.cells #[.int .i64 lo, .int .i64 hi] 75)
            have S5 := Lib.hid (one_rng w4 lo hi 75)
            have hz5 : (w4.alloc (.cells #[.int .i64 lo, .int .i64 hi] 75)).heap.size = w4.heap.size + 1 := by simp
            have h6 := below_alloc1 (w4.alloc (.cells #[.int .i64 lo, .int .i64 hi] 75)) (.cells #[.slice (some ⟨w4.heap.size, 0, none⟩) 1 1] 71)
            have h46 := bx h5 h6
            have HO6 := Lib.hid ((HO4.out.next h5).next h6)
            have CB6 := Lib.hid (CB4.out.next h46)
            have hb16 := bx hb14 h46
            have HY : Hid (Enc.rng.slice.rd ((w4.alloc (.cells #[.int .i64 lo, .int .i64 hi] 75)).alloc (.cells #[.slice (some ⟨w4.heap.size, 0, none⟩) 1 1] 71)) (Off w1.heap.size ((w4.alloc (.cells #[.int .i64 lo, .int .i64 hi] 75)).alloc (.cells #[.slice (some ⟨w4.heap.size, 0, none⟩) 1 1] 71)) u6) [(lo, hi)] [.slice (some ⟨w4.heap.size, 0, none⟩) 1 1]) :=
              ⟨_, rfl, (S5.out.on h6).more (off_new HO4.out hb14.size (Nat.le_refl _))⟩
            have hk3 : (boxL b (ins.take k)).length ≤ 3 := by
              unfold boxL; rw [List.length_map, List.length_take]; omega
            have hsz16 := hb16.size
            have hcell := cell_one_new (w4.alloc (.cells #[.int .i64 lo, .int .i64 hi] 75)) (.slice (some ⟨w4.heap.size, 0, none⟩) 1 1) 71
            rw [hz5] at hcell
            have HC := Lib.hid hcell
            clear hcell
            go_wp2_with (at_builtin; refine wpList_append_one (E := Enc.rng.slice) _ rfl _ _ 27 rfl w1.heap.size w1.heap.size 71 24 (.slice none 0 0) under_box infoSet rfl (by decide) _ _ rfl HO6.out ⟨w4.heap.size + 1, 0, none⟩ [(lo, hi)] [.slice (some ⟨w4.heap.size, 0, none⟩) 1 1] rfl HY.out HC.out (by omega) (by unfold maxLen; omega) hsz16 ?_; intro v' w7 hown' hgrow7 hmv7)
            refine ⟨⟨k + 1, by omega, by go_num, ?_, HM.out.1, CB6.out.keep (hgrow7.block _ CB6.out.1 (fun e => by have := (HO6.out.lt _ e.symm).1; have := C1.out.1; omega)) hgrow7.size, hb16.grown hgrow7 hsz16 (fun _ hr => (HO6.out.lt _ hr).1)⟩, by simp [intOf]; omega⟩
            show OwnG _ _ _ _ _ _ _
            rw [HM.out.2]
            exact hown'
    · have e : ins.take k = ins := List.take_of_length_le (by omega)
      rw [e] at HO HK
      go_wp2
      go_ret2
      exact HYES.out _ _ HK.out ((HO.out.sl (Nat.le_refl _)).more (fun k hk => ⟨Nat.le_trans hb01.size hk.1, hk.2⟩)) hb

end Go.Proofs.Ythnfkghgaagaiab
