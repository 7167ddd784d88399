/- ratebookkeep.clipped, as a Lean function of what its arguments read as. Conditions: the arguments read as lists in old memory; the book has at most four domains. -/
import Derived.Test.YtmdljknlbmlacabBookM
namespace Go.Proofs.Ytmdljknlbmlacab
open Go.RowKit

set_option maxRecDepth 100000 in
set_option maxHeartbeats 1000000 in
theorem keep_clipped (b : BookD) (l : List Int) (v vl : Value) (w : World) (h : BookAt w (Old w) b v) (hl : Sl Enc.int w (Old w) l vl) (hd4 : b.doms.length ≤ 4) :
    Calls Try.prog 18 #[v, vl] w (NewPost Enc.int (clipD b.doms l) w) := by
  have HL := Lib.hid hl
  obtain ⟨vd, vt, rfl, h1, h2⟩ := h
  have HD := Lib.hid h1
  obtain ⟨A, c, rfl, hc1, hc2, -⟩ := h1
  obtain ⟨B, d, rfl, hd1, hd2, -⟩ := h2
  obtain ⟨L, e, rfl, he1, he2, -⟩ := hl
  unfold maxLen at hc2 hd2 he2
  have hb0 := below_alloc1 w (.cells #[.slice A b.doms.length c, .slice B b.tabs.length d] 48)
  have C0 := Lib.hid (Cs.new w [.slice A b.doms.length c, .slice B b.tabs.length d] 48)
  change Hid (Cs (w.alloc (.cells #[.slice A b.doms.length c, .slice B b.tabs.length d] 48)) _ _) at C0
  generalize hw0 : w.alloc (.cells #[.slice A b.doms.length c, .slice B b.tabs.length d] 48) = w0 at *
  have k0 := C0.out.at 0 rfl
  go_enter Try.func18, Try.ntmps18
  go_wp2
  go_loopw [5, 12] (fun u i wr => ∃ k : Nat, k ≤ b.doms.length ∧ i = .int .i64 k ∧ Hid (OwnG Enc.int wr w0.heap.size w0.heap.size 3 u ((clipD b.doms l).take k)) ∧ Below w0.heap.size w0 wr) (fun _ i _ => b.doms.length - (intOf i).toNat)
  case atStart => exact ⟨0, Nat.zero_le _, rfl, OwnG.nil, Below.refl _ _⟩
  case round =>
    clear hw0 k0
    obtain ⟨k, hk, rfl, HO, hbl⟩ := hrel
    have hb := bx hb0 hbl
    by_cases hlt : k < b.doms.length
    · obtain ⟨bb, o, nm, lo, hi, rfl, hSb, hx, c1, c2, c3⟩ := (HD.out.onOld hb).dom_at hlt
      have hbz := below_alloc1 wr (.cells #[.string nm, .int .i64 lo, .int .i64 hi] 57)
      have CN := Lib.hid (Cs.new wr [.string nm, .int .i64 lo, .int .i64 hi] 57)
      change Hid (Cs (wr.alloc (.cells #[.string nm, .int .i64 lo, .int .i64 hi] 57)) _ _) at CN
      have hblz := bx hbl hbz
      have HOz := Lib.hid (HO.out.next hbz)
      have q1 := CN.out.at 1 rfl
      have q2 := CN.out.at 2 rfl
      have HCA := Lib.hid (clipD_at (l := l) hx.out)
      have hlen : ((clipD b.doms l).take k).length ≤ 4 := by rw [List.length_take, clipD_length]; omega
      generalize hwa : wr.alloc (.cells #[.string nm, .int .i64 lo, .int .i64 hi] 57) = wa at *
      by_cases hkl : k < l.length
      · obtain ⟨bi, oi, nn, rfl, hSi, hxn, ci⟩ := (HL.out.onOld hb).num_at (k := k) hkl
        have hk1 : (k : Int) < l.length := by omega
        have hk0 : (0 : Int) ≤ k := by omega
        have cia := (hbz.cell (p := ⟨bi, oi + k, none⟩) hSi).trans ci
        have hbb := below_alloc1 wa (.cells #[.int .i64 (max lo (min nn hi))] 3)
        have HOb := Lib.hid (HOz.out.next hbb)
        have hblb := bx hblz hbb
        have hszb := hblb.size
        have HTK : Hid ((clipD b.doms l).take (k + 1) = (clipD b.doms l).take k ++ [max lo (min nn hi)]) := by
          show _ = _
          rw [take_at HCA.out]
          unfold clipN
          rw [List.getD_eq_getElem?_getD, hxn.out]; rfl
        go_wp2_with (at_builtin; refine wpList_append_one (E := Enc.int) _ rfl _ _ 28 rfl w0.heap.size w0.heap.size 3 8 (.int .i64 0) under_intsT infoIntT rfl (by decide) _ _ rfl HOb.out ⟨wa.heap.size, 0, none⟩ (max lo (min nn hi)) [.int .i64 (max lo (min nn hi))] rfl rfl (cell_one_new _ _ _) (by omega) (by unfold maxLen; omega) hszb ?_; intro v' wz hown' hgrowz hmvz)
        refine ⟨⟨k + 1, by omega, by go_num, ?_, hblb.grown hgrowz hszb (fun _ hr => (HOb.out.lt _ hr).1)⟩, by simp [intOf]; omega⟩
        show OwnG _ _ _ _ _ _ _
        rw [HTK.out]
        exact hown'
      · have hk1 : (l.length : Int) ≤ k := by omega
        have hbb := below_alloc1 wa (.cells #[.int .i64 (max lo (min 0 hi))] 3)
        have HOb := Lib.hid (HOz.out.next hbb)
        have hblb := bx hblz hbb
        have hszb := hblb.size
        have HTK : Hid ((clipD b.doms l).take (k + 1) = (clipD b.doms l).take k ++ [max lo (min 0 hi)]) := by
          show _ = _
          rw [take_at HCA.out]
          unfold clipN
          rw [List.getD_eq_getElem?_getD, List.getElem?_eq_none (by omega)]; rfl
        go_wp2_with (at_builtin; refine wpList_append_one (E := Enc.int) _ rfl _ _ 28 rfl w0.heap.size w0.heap.size 3 8 (.int .i64 0) under_intsT infoIntT rfl (by decide) _ _ rfl HOb.out ⟨wa.heap.size, 0, none⟩ (max lo (min 0 hi)) [.int .i64 (max lo (min 0 hi))] rfl rfl (cell_one_new _ _ _) (by omega) (by unfold maxLen; omega) hszb ?_; intro v' wz hown' hgrowz hmvz)
        refine ⟨⟨k + 1, by omega, by go_num, ?_, hblb.grown hgrowz hszb (fun _ hr => (HOb.out.lt _ hr).1)⟩, by simp [intOf]; omega⟩
        show OwnG _ _ _ _ _ _ _
        rw [HTK.out]
        exact hown'
    · have e : (clipD b.doms l).take k = clipD b.doms l := List.take_of_length_le (by rw [clipD_length]; omega)
      rw [e] at HO
      go_wp2
      go_ret
      exact ⟨_, rfl, (HO.out.sl (Nat.le_refl _)).more (fun k hk => ⟨Nat.le_trans hb0.size hk.1, hk.2⟩), hb⟩

end Go.Proofs.Ytmdljknlbmlacab
