/- book.Order, as a Lean function of what its argument reads as. Conditions: the book reads as lists in old memory; the names of its tables are different; names and lists fit into 2^47 bytes. -/
import Derived.Test.YthnfkghgaagaiabBookD
namespace Go.Proofs.Ythnfkghgaagaiab
open Go.RowKit Go.Shelf

set_option maxHeartbeats 2000000 in
theorem book_Order (b : BookD) (v : Value) (w : World) (h : BookAt w (Old w) b v) (hs : smallB b) (hn : (namesT b.tabs).Nodup) (hlen : b.tabs.length * 16 ≤ 140737488355328) :
    Calls Try.prog 20 #[v] w (OrderPost (orderO b.tabs) w) := by
  have HSM := Lib.hid hs.2
  have HN := Lib.hid hn
  clear hs hn
  obtain ⟨doms, tabs⟩ := b
  obtain ⟨vd, vt, rfl, h1, h2⟩ := h
  simp only at h1 h2 hlen HSM HN ⊢
  have H := Lib.hid h2
  obtain ⟨A, c, rfl, hc1, hc2, -⟩ := h1
  obtain ⟨B, d, rfl, hd1, hd2, -⟩ := h2
  unfold maxLen at hc2 hd2
  have HE : Hid (orderO tabs = orderF tabs tabs.length (namesT tabs)) := rfl
  generalize orderO tabs = R at *
  have hb0 := below_alloc1 w (.cells #[.slice A doms.length c, .slice B tabs.length d] 48)
  have C0 := Lib.hid (Cs.new w [.slice A doms.length c, .slice B tabs.length d] 48)
  have hz0 : (w.alloc (.cells #[.slice A doms.length c, .slice B tabs.length d] 48)).heap.size = w.heap.size + 1 := by simp
  change Hid (Cs (w.alloc (.cells #[.slice A doms.length c, .slice B tabs.length d] 48)) _ _) at C0
  generalize hw0 : w.alloc (.cells #[.slice A doms.length c, .slice B tabs.length d] 48) = w0 at *
  have hb1 := below_alloc1 w0 (.map #[] 0)
  have M1 := Lib.hid (MapS.made Try.prog 9 w0)
  have hmk : (Instr.makeMap 61 none).run Try.prog w0 = .ok (.map (some (w.heap.size + 1))) (w0.alloc (.map #[] 0)) := by rw [← hz0]; exact b_make w0
  have hz1 : (w0.alloc (.map #[] 0)).heap.size = w.heap.size + 2 := by simp; omega
  rw [hz0] at M1
  generalize hw1 : w0.alloc (.map #[] 0) = w1 at *
  have hb2 := below_alloc1 w1 (.cells #[.map (some (w.heap.size + 1))] 61)
  have C2 := Lib.hid (Cs.new w1 [.map (some (w.heap.size + 1))] 61)
  change Hid (Cs (w1.alloc (.cells #[.map (some (w.heap.size + 1))] 61)) _ _) at C2
  rw [hz1] at C2
  have hb02 := bx hb0 (bx hb1 hb2)
  have C02 := Lib.hid (C0.out.next (bx hb1 hb2))
  have W2 : Hid (WaitAt (w1.alloc (.cells #[.map (some (w.heap.size + 1))] 61)) (w.heap.size + 2) (w.heap.size + 1) 0 0 []) := ⟨C2.out.at 0 rfl, C2.out.1, (M1.out.below hb2).congr boolF_nil⟩
  generalize hw2 : w1.alloc (.cells #[.map (some (w.heap.size + 1))] 61) = w2 at *
  have k1 := C02.out.at 1 rfl
  go_enter Try.func20, Try.ntmps20
  go_wp2
  go_loopw [13] (fun i wr => ∃ k : Nat, k ≤ tabs.length ∧ i = .int .i64 k ∧ Hid (WaitAt wr (w.heap.size + 2) (w.heap.size + 1) k k (namesT (tabs.take k))) ∧ Hid (Cs wr w.heap.size [.slice A doms.length c, .slice B tabs.length d]) ∧ Below w.heap.size w wr) (fun i _ => tabs.length - (intOf i).toNat)
  case atStart => exact ⟨0, Nat.zero_le _, rfl, W2, C02, hb02⟩
  case round =>
    clear hmk hw0 hw1 hw2 hb0 hb1 hb2 hb02 k1
    obtain ⟨k, hk, rfl, HW, CB, hb⟩ := hrel
    by_cases hlt : k < tabs.length
    · obtain ⟨b, o, nm, pol, comp, ins, rules, vi, vr, rfl, _, hx, c1, c2, c3, c4, c5, hi, hr⟩ := (H.out.onOld hb).tab_at hlt
      obtain ⟨Ai, ci, rfl, -, -⟩ := hi.form
      obtain ⟨Ar, cr, rfl, -, -⟩ := hr.form
      clear hi hr
      have HNM := Lib.hid (small_name (HSM.out _ (List.mem_of_getElem? hx.out)))
      have hbz := below_alloc1 wr (.cells #[.string nm, .int .i64 pol, .bool comp, .slice Ai ins.length ci, .slice Ar rules.length cr] 25)
      have hbl2 := bx hb hbz
      have CN := Lib.hid (Cs.new wr [.string nm, .int .i64 pol, .bool comp, .slice Ai ins.length ci, .slice Ar rules.length cr] 25)
      change Hid (Cs (wr.alloc (.cells #[.string nm, .int .i64 pol, .bool comp, .slice Ai ins.length ci, .slice Ar rules.length cr] 25)) _ _) at CN
      have HWa := Lib.hid (HW.out.next hbz)
      have CBa := Lib.hid (CB.out.next hbz)
      have q0 := CN.out.at 0 rfl
      have cM := HWa.out.cell
      have hkm : k < maxLen := by unfold maxLen; omega
      generalize hwa : wr.alloc (.cells #[.string nm, .int .i64 pol, .bool comp, .slice Ai ins.length ci, .slice Ar rules.length cr] 25) = wa at *
      go_wp2_with (at_mapUpdate; refine wpList_putS _ rfl _ _ _ 61 rfl 9 4 Try.underlying9 b_under (w.heap.size + 1) k k _ rfl HWa.out.map nm rfl HNM.out hkm (.bool true) rfl ?_; intro w4 hm4 hg4)
      have HW4 := Lib.hid (HWa.out.put (by omega) (names_new HN.out hx.out) hm4 hg4)
      rw [← names_take hx.out] at HW4
      exact ⟨⟨k + 1, by omega, by go_num, HW4, CBa.out.grown hg4 (by omega), hbl2.grown hg4 hbl2.size (fun _ hj => by injection hj with hj; omega)⟩, by simp [intOf]; omega⟩
    · have ek : k = tabs.length := by omega
      subst ek
      rw [List.take_length] at HW
      clear hlt hk
      have hM3 := HW.out.lt
      go_wp2
      go_loopw [7] (fun u wr => ∃ wait done : List ByteArray, Hid (WaitAt wr (w.heap.size + 2) (w.heap.size + 1) tabs.length wait.length wait) ∧ Hid wait.Nodup ∧ Hid (∀ s, s ∈ wait → s ∈ namesT tabs) ∧ Hid (done.length + wait.length = tabs.length) ∧ Hid (R = (orderF tabs wait.length wait).map (done ++ ·)) ∧ Hid (OwnG Enc.str wr (w.heap.size + 3) (w.heap.size + 3) 9 u done) ∧ Hid (Cs wr w.heap.size [.slice A doms.length c, .slice B tabs.length d]) ∧ Below w.heap.size w wr) (fun u _ => tabs.length - lenV u)
      case atStart =>
        refine ⟨namesT tabs, [], ?_, HN, fun s h => h, ?_, ?_, OwnG.nil, CB, hb⟩
        · have e : (namesT tabs).length = tabs.length := by simp [namesT]
          show WaitAt _ _ _ _ _ _
          rw [e]; exact HW.out
        · show ([] : List ByteArray).length + (namesT tabs).length = _
          simp [namesT]
        · show R = _
          rw [HE.out]
          have e : (namesT tabs).length = tabs.length := by simp [namesT]
          rw [e]
          cases orderF tabs tabs.length (namesT tabs) <;> rfl
      case round =>
        clear HW CB hb hM3
        rename World => wr
        obtain ⟨wait, done, HW, HND, HSUB, HSUM, HO, HOW, CB, hb⟩ := hrel
        obtain ⟨Au, cu, rfl, hu1, hu2, -⟩ := HOW.out.form
        have cM := HW.out.cell
        have hlen' := wait_len HW.out.map
        have kB1 := CB.out.at 1 rfl
        have hM3 := HW.out.lt
        by_cases hw0 : wait.length = 0
        · have hwe : wait = [] := List.length_eq_zero_iff.1 hw0
          subst hwe
          have hlen2 : ∀ ty : TypeId, (Builtin.len_ #[61] ty #[.map (some (w.heap.size + 1))]).run Try.prog wr = .ok (.int .i64 0) wr := hlen'
          clear hlen'
          have HR : Hid (R = some done) := by show _ = _; rw [HO.out]; simp [orderF]
          go_wp2
          go_ret2
          rw [HR.out]
          exact ⟨_, rfl, (HOW.out.sl (Nat.le_refl _)).more (fun k hk => ⟨by have := hk.1; omega, hk.2⟩), hb⟩
        · have hgt : (0 : Int) < wait.length := by omega
          have HWE := Lib.hid (HSM.out)
          have HTB := Lib.hid (H.out.onOld hb)
          have HSU := HSUM.out
          go_wp2_with fail
          refine (index_order wait tabs _ _ (w.heap.size + 2) (w.heap.size + 1) _ _ HW.out HTB.out HSM.out).mono ?_
          rintro e w1 ⟨hcase, hb1⟩
          have hb01 := bx hb hb1
          have HW1 := Lib.hid (HW.out.next hb1)
          have CB1 := Lib.hid (CB.out.next hb1)
          have HO1 := Lib.hid (HOW.out.next hb1)
          obtain ⟨m, hm⟩ : ∃ m, wait.length = m + 1 := ⟨wait.length - 1, by omega⟩
          have HO2 : Hid (R = (match tabs.find? (readyT wait) with | none => none | some t => (orderF tabs m (dropN wait t.name)).map (t.name :: ·)).map (done ++ ·)) := by show _ = _; rw [HO.out, hm]; rfl
          have HM := Lib.hid hm
          clear HW CB HOW HO hm cM hlen' kB1
          rcases hcase with ⟨rfl, HF⟩ | ⟨k, t, rfl, hkl, HX, HF⟩
          · have HR : Hid (R = none) := by show _ = _; rw [HO2.out, HF.out]; rfl
            go_wp2
            go_ret2
            rw [HR.out]
            exact ⟨_, rfl, Sl.nil, hb01⟩
          · obtain ⟨b2, o2, nm, pol, comp, ins, rules, vi, vr, rfl, hS2, hx2, c1, -⟩ := H.out.tab_at hkl
            have het := HX.out.symm.trans hx2.out
            injection het with het
            subst het
            have hS2' : b2 < w.heap.size := hS2
            have hSM := HSM.out _ (List.mem_of_getElem? hx2.out)
            have HNM := Lib.hid (small_name hSM)
            have HIN := Lib.hid ((ready_iff.1 (List.find?_some HF.out)).1)
            have HO3 : Hid (R = (orderF tabs m (dropN wait nm)).map (fun x => done ++ nm :: x)) := by show _ = _; rw [HO2.out, HF.out]; simp only [Option.map_map]; rfl
            have HDL := Lib.hid (dropN_length HND.out HIN.out)
            have hk0 : (0 : Int) ≤ k := by omega
            have hk1 : (k : Int) < tabs.length := by omega
            have c1a := (hb01.cell (p := ⟨b2, o2 + k * 5, none⟩) hS2').trans c1
            have kB := CB1.out.at 1 rfl
            have hbz := below_alloc1 w1 (.cells #[.string nm] 9)
            have HOa := Lib.hid (HO1.out.alloc (.cells #[.string nm] 9))
            have HWa := Lib.hid (HW1.out.next hbz)
            have CBa := Lib.hid (CB1.out.next hbz)
            have hba := bx hb01 hbz
            have hba3 : w.heap.size + 3 ≤ (w1.alloc (.cells #[.string nm] 9)).heap.size := HWa.out.lt
            have hbd : (done.length + 1) * 16 ≤ 140737488355328 := by omega
            have hbm : done.length + 1 ≤ maxLen := by unfold maxLen; omega
            clear HX HSM hSM HO2 HF HWE HTB
            go_wp2_with (at_builtin; refine wpList_append_one (E := Enc.str) _ rfl _ _ 22 rfl (w.heap.size + 3) (w.heap.size + 3) 9 16 (.string ⟨#[]⟩) str_under str_info rfl (by decide) _ _ rfl HOa.out ⟨w1.heap.size, 0, none⟩ nm [.string nm] rfl rfl (cell_one_newS _ _ _) hbd hbm hba3 ?_; intro v5 w5 hown5 hgrow5 hmv5)
            have hlt5 := HOa.out.lt
            have HW5 := Lib.hid (HWa.out.kept hgrow5 (fun e => by have := (hlt5 _ e.symm).1; omega) (fun e => by have := (hlt5 _ e.symm).1; omega))
            have CB5 := Lib.hid (CBa.out.keep (hgrow5.block _ CBa.out.1 (fun e => by have := (hlt5 _ e.symm).1; omega)) hgrow5.size)
            have hb5 := hba.grown hgrow5 hba.size (fun _ hj => by have := (hlt5 _ hj).1; omega)
            have c5 := (hb5.cell (p := ⟨b2, o2 + k * 5, none⟩) hS2').trans c1
            have kB5 := CB5.out.at 1 rfl
            have cM5 := HW5.out.cell
            clear c1a kB hbz HOa HWa CBa hlt5
            go_region_law (refine step_delS rfl (.tmp 39) (.tmp 45) 61 9 rfl 4 Try.underlying9 b_under (w.heap.size + 1) tabs.length wait.length (boolF wait) (by simp [Act.eval]) HW5.out.map nm (by simp [Act.eval]) HNM.out ?_; intro w6 hm6 hg6)
            all_goals go_wp2
            all_goals
              have hd5 : Below w5.heap.size w5 w5.drew := (Below.refl _ _).drew
              have HW6 := Lib.hid ((HW5.out.next hd5).del (by omega) HIN.out hm6 hg6)
              have hb5d := bx hb5 hd5
              have hb6 : Below w.heap.size w w6 := hb5d.grown hg6 hb5d.size (fun _ hj => by injection hj with hj; omega)
              have hdl := HDL.out
              obtain ⟨A5, c5', e5, -, -, -⟩ := hown5.form
              have hown6 : OwnG Enc.str w6 (w.heap.size + 3) (w.heap.size + 3) 9 v5 (done ++ [nm]) := (hown5.next hd5).aside hg6 (by omega) (by omega)
              refine ⟨⟨dropN wait nm, done ++ [nm], ?_, dropN_nodup _ HND.out, fun s hs => HSUB.out s (mem_dropN.1 hs).1, ?_, ?_, hown6, (CB5.out.next hd5).grown hg6 (by omega), hb6⟩, ?_⟩
              · show WaitAt _ _ _ _ _ _
                rw [show (dropN wait nm).length = wait.length - 1 by omega]
                exact HW6.out
              · show (done ++ [nm]).length + _ = _
                rw [List.length_append]
                show done.length + 1 + _ = _
                omega
              · show R = _
                rw [HO3.out, show (dropN wait nm).length = m by have := HM.out; omega]
                cases orderF tabs m (dropN wait nm) <;> simp
              · subst e5
                show tabs.length - (done ++ [nm]).length < tabs.length - done.length
                rw [List.length_append]
                show tabs.length - (done.length + 1) < _
                omega

end Go.Proofs.Ythnfkghgaagaiab
