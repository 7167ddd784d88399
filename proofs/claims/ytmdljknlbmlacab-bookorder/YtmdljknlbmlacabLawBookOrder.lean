/- ratebookkeep.BookOrder returns true. Conditions: the book reads as lists in old memory; names and lists fit into 2^47 bytes. -/
import Derived.Test.YtmdljknlbmlacabKeepBooks
namespace Go.Proofs.Ytmdljknlbmlacab
open Go.RowKit Go.Shelf

theorem i_under : Try.prog.underlying 64 = some (.map 9 3) := by kernel_rfl
theorem i_zero (w : World) : (zeroValue 3).run Try.prog w = .ok (.int .i64 0) w := by kernel_rfl
theorem i_make (w : World) : (Instr.makeMap 64 none).run Try.prog w = .ok (.map (some w.heap.size)) (w.alloc (.map #[] 0)) := rfl
theorem place_look {w : World} {b n c : Nat} {l : List ByteArray} (h : MapS Try.prog 9 w b n c (placeV l)) (s : ByteArray) (hs : s.size ≤ maxLen) :
    (Instr.lookup 64 (.map (some b)) (.string s) false).run Try.prog w = .ok (.int .i64 ((placeF l s).getD 0)) w := by
  rw [h.look Try.underlying9 i_under (i_zero w) hs, placeV_get]

set_option maxRecDepth 100000 in
set_option maxHeartbeats 2000000 in
theorem law_BookOrder (b : BookD) (v : Value) (w : World) (h : BookAt w (Old w) b v) (hs : smallB b) (hlen : b.tabs.length * 16 ≤ 140737488355328) :
    Calls Try.prog 6 #[v] w fun e w' => e = .returned (.bool true) ∧ Below w.heap.size w w' := by
  have HS := Lib.hid hs
  have HB := Lib.hid h
  clear hs
  obtain ⟨vd, vt, rfl, h1, h2⟩ := h
  have H := Lib.hid h2
  obtain ⟨A, c, rfl, hc1, hc2, -⟩ := h1
  obtain ⟨B, d, rfl, hd1, hd2, -⟩ := h2
  unfold maxLen at hc2 hd2
  have hb0 := below_alloc1 w (.cells #[.slice A b.doms.length c, .slice B b.tabs.length d] 48)
  have C0 := Lib.hid (Cs.new w [.slice A b.doms.length c, .slice B b.tabs.length d] 48)
  have hz0 : (w.alloc (.cells #[.slice A b.doms.length c, .slice B b.tabs.length d] 48)).heap.size = w.heap.size + 1 := by simp
  change Hid (Cs (w.alloc (.cells #[.slice A b.doms.length c, .slice B b.tabs.length d] 48)) _ _) at C0
  generalize hw0 : w.alloc (.cells #[.slice A b.doms.length c, .slice B b.tabs.length d] 48) = w0 at *
  have hb1 := below_alloc1 w0 (.map #[] 0)
  have M1 := Lib.hid ((MapS.made Try.prog 9 w0).congr boolF_nil)
  have hmk : (Instr.makeMap 61 none).run Try.prog w0 = .ok (.map (some (w.heap.size + 1))) (w0.alloc (.map #[] 0)) := by rw [← hz0]; exact b_make w0
  rw [hz0] at M1
  have C1 := Lib.hid (C0.out.next hb1)
  have hb01 := bx hb0 hb1
  generalize hw1 : w0.alloc (.map #[] 0) = w1 at *
  have k1 := C1.out.at 1 rfl
  go_enter Try.func6, Try.ntmps6
  go_wp2
  go_loopw [21] (fun i wr => ∃ k cc : Nat, k ≤ b.tabs.length ∧ i = .int .i64 k ∧ Hid (MapS Try.prog 9 wr (w.heap.size + 1) k cc (boolF (namesT (b.tabs.take k)))) ∧ Hid (namesT (b.tabs.take k)).Nodup ∧ Hid (Cs wr w.heap.size [.slice A b.doms.length c, .slice B b.tabs.length d]) ∧ Below w.heap.size w wr) (fun i _ => b.tabs.length - (intOf i).toNat)
  case atStart => exact ⟨0, 0, Nat.zero_le _, rfl, M1, List.nodup_nil, C1, hb01⟩
  case round =>
    clear hmk hw0 hw1 hb0 hb1 hb01 k1 M1 C0 C1
    obtain ⟨k, cc, hk, rfl, HM, HN, CB, hb⟩ := hrel
    by_cases hlt : k < b.tabs.length
    · obtain ⟨bb, o, nm, pol, comp, ins, rules, vi, vr, rfl, _, hx, c1, c2, c3, c4, c5, hi, hr⟩ := (H.out.onOld hb).tab_at hlt
      have HT0 : Hid (TabAt wr (Old wr) ⟨nm, pol, comp, ins, rules⟩ (.agg #[.string nm, .int .i64 pol, .bool comp, vi, vr])) := ⟨_, _, rfl, hi, hr⟩
      obtain ⟨Ai, ci, rfl, -, -⟩ := hi.form
      obtain ⟨Ar, cr, rfl, -, -⟩ := hr.form
      clear hi hr
      have HSM := Lib.hid (HS.out.2 _ (List.mem_of_getElem? hx.out))
      have HNM : Hid (nm.size ≤ maxLen) := small_name HSM.out
      have hbz := below_alloc1 wr (.cells #[.string nm, .int .i64 pol, .bool comp, .slice Ai ins.length ci, .slice Ar rules.length cr] 25)
      have hb2 := bx hb hbz
      have CN := Lib.hid (Cs.new wr [.string nm, .int .i64 pol, .bool comp, .slice Ai ins.length ci, .slice Ar rules.length cr] 25)
      change Hid (Cs (wr.alloc (.cells #[.string nm, .int .i64 pol, .bool comp, .slice Ai ins.length ci, .slice Ar rules.length cr] 25)) _ _) at CN
      have CBa := Lib.hid (CB.out.next hbz)
      have HMa := Lib.hid (HM.out.below hbz)
      have HTa := Lib.hid (HT0.out.onOld hbz)
      have q0 := CN.out.at 0 rfl
      have q1 := CN.out.at 1 rfl
      have q2 := CN.out.at 2 rfl
      have q3 := CN.out.at 3 rfl
      have q4 := CN.out.at 4 rfl
      generalize hwa : wr.alloc (.cells #[.string nm, .int .i64 pol, .bool comp, .slice Ai ins.length ci, .slice Ar rules.length cr] 25) = wa at *
      go_wp2_with fail
      clear hwa
      refine (table_Good _ _ _ HTa.out HSM.out).mono ?_
      rintro e w3 ⟨rfl, hb3⟩
      have hb03 := bx hb2 hb3
      have CN3 := Lib.hid (CN.out.next hb3)
      have CB3 := Lib.hid (CBa.out.next hb3)
      have HM3 := Lib.hid (HMa.out.below hb3)
      clear q0 q1 q2 q3 q4
      have q0 := CN3.out.at 0 rfl
      cases hg : goodT ⟨nm, pol, comp, ins, rules⟩
      · clear hg
        go_wp2_with fail
        refine (keep_books _).mono ?_
        rintro e w9 ⟨rfl, hb9⟩
        go_wp2
        go_ret
        exact ⟨rfl, bx hb03 hb9⟩
      · clear hg
        have hl := wait_look HM3.out nm HNM.out
        cases hq : hasN (namesT (b.tabs.take k)) nm
        · rw [hq] at hl
          have HQ : Hid (nm ∉ namesT (b.tabs.take k)) := hasN_false.1 hq
          clear hq
          have hkm : k < maxLen := by unfold maxLen; omega
          go_wp2_with (at_mapUpdate; refine wpList_putS _ rfl _ _ _ 61 rfl 9 4 Try.underlying9 b_under (w.heap.size + 1) k cc _ rfl HM3.out nm rfl HNM.out hkm (.bool true) rfl ?_; intro w4 hm4 hg4)
          have hm5 := hm4.congr (fun x => boolF_put (namesT (b.tabs.take k)) nm x)
          rw [show namesT (b.tabs.take k) ++ [nm] = namesT (b.tabs.take (k + 1)) from (names_take hx.out).symm] at hm5
          refine ⟨⟨k + 1, _, by omega, by go_num, hm5, ?_, CB3.out.grown hg4 (by omega), hb03.grown hg4 hb03.size (fun _ hj => by injection hj with hj; omega)⟩, by simp [intOf]; omega⟩
          show List.Nodup _
          rw [names_take hx.out, List.nodup_append]
          exact ⟨HN.out, by simp, fun x hx1 y hy e => by rw [List.mem_singleton] at hy; subst hy; subst e; exact HQ.out hx1⟩
        · rw [hq] at hl
          clear hq
          go_wp2_with fail
          refine (keep_books _).mono ?_
          rintro e w9 ⟨rfl, hb9⟩
          go_wp2
          go_ret
          exact ⟨rfl, bx hb03 hb9⟩
    · have e : b.tabs.take k = b.tabs := List.take_of_length_le (by omega)
      rw [e] at HN
      clear e HM
      have HBa := Lib.hid (HB.out.onOld hb)
      have k0 := CB.out.at 0 rfl
      have k1 := CB.out.at 1 rfl
      go_wp2_with fail
      refine (book_Order b _ _ HBa.out HS.out HN.out hlen).mono ?_
      rintro e w3 ⟨v3, rfl, hn3, hb3⟩
      have hb03 := bx hb hb3
      have CB3 := Lib.hid (CB.out.next hb3)
      clear k0 k1
      cases ho : orderO b.tabs with
      | none =>
        rw [ho] at hn3
        simp only [Option.getD_none, Option.isSome_none] at hn3 ⊢
        obtain ⟨A3, c3', rfl, -, -⟩ := hn3.form
        clear ho hn3
        simp only [List.length_nil]
        go_wp2_with fail
        refine (keep_books _).mono ?_
        rintro e w9 ⟨rfl, hb9⟩
        go_wp2
        go_ret
        exact ⟨rfl, bx hb03 hb9⟩
      | some ol =>
        rw [ho] at hn3
        simp only [Option.getD_some, Option.isSome_some] at hn3 ⊢
        have HO := Lib.hid ho
        have HOL := Lib.hid (order_length HN.out ho)
        have hol : ol.length = b.tabs.length := HOL.out
        have hol1 : ol.length * 16 ≤ 140737488355328 := by omega
        have HON := Lib.hid (order_nodup HN.out ho)
        have HOS : Hid (∀ x, x ∈ ol → x.size ≤ maxLen) := fun x hx => by
          obtain ⟨t, ht, e⟩ := List.mem_map.1 (((orderO_facts HN.out ho).mem x).1 hx)
          subst e
          exact small_name (HS.out.2 t ht)
        clear ho hol
        have HN3 := Lib.hid (hn3.more (fun _ h => h.2) : Sl Enc.str w3 (Old w3) ol v3)
        obtain ⟨A3, c3', rfl, hA3, hA3'⟩ := hn3.form
        unfold maxLen at hA3'
        clear hn3
        go_wp2_with fail
        refine (keep_books _).mono ?_
        rintro e w4 ⟨rfl, hb4⟩
        have hb04 := bx hb03 hb4
        have CB4 := Lib.hid (CB3.out.next hb4)
        have HN4 := Lib.hid (HN3.out.onOld hb4)
        have hbm := below_alloc1 w4 (.map #[] 0)
        have M4 := Lib.hid (MapS.made Try.prog 9 w4)
        have hmk := i_make w4
        generalize hwm : w4.alloc (.map #[] 0) = wm at *
        go_wp2
        go_loopw [59] (fun i wr => ∃ k cc : Nat, k ≤ ol.length ∧ i = .int .i64 k ∧ Hid (MapS Try.prog 9 wr w4.heap.size k cc (placeV (ol.take k))) ∧ Below w4.heap.size w4 wr) (fun i _ => ol.length - (intOf i).toNat)
        case atStart => exact ⟨0, 0, Nat.zero_le _, rfl, M4.out.congr (fun _ => rfl), hbm⟩
        case round =>
          clear hmk hwm hbm M4
          rename World => wr
          obtain ⟨k, cc, hk, rfl, HM, hbl⟩ := hrel
          have hb0r := bx hb04 hbl
          by_cases hlt : k < ol.length
          · obtain ⟨b5, o5, x, rfl, hS5, hx, cx⟩ := (HN4.out.onOld hbl).str_at hlt
            have HXS := Lib.hid (HOS.out x (List.mem_of_getElem? hx.out))
            have HNI : Hid (x ∉ ol.take k) := by
              intro hm
              have hnd := HON.out
              have e : ol = ol.take k ++ x :: ol.drop (k + 1) := by rw [← drop_at hx.out, List.take_append_drop]
              rw [e, List.nodup_append] at hnd
              exact hnd.2.2 _ hm x (by simp) rfl
            have hkm : k < maxLen := by unfold maxLen; omega
            have hw1 : IntKind.i64.wrap ((k : Int) + 1) = (k : Int) + 1 := IntWalk.i64_in _ (by omega)
            go_wp2_with (at_mapUpdate; refine wpList_putS _ rfl _ _ _ 64 rfl 9 3 Try.underlying9 i_under w4.heap.size k cc _ rfl HM.out x rfl HXS.out hkm (.int .i64 ((k : Int) + 1)) rfl ?_; intro w6 hm6 hg6)
            have hm7 : MapS Try.prog 9 w6 w4.heap.size (k + 1) (if (placeV (ol.take k) x).isSome then cc else cc + 1) (placeV (ol.take (k + 1))) := by
              rw [take_at hx.out]
              refine hm6.congr fun y => ?_
              have e := placeV_put (x := y) HNI.out
              rw [List.length_take, Nat.min_eq_left (by omega)] at e
              exact e
            exact ⟨⟨k + 1, _, by omega, by go_num, hm7, hbl.grown hg6 hbl.size (fun _ hj => by injection hj with hj; omega)⟩, by simp [intOf]; omega⟩
          · have ek : k = ol.length := by omega
            subst ek
            rw [List.take_length] at HM
            clear hlt hk
            have CBr := Lib.hid (CB4.out.next hbl)
            have k1 := CBr.out.at 1 rfl
            go_wp2
            go_loopw [72] (fun i w7 => ∃ k : Nat, k ≤ b.tabs.length ∧ i = .int .i64 k ∧ Below wr.heap.size wr w7) (fun i _ => b.tabs.length - (intOf i).toNat)
            case atStart => exact ⟨0, Nat.zero_le _, rfl, Below.refl _ _⟩
            case round =>
              clear k1
              rename World => w7
              obtain ⟨k, hk, rfl, hb7⟩ := hrel
              have hb07 := bx hb0r hb7
              by_cases hlt : k < b.tabs.length
              · obtain ⟨bb, o, nm, pol, comp, ins, rules, vi, vr, rfl, _, hx, c1, c2, c3, c4, c5, hi, hr⟩ := (H.out.onOld hb07).tab_at hlt
                have HI := Lib.hid hi
                obtain ⟨Ai, ci, rfl, hi1, hi2⟩ := hi.form
                obtain ⟨Ar, cr, rfl, -, -⟩ := hr.form
                unfold maxLen at hi2
                clear hi hr
                have HSM := Lib.hid (HS.out.2 _ (List.mem_of_getElem? hx.out))
                have HNM : Hid (nm.size ≤ maxLen) := small_name HSM.out
                have HSI : Hid (∀ s, s ∈ ins → s.size ≤ maxLen) := small_ins HSM.out
                have hbz := below_alloc1 w7 (.cells #[.string nm, .int .i64 pol, .bool comp, .slice Ai ins.length ci, .slice Ar rules.length cr] 25)
                have CN := Lib.hid (Cs.new w7 [.string nm, .int .i64 pol, .bool comp, .slice Ai ins.length ci, .slice Ar rules.length cr] 25)
                change Hid (Cs (w7.alloc (.cells #[.string nm, .int .i64 pol, .bool comp, .slice Ai ins.length ci, .slice Ar rules.length cr] 25)) _ _) at CN
                have hb7z := bx hb7 hbz
                have HIz := Lib.hid (HI.out.onOld hbz)
                have q3 := CN.out.at 3 rfl
                generalize hwz : w7.alloc (.cells #[.string nm, .int .i64 pol, .bool comp, .slice Ai ins.length ci, .slice Ar rules.length cr] 25) = wz at *
                go_wp2
                go_loopw [79] (fun i w8 => ∃ j : Nat, j ≤ ins.length ∧ i = .int .i64 j ∧ Below wz.heap.size wz w8) (fun i _ => ins.length - (intOf i).toNat)
                case atStart => exact ⟨0, Nat.zero_le _, rfl, Below.refl _ _⟩
                case round =>
                  clear hwz q3 c1 c2 c3 c4 c5
                  rename World => w8
                  obtain ⟨j, hj, rfl, hb8⟩ := hrel
                  have hb7r := bx hb7z hb8
                  have hb08 := bx hb0r hb7r
                  by_cases hjlt : j < ins.length
                  · obtain ⟨bs, os, s, rfl, _, hxs, cs⟩ := (HIz.out.onOld hb8).str_at hjlt
                    have HB8 := Lib.hid (HB.out.onOld hb08)
                    have CB8 := Lib.hid (CBr.out.next hb7r)
                    have k0 := CB8.out.at 0 rfl
                    have k1 := CB8.out.at 1 rfl
                    have HSS := Lib.hid (HSI.out s (List.mem_of_getElem? hxs.out))
                    go_wp2_with fail
                    refine (book_FindTable b s _ _ HB8.out).mono ?_
                    rintro e w9 ⟨vt9, rfl, ht9, hb9⟩
                    obtain ⟨vi9, vr9, rfl, hi9, hr9⟩ := ht9
                    obtain ⟨Ai9, ci9, rfl, -, -⟩ := hi9.form
                    obtain ⟨Ar9, cr9, rfl, -, -⟩ := hr9.form
                    clear hi9 hr9 k0 k1 cs
                    generalize hnt : (findT b.tabs s).getD zeroT = nt at *
                    clear hnt
                    have hbt := below_alloc1 w9 (.cells #[.string nt.name, .int .i64 nt.pol, .bool nt.comp, .slice Ai9 nt.ins.length ci9, .slice Ar9 nt.rules.length cr9] 25)
                    have hb9t := bx hb8 (bx hb9 hbt)
                    have CNt := Lib.hid (CN.out.next hb9t)
                    have p0 := CNt.out.at 0 rfl
                    generalize hwt : w9.alloc (.cells #[.string nt.name, .int .i64 nt.pol, .bool nt.comp, .slice Ai9 nt.ins.length ci9, .slice Ar9 nt.rules.length cr9] 25) = wt at *
                    cases hf : findT b.tabs s with
                    | none =>
                      clear hf
                      simp only [Option.isSome_none]
                      go_wp2
                      exact ⟨⟨j + 1, by omega, by go_num, hb9t⟩, by simp [intOf]; omega⟩
                    | some u =>
                      have hmem : s ∈ namesT b.tabs := findT_isSome.1 (by rw [hf]; rfl)
                      obtain ⟨pi, pj, hpi, hpj, hlt2⟩ := order_before HN.out HO.out (List.mem_of_getElem? hx.out) (List.mem_of_getElem? hxs.out) hmem
                      have HMt := HM.out.below (bx hb7z hb9t)
                      have hl1 := place_look HMt s HSS.out
                      have hl2 := place_look HMt nm HNM.out
                      rw [placeF_at HON.out hpj, Option.getD_some] at hl1
                      rw [placeF_at HON.out hpi, Option.getD_some] at hl2
                      have g1 : (((pj : Int) + 1) == 0) = false := beq_eq_false_iff_ne.2 (by omega)
                      have g2 : decide (((pi : Int) + 1) ≤ ((pj : Int) + 1)) = false := decide_eq_false (by omega)
                      have g3 : decide ((pi : Int) ≤ (pj : Int)) = false := decide_eq_false (by omega)
                      have g4 : decide (pi ≤ pj) = false := decide_eq_false (by omega)
                      clear hf hmem HMt hpi hpj
                      simp only [Option.isSome_some]
                      go_wp2
                      exact ⟨⟨j + 1, by omega, by go_num, hb9t⟩, by simp [intOf]; omega⟩
                  · go_wp2
                    exact ⟨⟨k + 1, by omega, by go_num, hb7r⟩, by simp [intOf]; omega⟩
              · have CB7 := Lib.hid (CBr.out.next hb7)
                have k1 := CB7.out.at 1 rfl
                have hge : ((ol.length : Int) == (b.tabs.length : Int)) = true := by rw [beq_iff_eq]; have := HOL.out; omega
                go_wp2
                go_ret
                exact ⟨rfl, hb07⟩

end Go.Proofs.Ytmdljknlbmlacab
