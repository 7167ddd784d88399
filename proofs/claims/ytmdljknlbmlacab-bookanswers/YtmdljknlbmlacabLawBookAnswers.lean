/- ratebookkeep.BookAnswers returns true. Conditions: the book and the numbers read as lists in old memory; names and lists fit into 2^47 bytes. -/
import Derived.Test.YtmdljknlbmlacabKeepBooks
import Derived.Test.YtmdljknlbmlacabKeepClip
namespace Go.Proofs.Ytmdljknlbmlacab
open Go.RowKit

theorem domL_snoc {d : DomD} {n : Int} : ∀ (ds : List DomD) (l : List Int) (K : ByteArray → Option AnsD), ds.length = l.length → domL (ds ++ [d]) (l ++ [n]) K = putA (domL ds l K) d.1 (noS, true, n)
  | [], [], K, _ => rfl
  | a :: ds, m :: l, K, h => by simp only [List.cons_append, domL]; exact domL_snoc ds l _ (by simpa using h)
  | [], _ :: _, _, h => by simp at h
  | _ :: _, [], _, h => by simp at h
theorem putsA_snoc {a : AnsD} : ∀ (l : List AnsD) (K : ByteArray → Option AnsD), putsA (l ++ [a]) K = putA (putsA l K) a.1 a
  | [], K => rfl
  | x :: l, K => by simp only [List.cons_append, putsA]; exact putsA_snoc l _
theorem domL_more {ds : List DomD} {l : List Int} (hl : ds.length = l.length) {k : Nat} {d : DomD} {n : Int} (h : ds[k]? = some d) (h' : l[k]? = some n) (K : ByteArray → Option AnsD) :
    domL (ds.take (k + 1)) (l.take (k + 1)) K = putA (domL (ds.take k) (l.take k) K) d.1 (noS, true, n) := by
  have e : (ds.take k).length = (l.take k).length := by rw [List.length_take, List.length_take, hl]
  rw [take_at h, take_at h']
  exact domL_snoc _ _ _ e

set_option maxRecDepth 100000 in
set_option maxHeartbeats 2000000 in
theorem law_BookAnswers (b : BookD) (l : List Int) (v vl : Value) (w : World) (h : BookAt w (Old w) b v) (hl : Sl Enc.int w (Old w) l vl) (hs : smallB b) :
    Calls Try.prog 5 #[v, vl] w fun e w' => e = .returned (.bool true) ∧ Below w.heap.size w w' := by
  have HS := Lib.hid hs
  have HB := Lib.hid h
  have HL := Lib.hid hl
  clear hs
  obtain ⟨vd, vt, rfl, h1, h2⟩ := h
  have HD := Lib.hid h1
  have HTS := Lib.hid h2
  obtain ⟨A, c, rfl, hc1, hc2, -⟩ := h1
  obtain ⟨B, d, rfl, hd1, hd2, -⟩ := h2
  obtain ⟨L, e, rfl, he1, he2, -⟩ := hl
  unfold maxLen at hc2 hd2 he2
  have hb0 := below_alloc1 w (.cells #[.slice A b.doms.length c, .slice B b.tabs.length d] 48)
  have C0 := Lib.hid (Cs.new w [.slice A b.doms.length c, .slice B b.tabs.length d] 48)
  change Hid (Cs (w.alloc (.cells #[.slice A b.doms.length c, .slice B b.tabs.length d] 48)) _ _) at C0
  generalize hw0 : w.alloc (.cells #[.slice A b.doms.length c, .slice B b.tabs.length d] 48) = w0 at *
  have k0 := C0.out.at 0 rfl
  have k1 := C0.out.at 1 rfl
  have HB0 := Lib.hid (HB.out.onOld hb0)
  go_enter Try.func5, Try.ntmps5
  go_wp2_with fail
  clear hw0
  refine (book_Check b _ _ HB0.out HS.out).mono ?_
  rintro ee w1 ⟨v1, rfl, hn1, hb1⟩
  obtain ⟨A1, c1, rfl, -, -⟩ := hn1.form
  clear hn1 k0 k1
  have hb01 := bx hb0 hb1
  have C1 := Lib.hid (C0.out.next hb1)
  by_cases hcd : ¬ (checkV b).2.2 = 0
  · generalize (checkV b).2.2 = cd at *
    have hcd' : (cd == 0) = false := by simpa using hcd
    go_wp2_with fail
    refine (keep_books _).mono ?_
    rintro e w9 ⟨rfl, hb9⟩
    go_wp2
    go_ret
    exact ⟨rfl, bx hb01 hb9⟩
  have hcd := Decidable.not_not.1 hcd
  have HC0 := Lib.hid hcd
  rw [hcd]
  clear hcd
  generalize (checkV b).1 = cs1
  generalize (checkV b).2.1.length = cl1
  have HOK := Lib.hid (check_ok HC0.out)
  have hd4 : b.doms.length ≤ 4 := HOK.out.1
  have ht4 : b.tabs.length ≤ 4 := HOK.out.2.1
  have HCL : Hid ((clipD b.doms l).length = b.doms.length) := clipD_length
  have HCI : Hid (inDoms b.doms (clipD b.doms l) = true) := clipD_in (fun dd hd => good_dom HOK.out.2.2.1 hd)
  have HAC := Lib.hid (ask_clip HC0.out l)
  have HAF : Hid (∀ {i : Nat} {t : TabD}, b.tabs[i]? = some t → ∃ a, (ansL b (clipD b.doms l))[i]? = some a ∧ a.1 = t.name ∧ (t.ins.all (foundA (readK b (clipD b.doms l))) = false → a.2.1 = false) ∧
      (t.ins.all (foundA (readK b (clipD b.doms l))) = true → a.2.1 = (saysV t (t.ins.map (numA (readK b (clipD b.doms l))))).2.1 ∧ a.2.2 = (saysV t (t.ins.map (numA (readK b (clipD b.doms l))))).1 ∧ (saysV t (t.ins.map (numA (readK b (clipD b.doms l))))).2.2 = 0 ∧ (t.comp = true → (saysV t (t.ins.map (numA (readK b (clipD b.doms l))))).2.1 = true))) :=
    fun ht => answers_facts HC0.out HCL.out HCI.out ht
  have HRK : Hid (readK b (clipD b.doms l) = putsA (ansL b (clipD b.doms l)) (domL b.doms (clipD b.doms l) fun _ => none)) := rfl
  have HAL : Hid ((ansL b (clipD b.doms l)).length = b.tabs.length) := by show _ = _; unfold ansL; rw [List.length_map]
  go_wp2_with fail
  refine (keep_books _).mono ?_
  rintro ee w2 ⟨rfl, hb2⟩
  have hb02 := bx hb01 hb2
  have C2 := Lib.hid (C1.out.next hb2)
  have k0 := C2.out.at 0 rfl
  have k1 := C2.out.at 1 rfl
  have HB2 := Lib.hid (HB.out.onOld hb02)
  have HL2 := Lib.hid (HL.out.onOld hb02)
  go_wp2_with fail
  refine (keep_clipped b l _ _ _ HB2.out HL2.out hd4).mono ?_
  rintro ee w3 ⟨v3, rfl, hn3, hb3⟩
  have HN3 := Lib.hid (hn3.more (fun _ h => h.2) : Sl Enc.int w3 (Old w3) (clipD b.doms l) v3)
  obtain ⟨A3, c3, rfl, hA3, hA3'⟩ := hn3.form
  rw [HCL.out] at hA3 HN3 ⊢
  clear hn3 k0 k1
  have hb03 := bx hb02 hb3
  have C3 := Lib.hid (C2.out.next hb3)
  have k0 := C3.out.at 0 rfl
  have k1 := C3.out.at 1 rfl
  have HB3 := Lib.hid (HB.out.onOld hb03)
  go_wp2_with fail
  refine (book_Ask b (clipD b.doms l) _ _ _ HB3.out HN3.out HS.out).mono ?_
  rintro ee w4 ⟨v4, rfl, hn4, hb4⟩
  rw [HAC.out] at hn4 ⊢
  simp only at hn4 ⊢
  generalize hALe : ansL b (clipD b.doms l) = AL at *
  generalize hRKe : readK b (clipD b.doms l) = RK at *
  clear hALe hRKe HAC
  have HN4 := Lib.hid (hn4.more (fun _ h => h.2) : Sl Enc.ans w4 (Old w4) AL v4)
  obtain ⟨A4, c4, rfl, hA4, hA4'⟩ := hn4.form
  rw [HAL.out] at hA4 HN4 ⊢
  clear hn4 k0 k1
  have hb04 := bx hb03 hb4
  have C4 := Lib.hid (C3.out.next hb4)
  have HN34 := Lib.hid (HN3.out.onOld hb4)
  have k0 := C4.out.at 0 rfl
  have k1 := C4.out.at 1 rfl
  unfold maxLen at hA3' hA4'
  have hbm := below_alloc1 w4 (.map #[] 0)
  have M4 := Lib.hid (MapS.made Try.prog 9 w4)
  have hmk := a_make w4
  have CM := Lib.hid (C4.out.next hbm)
  generalize hwm : w4.alloc (.map #[] 0) = wm at *
  have km0 := CM.out.at 0 rfl
  generalize hCLe : clipD b.doms l = CL at *
  clear hCLe
  go_wp2
  go_loopw [60] (fun i wr => ∃ k cc : Nat, k ≤ b.doms.length ∧ i = .int .i64 k ∧ Hid (MapS Try.prog 9 wr w4.heap.size k cc (ansF (domL (b.doms.take k) (CL.take k) fun _ => none))) ∧ Below w4.heap.size w4 wr) (fun i _ => b.doms.length - (intOf i).toNat)
  case atStart => exact ⟨0, 0, Nat.zero_le _, rfl, M4, hbm⟩
  case round =>
    clear k0 k1 km0 hmk hwm hbm M4 CM
    obtain ⟨k, cc, hk, rfl, HM, hbl⟩ := hrel
    have hb := bx hb04 hbl
    by_cases hlt : k < b.doms.length
    · obtain ⟨bb, o, nm, lo, hi, rfl, hSb, hx, c1, c2, c3⟩ := (HD.out.onOld hb).dom_at hlt
      obtain ⟨bi, oi, nn, rfl, hSi, hxn, ci⟩ := (HN34.out.onOld hbl).num_at (k := k) (by have := HCL.out; omega)
      have hbz := below_alloc1 wr (.cells #[.string nm, .int .i64 lo, .int .i64 hi] 57)
      have hblz := bx hbl hbz
      have CN := Lib.hid (Cs.new wr [.string nm, .int .i64 lo, .int .i64 hi] 57)
      change Hid (Cs (wr.alloc (.cells #[.string nm, .int .i64 lo, .int .i64 hi] 57)) _ _) at CN
      have HMa := Lib.hid (HM.out.below hbz)
      have q0 := CN.out.at 0 rfl
      have cia := (hbz.cell (p := ⟨bi, oi + k, none⟩) hSi).trans ci
      have HNM : Hid (nm.size ≤ maxLen) := by have := HS.out.1 _ (List.mem_of_getElem? hx.out); show _ ≤ _; unfold maxLen; simp only at this; omega
      have HDM := Lib.hid (domL_more HCL.out.symm hx.out hxn.out (fun _ => none))
      have hk0 : (0 : Int) ≤ k := by omega
      have hk1 : (k : Int) < b.doms.length := by omega
      have hkm : k < maxLen := by unfold maxLen; omega
      generalize hwa : wr.alloc (.cells #[.string nm, .int .i64 lo, .int .i64 hi] 57) = wa at *
      go_wp2_with fail
      go_still_tail 8, (by kernel_rfl)
      go_wp2_with (at_mapUpdate; refine wpList_putS _ rfl _ _ _ 55 rfl 9 59 Try.underlying9 a_under w4.heap.size k cc _ rfl (by exact HMa.out) nm rfl HNM.out hkm (ansVal (noS, true, nn)) rfl ?_; intro w6 hm6 hg6)
      obtain ⟨cc6, hm7⟩ := MapS.ansPut (a := (noS, true, nn)) hm6
      rw [← HDM.out] at hm7
      have hda : Below wa.heap.size wa wa.drew := (Below.refl _ _).drew
      have hbld := bx hblz hda
      exact ⟨⟨k + 1, cc6, by omega, by go_num, hm7, hbld.grown hg6 hbld.size (fun _ hj => by injection hj with hj; omega)⟩, by simp [intOf]; omega⟩
    · have ek : k = b.doms.length := by omega
      subst ek
      rw [List.take_length, List.take_of_length_le (by have := HCL.out; omega)] at HM
      clear hlt hk
      generalize hK0 : domL b.doms CL (fun _ => none) = K0 at *
      go_wp2
      go_loopw [76] (fun i w5 => ∃ k cc : Nat, k ≤ b.tabs.length ∧ i = .int .i64 k ∧ Hid (MapS Try.prog 9 w5 w4.heap.size (b.doms.length + k) cc (ansF (putsA (AL.take k) K0))) ∧ Below w4.heap.size w4 w5) (fun i _ => b.tabs.length - (intOf i).toNat)
      case atStart => exact ⟨0, cc, Nat.zero_le _, rfl, HM, hbl⟩
      case round =>
        clear HM hbl hb
        rename World => w5
        obtain ⟨k, cc5, hk, rfl, HM, hbl⟩ := hrel
        have hb := bx hb04 hbl
        by_cases hlt : k < b.tabs.length
        · obtain ⟨ba, oa, an, af, am, rfl, hSa, hxa, a1, a2, a3⟩ := (HN4.out.onOld hbl).ans_at (k := k) (by have := HAL.out; omega)
          obtain ⟨bb, o, nm, pol, comp, ins, rules, vi, vr, rfl, hSb, hx, c1, -⟩ := (HTS.out.onOld hb).tab_at hlt
          have HNE : Hid (an = nm) := by
            obtain ⟨a, e1, e2, _⟩ := HAF.out hx.out
            rw [hxa.out] at e1
            injection e1 with e1
            subst e1
            exact e2
          have hsm := small_name (HS.out.2 _ (List.mem_of_getElem? hx.out))
          have hne := HNE.out
          subst hne
          have HSM : Hid (an.size ≤ maxLen) := hsm
          clear hsm HNE
          have hbz := below_alloc1 w5 (.cells #[.string an, .bool af, .int .i64 am] 59)
          have hblz := bx hbl hbz
          have CN := Lib.hid (Cs.new w5 [.string an, .bool af, .int .i64 am] 59)
          change Hid (Cs (w5.alloc (.cells #[.string an, .bool af, .int .i64 am] 59)) _ _) at CN
          have HMa := Lib.hid (HM.out.below hbz)
          have CBa := Lib.hid (C4.out.next hblz)
          have q0 := CN.out.at 0 rfl
          have q1 := CN.out.at 1 rfl
          have q2 := CN.out.at 2 rfl
          have p1 := CBa.out.at 1 rfl
          have c1a := (hbz.cell (p := ⟨bb, o + k * 5, none⟩) hSb).trans c1
          have hk0 : (0 : Int) ≤ k := by omega
          have hk1 : (k : Int) < b.tabs.length := by omega
          have hkm : b.doms.length + k < maxLen := by unfold maxLen; omega
          have HPS := Lib.hid (putsA_snoc (a := (an, af, am)) (AL.take k) K0)
          rw [← take_at hxa.out] at HPS
          generalize hwa : w5.alloc (.cells #[.string an, .bool af, .int .i64 am] 59) = wa at *
          go_wp2_with fail
          go_quiet (fail)
          obtain ⟨w6, hw6⟩ : ∃ w6, wa.drewN nq = w6 := ⟨_, rfl⟩
          have q0 : w6.cell? ⟨w5.heap.size, 0, none⟩ = some (.string an) := by subst hw6; exact q0
          have q1 : w6.cell? ⟨w5.heap.size, 1, none⟩ = some (.bool af) := by subst hw6; exact q1
          have q2 : w6.cell? ⟨w5.heap.size, 2, none⟩ = some (.int .i64 am) := by subst hw6; exact q2
          have hbl6 : Below w4.heap.size w4 w6 := by subst hw6; exact below_drewN hblz _
          have HM6 : Hid (MapS Try.prog 9 w6 w4.heap.size (b.doms.length + k) cc5 (ansF (putsA (AL.take k) K0))) := by subst hw6; exact HMa.out
          rw [hw6]
          clear hw6
          go_wp2_with (at_mapUpdate; refine wpList_putS _ rfl _ _ _ 55 rfl 9 59 Try.underlying9 a_under w4.heap.size (b.doms.length + k) cc5 _ rfl HM6.out an rfl HSM.out hkm (ansVal (an, af, am)) rfl ?_; intro w7 hm7 hg7)
          obtain ⟨cc7, hm8⟩ := MapS.ansPut (a := (an, af, am)) hm7
          rw [← HPS.out] at hm8
          exact ⟨⟨k + 1, cc7, by omega, by go_num, hm8, hbl6.grown hg7 hbl6.size (fun _ hj => by injection hj with hj; omega)⟩, by simp [intOf]; omega⟩
        · have ek : k = b.tabs.length := by omega
          subst ek
          rw [List.take_of_length_le (by have := HAL.out; omega), ← HRK.out] at HM
          clear hlt hk
          have CBa := Lib.hid (C4.out.next hbl)
          have p1 := CBa.out.at 1 rfl
          go_wp2
          go_loopw [98] (fun i w6 => ∃ k : Nat, k ≤ b.tabs.length ∧ i = .int .i64 k ∧ Below w5.heap.size w5 w6) (fun i _ => b.tabs.length - (intOf i).toNat)
          case atStart => exact ⟨0, Nat.zero_le _, rfl, Below.refl _ _⟩
          case round =>
            clear p1
            rename World => w6
            obtain ⟨k, hk, rfl, hb6⟩ := hrel
            have hbl6 := bx hbl hb6
            have hb06 := bx hb hb6
            by_cases hlt : k < b.tabs.length
            · obtain ⟨ba, oa, an, af, am, rfl, hSa, hxa, a1, a2, a3⟩ := (HN4.out.onOld hbl6).ans_at (k := k) (by have := HAL.out; omega)
              obtain ⟨bb, o, nm, pol, comp, ins, rules, vi, vr, rfl, hSb, hx, c1, c2, c3, c4, c5, hi, hr⟩ := (HTS.out.onOld hb06).tab_at hlt
              have HT0 : Hid (TabAt w6 (Old w6) ⟨nm, pol, comp, ins, rules⟩ (.agg #[.string nm, .int .i64 pol, .bool comp, vi, vr])) := ⟨_, _, rfl, hi, hr⟩
              have HI := Lib.hid hi
              obtain ⟨Ai, ci, rfl, hi1, hi2⟩ := hi.form
              obtain ⟨Ar, cr, rfl, -, -⟩ := hr.form
              unfold maxLen at hi2
              clear hi hr
              have hmem := List.mem_of_getElem? hx.out
              have HSM := Lib.hid (HS.out.2 _ hmem)
              have HSI : Hid (∀ s, s ∈ ins → s.size ≤ maxLen) := small_ins HSM.out
              have hil : ins.length ≤ 3 := (goodIns_iff.1 (goodT_iff.1 (good_tab HOK.out.2.2.2.1 hmem)).2.2.2.1).2.1
              have HF : Hid ((ins.all (foundA RK) = false → af = false) ∧ (ins.all (foundA RK) = true → af = (saysV ⟨nm, pol, comp, ins, rules⟩ (ins.map (numA RK))).2.1 ∧ am = (saysV ⟨nm, pol, comp, ins, rules⟩ (ins.map (numA RK))).1 ∧ (saysV ⟨nm, pol, comp, ins, rules⟩ (ins.map (numA RK))).2.2 = 0 ∧ (comp = true → (saysV ⟨nm, pol, comp, ins, rules⟩ (ins.map (numA RK))).2.1 = true))) := by
                obtain ⟨a, e1, e2, e3, e4⟩ := HAF.out hx.out
                rw [hxa.out] at e1
                injection e1 with e1
                subst e1
                exact ⟨e3, e4⟩
              have hbz := below_alloc1 w6 (.cells #[.string nm, .int .i64 pol, .bool comp, .slice Ai ins.length ci, .slice Ar rules.length cr] 25)
              have CN := Lib.hid (Cs.new w6 [.string nm, .int .i64 pol, .bool comp, .slice Ai ins.length ci, .slice Ar rules.length cr] 25)
              change Hid (Cs (w6.alloc (.cells #[.string nm, .int .i64 pol, .bool comp, .slice Ai ins.length ci, .slice Ar rules.length cr] 25)) _ _) at CN
              have hb6z := bx hb6 hbz
              have HIz := Lib.hid (HI.out.onOld hbz)
              have HTz := Lib.hid (HT0.out.onOld hbz)
              have q3 := CN.out.at 3 rfl
              have a2z := (hbz.cell (p := ⟨ba, oa + k * 3 + 1, none⟩) hSa).trans a2
              have a3z := (hbz.cell (p := ⟨ba, oa + k * 3 + 2, none⟩) hSa).trans a3
              have hSz : ba < (w6.alloc (.cells #[.string nm, .int .i64 pol, .bool comp, .slice Ai ins.length ci, .slice Ar rules.length cr] 25)).heap.size := Nat.lt_of_lt_of_le hSa hbz.size
              generalize hwz : w6.alloc (.cells #[.string nm, .int .i64 pol, .bool comp, .slice Ai ins.length ci, .slice Ar rules.length cr] 25) = wz at *
              go_wp2
              go_loopw [17, 18, 106] (fun u al i w7 => ∃ (j : Nat) (ab : Bool), j ≤ ins.length ∧ i = .int .i64 j ∧ al = .bool ab ∧ Hid ((ins.take j).all (foundA RK) = ab) ∧ Hid (OwnG Enc.int w7 wz.heap.size wz.heap.size 3 u ((ins.take j).map (numA RK))) ∧ Below wz.heap.size wz w7) (fun _ _ i _ => ins.length - (intOf i).toNat)
              case atStart => exact ⟨0, true, Nat.zero_le _, rfl, rfl, rfl, OwnG.nil, Below.refl _ _⟩
              case round =>
                clear hwz q3 c1 c2 c3 c4 c5 a1 a2 a3
                rename World => w8
                obtain ⟨j, ab, hj, rfl, rfl, HAB, HO, hb8⟩ := hrel
                have hb58 := bx hb6z hb8
                have HM8 := Lib.hid (HM.out.below hb58)
                by_cases hjlt : j < ins.length
                · obtain ⟨bs, os, x, rfl, _, hxs, cs⟩ := (HIz.out.onOld hb8).str_at hjlt
                  have HSX := Lib.hid (HSI.out x (List.mem_of_getElem? hxs.out))
                  have hlk := ansF_get RK x
                  have HFO := Lib.hid (found_get RK x)
                  have HNU := Lib.hid (num_get RK x)
                  obtain ⟨⟨xn, xf, xm⟩, hq⟩ : ∃ q : AnsD, q = (RK x).getD zeroA := ⟨_, rfl⟩
                  rw [← hq] at hlk HFO HNU
                  clear hq
                  rw [show ansVal (xn, xf, xm) = .agg #[.string xn, .bool xf, .int .i64 xm] from rfl] at hlk
                  have HLK := Lib.hid hlk
                  clear hlk
                  simp only at HFO HNU
                  have hbb := below_alloc1 w8 (.cells #[.int .i64 xm] 3)
                  have HOa := Lib.hid (HO.out.next hbb)
                  have hb8b := bx hb8 hbb
                  have hszz := hb8b.size
                  have hlen : ((ins.take j).map (numA RK)).length ≤ 3 := by rw [List.length_map, List.length_take]; omega
                  have HTA : Hid ((ins.take (j + 1)).all (foundA RK) = (ab && xf)) := by
                    show _ = _
                    rw [take_at hxs.out, List.all_append, HAB.out]
                    simp only [List.all_cons, List.all_nil, Bool.and_true, HFO.out]
                  have HTM : Hid ((ins.take (j + 1)).map (numA RK) = (ins.take j).map (numA RK) ++ [xm]) := by
                    show _ = _
                    rw [take_at hxs.out, List.map_append]
                    simp only [List.map_cons, List.map_nil, HNU.out]
                  cases ab
                  · go_wp2_with (first | (at_lookup; refine wpList_lookS _ rfl _ _ 55 rfl 9 59 Try.underlying9 a_under (a_zero _) w4.heap.size (b.doms.length + b.tabs.length) cc5 (ansF RK) rfl HM8.out x rfl HSX.out (.agg #[.string xn, .bool xf, .int .i64 xm]) HLK.out ?_; refine wpList_fieldS _ rfl _ 59 2 rfl _ _ rfl (ans_field2 xn xf xm _) ?_) | (at_builtin; refine wpList_append_one (E := Enc.int) _ rfl _ _ 28 rfl wz.heap.size wz.heap.size 3 8 (.int .i64 0) under_intsT infoIntT rfl (by decide) _ _ rfl HOa.out ⟨w8.heap.size, 0, none⟩ xm [.int .i64 xm] rfl rfl (cell_one_new _ _ _) (by omega) (by unfold maxLen; omega) hszz ?_; intro v' w9 hown' hgrow9 hmv9))
                    refine ⟨⟨j + 1, false, by omega, by go_num, rfl, HTA, ?_, hb8b.grown hgrow9 hszz (fun _ hr => (HOa.out.lt _ hr).1)⟩, by simp [intOf]; omega⟩
                    show OwnG _ _ _ _ _ _ _
                    rw [HTM.out]
                    exact hown'
                  · go_wp2_with (first | (at_lookup; refine wpList_lookS _ rfl _ _ 55 rfl 9 59 Try.underlying9 a_under (a_zero _) w4.heap.size (b.doms.length + b.tabs.length) cc5 (ansF RK) rfl HM8.out x rfl HSX.out (.agg #[.string xn, .bool xf, .int .i64 xm]) HLK.out ?_; refine wpList_fieldS _ rfl _ 59 2 rfl _ _ rfl (ans_field2 xn xf xm _) ?_) | (at_lookup; refine wpList_lookG _ (by rfl) _ _ 55 rfl 9 59 Try.underlying9 a_under (a_zero _) w4.heap.size (b.doms.length + b.tabs.length) cc5 (ansF RK) rfl HM8.out x rfl HSX.out (.agg #[.string xn, .bool xf, .int .i64 xm]) HLK.out ?_; refine wpList_fieldG _ (by rfl) _ 59 1 rfl _ _ rfl (ans_field1 xn xf xm _) ?_) | (at_builtin; refine wpList_append_one (E := Enc.int) _ rfl _ _ 28 rfl wz.heap.size wz.heap.size 3 8 (.int .i64 0) under_intsT infoIntT rfl (by decide) _ _ rfl HOa.out ⟨w8.heap.size, 0, none⟩ xm [.int .i64 xm] rfl rfl (cell_one_new _ _ _) (by omega) (by unfold maxLen; omega) hszz ?_; intro v' w9 hown' hgrow9 hmv9))
                    refine ⟨⟨j + 1, xf, by omega, by go_num, rfl, ?_, ?_, hb8b.grown hgrow9 hszz (fun _ hr => (HOa.out.lt _ hr).1)⟩, by simp [intOf]; omega⟩
                    · show _ = _
                      rw [HTA.out]; rfl
                    · show OwnG _ _ _ _ _ _ _
                      rw [HTM.out]
                      exact hown'
                · have e : ins.take j = ins := List.take_of_length_le (by omega)
                  rw [e] at HO HAB
                  clear e
                  have CN8 := Lib.hid (CN.out.next hb8)
                  have q0 := CN8.out.at 0 rfl
                  have q1 := CN8.out.at 1 rfl
                  have q2 := CN8.out.at 2 rfl
                  have q3 := CN8.out.at 3 rfl
                  have q4 := CN8.out.at 4 rfl
                  have HT8 := Lib.hid (HTz.out.onOld hb8)
                  have HSL := Lib.hid (HO.out.slOld (Nat.le_refl _))
                  have e2 := (hb8.cell (p := ⟨ba, oa + k * 3 + 1, none⟩) hSz).trans a2z
                  have e3 := (hb8.cell (p := ⟨ba, oa + k * 3 + 2, none⟩) hSz).trans a3z
                  go_wp2_with fail
                  refine (table_Says ⟨nm, pol, comp, ins, rules⟩ (ins.map (numA RK)) _ _ _ HT8.out HSL.out HSM.out).mono ?_
                  rintro ee w9 ⟨rfl, hb9⟩
                  have CN9 := Lib.hid (CN8.out.next hb9)
                  have g2 := (hb9.cell (p := ⟨ba, oa + k * 3 + 1, none⟩) (Nat.lt_of_lt_of_le hSz hb8.size)).trans e2
                  have g3 := (hb9.cell (p := ⟨ba, oa + k * 3 + 2, none⟩) (Nat.lt_of_lt_of_le hSz hb8.size)).trans e3
                  have g4 := CN9.out.at 2 rfl
                  have hb59 := bx hb58 hb9
                  have hk0 : (0 : Int) ≤ k := by omega
                  have hk1 : (k : Int) < b.tabs.length := by omega
                  clear q0 q1 q2 q3 q4 e2 e3
                  generalize saysV ⟨nm, pol, comp, ins, rules⟩ (ins.map (numA RK)) = q at *
                  obtain ⟨n1, n2, n3⟩ := q
                  simp only at HF ⊢
                  cases ab
                  · have hf0 := HF.out.1 HAB.out
                    subst hf0
                    go_wp2
                    exact ⟨⟨k + 1, by omega, by go_num, hb59⟩, by simp [intOf]; omega⟩
                  · obtain ⟨hf1, hf2, hf3, hf4⟩ := HF.out.2 HAB.out
                    subst hf1 hf2 hf3
                    cases comp
                    · clear hf4
                      go_wp2
                      exact ⟨⟨k + 1, by omega, by go_num, hb59⟩, by simp [intOf]; omega⟩
                    · have hf5 := hf4 rfl
                      subst hf5
                      clear hf4
                      go_wp2
                      exact ⟨⟨k + 1, by omega, by go_num, hb59⟩, by simp [intOf]; omega⟩
            · go_wp2
              go_ret
              exact ⟨rfl, hb06⟩

end Go.Proofs.Ytmdljknlbmlacab
