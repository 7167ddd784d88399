/- book.Ask, as a Lean function of what its arguments read as. Conditions: the book and the numbers read as lists in old memory; names and lists fit into 2^47 bytes. -/
import Derived.Test.YthnfkghgaagaiabBookL
import Derived.Test.YthnfkghgaagaiabMemMore
namespace Go.Proofs.Ythnfkghgaagaiab
open Go.RowKit

theorem MapS.ansPut {w' : World} {mb n c : Nat} {K : ByteArray → Option AnsD} {s : ByteArray} {a : AnsD} (hm : MapS Try.prog 9 w' mb (n + 1) (if (ansF K s).isSome then c else c + 1) (fun x => if sameS x s then some (ansVal a) else ansF K x)) : ∃ cc, MapS Try.prog 9 w' mb (n + 1) cc (ansF (putA K s a)) :=
  ⟨_, hm.congr fun x => ansF_put K s x a⟩

set_option maxRecDepth 100000 in
set_option maxHeartbeats 2000000 in
theorem book_Ask (b : BookD) (l : List Int) (v vl : Value) (w : World) (h : BookAt w (Old w) b v) (hl : Sl Enc.int w (Old w) l vl) (hs : smallB b) :
    Calls Try.prog 19 #[v, vl] w (AskPost (askV b l) w) := by
  have HS := Lib.hid hs
  have HB := Lib.hid h
  have HL := Lib.hid hl
  have HX1 : Hid ((checkV b).2.2 ≠ 0 → askV b l = ([], (checkV b).2.2)) := ask_check
  have HX2 : Hid ((checkV b).2.2 = 0 → l.length ≠ b.doms.length → askV b l = ([], 1)) := ask_len
  have HX3 : Hid ((checkV b).2.2 = 0 → l.length = b.doms.length → inDoms b.doms l = false → askV b l = ([], 2)) := ask_range
  have HX4 : Hid ((checkV b).2.2 = 0 → l.length = b.doms.length → inDoms b.doms l = true → askV b l = (ansL b l, 0)) := ask_all
  clear hs
  generalize askV b l = R at *
  obtain ⟨vd, vt, rfl, h1, h2⟩ := h
  have HD := Lib.hid h1
  have HTS := Lib.hid h2
  obtain ⟨A, c, rfl, hc1, hc2, -⟩ := h1
  obtain ⟨B, d, rfl, hd1, hd2, -⟩ := h2
  obtain ⟨L, e, rfl, he1, he2, -⟩ := hl
  unfold maxLen at hc2 hd2 he2
  have hb0 := below_alloc1 w (.cells #[.slice A b.doms.length c, .slice B b.tabs.length d] 48)
  have C0 := Lib.hid (Cs.new w [.slice A b.doms.length c, .slice B b.tabs.length d] 48)
  change Hid (Cs (w.alloc (.cells #[.slice A b.doms.length c, .slice B b.tabs.length d] 48)) _ _) at C0
  generalize hw0 : w.alloc (.cells #[.slice A b.doms.length c, .slice B b.tabs.length d] 48) = w0 at *
  have k0 := C0.out.at 0 rfl
  have k1 := C0.out.at 1 rfl
  have HB0 := Lib.hid (HB.out.onOld hb0)
  go_enter Try.func19, Try.ntmps19
  go_wp2_with fail
  clear hw0
  refine (book_Check b _ _ HB0.out HS.out).mono ?_
  rintro ee w1 ⟨v1, rfl, hn1, hb1⟩
  obtain ⟨A1, c1, rfl, -, -⟩ := hn1.form
  clear hn1 k0 k1
  have hb01 := bx hb0 hb1
  have C1 := Lib.hid (C0.out.next hb1)
  have k0 := C1.out.at 0 rfl
  have k1 := C1.out.at 1 rfl
  by_cases hcd : ¬ (checkV b).2.2 = 0
  · have HR := Lib.hid (HX1.out hcd)
    generalize (checkV b).2.2 = cd at *
    have hcd' : (cd == 0) = false := by simpa using hcd
    go_wp2
    go_ret2
    exact AskPost.no HR.out hb01
  have hcd := Decidable.not_not.1 hcd
  have HC0 := Lib.hid hcd
  rw [hcd]
  clear hcd HX1
  by_cases hll : ¬ l.length = b.doms.length
  · have HR := Lib.hid (HX2.out HC0.out hll)
    have hll' : ((l.length : Int) == (b.doms.length : Int)) = false := beq_eq_false_iff_ne.2 (by omega)
    go_wp2
    go_ret2
    exact AskPost.no HR.out hb01
  have hll := Decidable.not_not.1 hll
  have HLL := Lib.hid hll
  have hll' : ((l.length : Int) == (b.doms.length : Int)) = true := by rw [beq_iff_eq]; omega
  have HX5 := Lib.hid (HX3.out HC0.out hll)
  have HX6 := Lib.hid (HX4.out HC0.out hll)
  have HOK := Lib.hid (check_ok HC0.out)
  have hd4 : b.doms.length ≤ 4 := HOK.out.1
  have ht4 : b.tabs.length ≤ 4 := HOK.out.2.1
  have hl4 : l.length ≤ 4 := by omega
  clear HX2 HX3 HX4 hll
  have hbm := below_alloc1 w1 (.map #[] 0)
  have M1 := Lib.hid (MapS.made Try.prog 9 w1)
  have hmk := a_make w1
  have CM := Lib.hid (C1.out.next hbm)
  have hb0m := bx hb01 hbm
  generalize hwm : w1.alloc (.map #[] 0) = wm at *
  have km0 := CM.out.at 0 rfl
  have hmbw : w.heap.size < w1.heap.size := C1.out.1
  go_wp2
  have hne : ((l.length : Int) != (b.doms.length : Int)) = false := by simp only [bne, hll']; rfl
  simp only [hne]
  go_loopw [40] (fun i wr => ∃ k cc : Nat, k ≤ b.doms.length ∧ i = .int .i64 k ∧ Hid (MapS Try.prog 9 wr w1.heap.size k cc (ansF (domK (b.doms.take k) (l.take k) fun _ => none))) ∧ Hid (inDoms (b.doms.take k) (l.take k) = true) ∧ Hid (Cs wr w.heap.size [.slice A b.doms.length c, .slice B b.tabs.length d]) ∧ Below w.heap.size w wr) (fun i _ => b.doms.length - (intOf i).toNat)
  case atStart => exact ⟨0, 0, Nat.zero_le _, rfl, M1, rfl, CM, hb0m⟩
  case round =>
    clear k0 k1 km0 hmk hwm hbm hb0m hb01 hb0 hb1 HB0 C0 C1 CM M1 hll'
    obtain ⟨k, cc, hk, rfl, HM, HIN, CB, hb⟩ := hrel
    by_cases hlt : k < b.doms.length
    · obtain ⟨bb, o, nm, lo, hi, rfl, hSb, hx, c1, c2, c3⟩ := (HD.out.onOld hb).dom_at hlt
      obtain ⟨bi, oi, nn, rfl, hSi, hxn, ci⟩ := (HL.out.onOld hb).num_at (k := k) (by have := HLL.out; omega)
      have hbz := below_alloc1 wr (.cells #[.string nm, .int .i64 lo, .int .i64 hi] 57)
      have hb2 := bx hb hbz
      have CN := Lib.hid (Cs.new wr [.string nm, .int .i64 lo, .int .i64 hi] 57)
      change Hid (Cs (wr.alloc (.cells #[.string nm, .int .i64 lo, .int .i64 hi] 57)) _ _) at CN
      have CBa := Lib.hid (CB.out.next hbz)
      have HMa := Lib.hid (HM.out.below hbz)
      have q0 := CN.out.at 0 rfl
      have q1 := CN.out.at 1 rfl
      have q2 := CN.out.at 2 rfl
      have cia := (hbz.cell (p := ⟨bi, oi + k, none⟩) hSi).trans ci
      have HNM : Hid (nm.size ≤ maxLen) := by have := HS.out.1 _ (List.mem_of_getElem? hx.out); show _ ≤ _; unfold maxLen; simp only at this; omega
      have HDM := Lib.hid (dom_more HLL.out.symm hx.out hxn.out (fun _ => none))
      have HDN := Lib.hid (inDoms_no HLL.out.symm hx.out hxn.out)
      have hk0 : (0 : Int) ≤ k := by omega
      have hk1 : (k : Int) < l.length := by have := HLL.out; omega
      have hkm : k < maxLen := by unfold maxLen; omega
      generalize hwa : wr.alloc (.cells #[.string nm, .int .i64 lo, .int .i64 hi] 57) = wa at *
      by_cases h1 : nn < lo
      · have HR := Lib.hid (HX5.out (HDN.out (by simp; omega)))
        go_wp2_with fail
        go_quiet (fail)
        go_wp2
        go_ret2
        exact AskPost.no HR.out (below_drewN hb2 _)
      · have h1' : decide (nn < lo) = false := decide_eq_false h1
        by_cases h2 : hi < nn
        · have HR := Lib.hid (HX5.out (HDN.out (by simp; omega)))
          go_wp2_with fail
          go_quiet (fail)
          go_wp2
          go_ret2
          exact AskPost.no HR.out (below_drewN hb2 _)
        · have h2' : decide (hi < nn) = false := decide_eq_false h2
          have HIN2 : Hid (inDoms (b.doms.take (k + 1)) (l.take (k + 1)) = true) := by
            show _ = _
            rw [HDM.out.2, HIN.out]; simp; omega
          go_wp2_with fail
          go_quiet (fail)
          obtain ⟨w3, hw3⟩ : ∃ w3, wa.drewN nq = w3 := ⟨_, rfl⟩
          have q0 : w3.cell? ⟨wr.heap.size, 0, none⟩ = some (.string nm) := by subst hw3; exact q0
          have cia : w3.cell? ⟨bi, oi + k, none⟩ = some (.int .i64 nn) := by subst hw3; exact cia
          have hb3 : Below w.heap.size w w3 := by subst hw3; exact below_drewN hb2 _
          have HM3 : Hid (MapS Try.prog 9 w3 w1.heap.size k cc (ansF (domK (b.doms.take k) (l.take k) fun _ => none))) := by subst hw3; exact HMa.out
          have CB3 : Hid (Cs w3 w.heap.size [.slice (some ⟨bb, o, none⟩) b.doms.length c, .slice B b.tabs.length d]) := by subst hw3; exact CBa.out.next (below_drewN (Below.refl _ _) _)
          rw [hw3]
          clear hw3 h1' h2'
          go_wp2_with fail
          go_still_tail 10, (by kernel_rfl)
          go_wp2_with (at_mapUpdate; refine wpList_putS _ rfl _ _ _ 55 rfl 9 59 Try.underlying9 a_under w1.heap.size k cc _ rfl (by exact HM3.out) nm rfl HNM.out hkm (ansVal (nm, true, nn)) rfl ?_; intro w4 hm4 hg4)
          obtain ⟨cc4, hm5⟩ := MapS.ansPut (a := (nm, true, nn)) hm4
          rw [← HDM.out.1] at hm5
          have hd3 : Below w3.heap.size w3 w3.drew := (Below.refl _ _).drew
          have hb3d := bx hb3 hd3
          exact ⟨⟨k + 1, cc4, by omega, by go_num, hm5, HIN2, (CB3.out.next hd3).grown hg4 (by omega), hb3d.grown hg4 hb3d.size (fun _ hj => by injection hj with hj; omega)⟩, by simp [intOf]; omega⟩
    · have ek : k = b.doms.length := by omega
      subst ek
      rw [List.take_length, List.take_of_length_le (by have := HLL.out; omega)] at HM HIN
      have HR := Lib.hid (HX6.out HIN.out)
      clear hlt hk HIN HX5 HX6
      obtain ⟨ol, ho⟩ := HOK.out.2.2.2.2.2.1
      have hnd := good_nodup HOK.out.2.2.2.1
      have hol : ol.length ≤ 4 := by rw [order_length hnd ho]; exact ht4
      have HHO := Lib.hid ho
      have HND := Lib.hid hnd
      have HAK : Hid (askR b l = askK b.tabs ol (domK b.doms l fun _ => none)) := by show _ = _; unfold askR; rw [ho]; rfl
      clear ho hnd
      generalize hK0 : domK b.doms l (fun _ => none) = K0 at *
      have HBa := Lib.hid (HB.out.onOld hb)
      have k0 := CB.out.at 0 rfl
      have k1 := CB.out.at 1 rfl
      have hmlt := HM.out.lt
      go_wp2_with fail
      refine (book_Order b _ _ HBa.out HS.out HND.out (by omega)).mono ?_
      rintro ee w5 ⟨v5, rfl, hn5, hb5⟩
      have ho5 := HHO.out
      rw [ho5] at hn5 ⊢
      simp only [Option.getD_some, Option.isSome_some] at hn5 ⊢
      have HN5 := Lib.hid hn5
      obtain ⟨A5, c5, rfl, hA5, hA5'⟩ := hn5.form
      unfold maxLen at hA5'
      have hb05 := bx hb hb5
      have CB5 := Lib.hid (CB.out.next hb5)
      have HM5 := Lib.hid (HM.out.below hb5)
      have hmlt5 := HM5.out.lt
      clear hn5 ho5 k0 k1
      go_wp2
      go_loopw [79] (fun i w6 => ∃ k cc : Nat, k ≤ ol.length ∧ i = .int .i64 k ∧ Hid (MapS Try.prog 9 w6 w1.heap.size (b.doms.length + k) cc (ansF (askK b.tabs (ol.take k) K0))) ∧ Hid (w5.grownBy w6 (some w1.heap.size))) (fun i _ => ol.length - (intOf i).toNat)
      case atStart => exact ⟨0, cc, Nat.zero_le _, rfl, HM5, grown_of_below (Below.refl _ _)⟩
      case round =>
        clear HM CB HBa HM5
        rename World => w6
        obtain ⟨k, cc6, hk, rfl, HM6, HG6⟩ := hrel
        have hb6 : Below w.heap.size w w6 := hb05.grown HG6.out hb05.size (fun _ hj => by injection hj with hj; omega)
        have CB6 := Lib.hid (CB5.out.grown HG6.out (by omega))
        by_cases hlt : k < ol.length
        · have HN6 : Sl Enc.str w6 (From wr.heap.size w5) ol (.slice A5 ol.length c5) := HN5.out.keep (fun p hp => World.cell?_of_block (HG6.out.block _ hp.2 (by intro e; injection e with e; have := hp.1; omega)))
          obtain ⟨b5, o5, x, rfl, hS5, hx, cx⟩ := HN6.str_at hlt
          clear HN6
          have HB6 := Lib.hid (HB.out.onOld hb6)
          have k0 := CB6.out.at 0 rfl
          have k1 := CB6.out.at 1 rfl
          have HAS := Lib.hid (askK_snoc (ts := b.tabs) (s := x) (ol.take k) K0)
          rw [← take_at hx.out] at HAS
          have HST := Lib.hid (findT_small HS.out x)
          have HNX : Hid (x.size ≤ maxLen) := by
            have hm := (orderO_facts HND.out HHO.out).mem x
            obtain ⟨t, ht, e⟩ := List.mem_map.1 (hm.1 (List.mem_of_getElem? hx.out))
            subst e
            exact small_name (HS.out.2 t ht)
          have HIL : Hid (((findT b.tabs x).getD zeroT).ins.length ≤ 3) := by
            show _ ≤ _
            cases hf : findT b.tabs x with
            | none => simp [zeroT]
            | some t => exact (goodIns_iff.1 (goodT_iff.1 (good_tab HOK.out.2.2.2.1 (findT_some hf).1)).2.2.2.1).2.1
          go_wp2_with fail
          refine (book_FindTable b x _ _ HB6.out).mono ?_
          rintro ee w7 ⟨vt7, rfl, ht7, hb7⟩
          generalize hnt : (findT b.tabs x).getD zeroT = nt at *
          clear hnt
          have HT7 := Lib.hid ht7
          obtain ⟨vi, vr, rfl, hi7, hr7⟩ := ht7
          obtain ⟨Ai, ci, rfl, -, -⟩ := hi7.form
          obtain ⟨Ar, cr, rfl, -, -⟩ := hr7.form
          clear hi7 hr7 k0 k1
          have hbz := below_alloc1 w7 (.cells #[.string nt.name, .int .i64 nt.pol, .bool nt.comp, .slice Ai nt.ins.length ci, .slice Ar nt.rules.length cr] 25)
          have CN := Lib.hid (Cs.new w7 [.string nt.name, .int .i64 nt.pol, .bool nt.comp, .slice Ai nt.ins.length ci, .slice Ar nt.rules.length cr] 25)
          change Hid (Cs (w7.alloc (.cells #[.string nt.name, .int .i64 nt.pol, .bool nt.comp, .slice Ai nt.ins.length ci, .slice Ar nt.rules.length cr] 25)) _ _) at CN
          have HT8 := Lib.hid (HT7.out.onOld hbz)
          have hb78 := bx hb7 hbz
          have HM8 := Lib.hid (HM6.out.below hb78)
          have q0 := CN.out.at 0 rfl
          have q1 := CN.out.at 1 rfl
          have q2 := CN.out.at 2 rfl
          have q3 := CN.out.at 3 rfl
          have q4 := CN.out.at 4 rfl
          generalize hw8 : w7.alloc (.cells #[.string nt.name, .int .i64 nt.pol, .bool nt.comp, .slice Ai nt.ins.length ci, .slice Ar nt.rules.length cr] 25) = w8 at *
          have hkm : b.doms.length + k < maxLen := by unfold maxLen; omega
          go_wp2_with fail
          clear hw8
          refine (book_answer _ nt _ _ w1.heap.size _ _ HM8.out HT8.out HST.out HIL.out).mono ?_
          rintro ee w9 ⟨rfl, hb9⟩
          have HM9 := Lib.hid (HM8.out.below hb9)
          have hb69 := bx hb78 hb9
          clear q0 q1 q2 q3 q4
          generalize hAN : ansOf (askK b.tabs (ol.take k) K0) nt = AN at *
          go_wp2_with (at_mapUpdate; refine wpList_putS _ rfl _ _ _ 55 rfl 9 59 Try.underlying9 a_under w1.heap.size (b.doms.length + k) cc6 _ rfl HM9.out x rfl HNX.out hkm (ansVal AN) rfl ?_; intro wt hmt hgt)
          obtain ⟨cct, hmt'⟩ := MapS.ansPut (a := AN) hmt
          rw [← HAS.out] at hmt'
          exact ⟨⟨k + 1, cct, by omega, by go_num, hmt', World.grownBy.trans' (World.grownBy.trans' HG6.out (grown_of_below hb69)) hgt⟩, by simp [intOf]; omega⟩
        · have ek : k = ol.length := by omega
          subst ek
          rw [List.take_length, ← HAK.out] at HM6
          clear hlt hk
          generalize hKK : askR b l = KK at *
          have k1 := CB6.out.at 1 rfl
          have HR2 : Hid (R = (b.tabs.map (fun t => (KK t.name).getD zeroA), 0)) := by show _ = _; rw [HR.out, ← hKK]; rfl
          go_wp2
          go_loopw [18, 98] (fun u i wr => ∃ k : Nat, k ≤ b.tabs.length ∧ i = .int .i64 k ∧ Hid (OwnG Enc.ans wr w6.heap.size w6.heap.size 59 u ((b.tabs.take k).map (fun t => (KK t.name).getD zeroA))) ∧ Below w6.heap.size w6 wr) (fun _ i _ => b.tabs.length - (intOf i).toNat)
          case atStart => exact ⟨0, Nat.zero_le _, rfl, OwnG.nil, Below.refl _ _⟩
          case round =>
            clear k1
            rename World => wt
            obtain ⟨k, hk, rfl, HO, hbl⟩ := hrel
            have hbt := bx hb6 hbl
            by_cases hlt : k < b.tabs.length
            · obtain ⟨bb, o, nm, pol, comp, ins, rules, vi, vr, rfl, hSb, hx, c1, c2, c3, c4, c5', hi, hr⟩ := (HTS.out.onOld hbt).tab_at hlt
              obtain ⟨Ai, ci, rfl, -, -⟩ := hi.form
              obtain ⟨Ar, cr, rfl, -, -⟩ := hr.form
              clear hi hr
              have hbz := below_alloc1 wt (.cells #[.string nm, .int .i64 pol, .bool comp, .slice Ai ins.length ci, .slice Ar rules.length cr] 25)
              have CN := Lib.hid (Cs.new wt [.string nm, .int .i64 pol, .bool comp, .slice Ai ins.length ci, .slice Ar rules.length cr] 25)
              change Hid (Cs (wt.alloc (.cells #[.string nm, .int .i64 pol, .bool comp, .slice Ai ins.length ci, .slice Ar rules.length cr] 25)) _ _) at CN
              have hblz := bx hbl hbz
              have HOz := Lib.hid (HO.out.next hbz)
              have hlk := ans_look (HM6.out.below hblz) nm (small_name (HS.out.2 _ (List.mem_of_getElem? hx.out)))
              obtain ⟨⟨an, af, am⟩, hq⟩ : ∃ q : AnsD, q = (KK nm).getD zeroA := ⟨_, rfl⟩
              rw [← hq, show ansVal (an, af, am) = .agg #[.string an, .bool af, .int .i64 am] from rfl] at hlk
              have HQ := Lib.hid hq
              clear hq
              have q0 := CN.out.at 0 rfl
              generalize hwa : wt.alloc (.cells #[.string nm, .int .i64 pol, .bool comp, .slice Ai ins.length ci, .slice Ar rules.length cr] 25) = wa at *
              have hbb := below_alloc1 wa (.cells #[.string an, .bool af, .int .i64 am] 59)
              have HOb := Lib.hid (HOz.out.next hbb)
              have hblb := bx hblz hbb
              have hszb := hblb.size
              have hlen : ((b.tabs.take k).map (fun t => (KK t.name).getD zeroA)).length ≤ 4 := by rw [List.length_map, List.length_take]; omega
              have HY : Hid (Enc.ans.rd (wa.alloc (.cells #[.string an, .bool af, .int .i64 am] 59)) (Off w6.heap.size (wa.alloc (.cells #[.string an, .bool af, .int .i64 am] 59)) u18) (an, af, am) [.string an, .bool af, .int .i64 am]) := Enc.ans_rd.2 rfl
              have HTK : Hid ((b.tabs.take (k + 1)).map (fun t => (KK t.name).getD zeroA) = (b.tabs.take k).map (fun t => (KK t.name).getD zeroA) ++ [(an, af, am)]) := by
                show _ = _
                rw [take_at hx.out, List.map_append]
                simp only [List.map_cons, List.map_nil]
                rw [HQ.out]
              go_wp2_with (at_builtin; refine wpList_append_one (E := Enc.ans) _ rfl _ _ 52 rfl w6.heap.size w6.heap.size 59 32 (.agg #[.string ⟨#[]⟩, .bool false, .int .i64 0]) ans_under ans_info rfl (by decide) _ _ rfl HOb.out ⟨wa.heap.size, 0, none⟩ (an, af, am) [.string an, .bool af, .int .i64 am] rfl HY.out (cell_new3 _ _ _ _ _) (by omega) (by unfold maxLen; omega) hszb ?_; intro v' wz hown' hgrowz hmvz)
              refine ⟨⟨k + 1, by omega, by go_num, ?_, hblb.grown hgrowz hszb (fun _ hr => (HOb.out.lt _ hr).1)⟩, by simp [intOf]; omega⟩
              show OwnG _ _ _ _ _ _ _
              rw [HTK.out]
              exact hown'
            · have e : b.tabs.take k = b.tabs := List.take_of_length_le (by omega)
              rw [e] at HO
              go_wp2
              go_ret2
              rw [HR2.out]
              exact ⟨_, rfl, (HO.out.sl (Nat.le_refl _)).more (fun k hk => ⟨Nat.le_trans hb6.size hk.1, hk.2⟩), hbt⟩

end Go.Proofs.Ythnfkghgaagaiab
