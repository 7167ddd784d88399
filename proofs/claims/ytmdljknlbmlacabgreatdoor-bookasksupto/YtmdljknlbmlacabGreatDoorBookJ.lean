/- book.checkRules and Check, each as a Lean function of what its arguments read as. Conditions: the book reads as lists in old memory; names and lists fit into 2^47 bytes. book.Check, as a Lean function of what its argument reads as. Conditions: the book reads as lists in old memory; names and lists fit into 2^47 bytes. -/
import Derived.Test.YtmdljknlbmlacabGreatDoorBookE
import Derived.Test.YtmdljknlbmlacabGreatDoorBookA
import Derived.Test.YtmdljknlbmlacabGreatDoorBookH
import Derived.Test.YtmdljknlbmlacabGreatDoorTableI
namespace Go.Proofs.YtmdljknlbmlacabGreatDoor
open Go.RowKit

theorem badT_clash {b : BookD} {t : TabD} (h : (clashV t (boxL b t.ins)).2 = true) : badT b t = some ((clashV t (boxL b t.ins)).1, 8) := by unfold badT; rw [if_pos h]
theorem badT_part {b : BookD} {t : TabD} (h : (clashV t (boxL b t.ins)).2 = false) (hc : t.comp = false) : badT b t = none := by unfold badT; rw [h, hc]; rfl
theorem badT_gap {b : BookD} {t : TabD} (h : (clashV t (boxL b t.ins)).2 = false) (hc : t.comp = true) (hg : (gapV t (boxL b t.ins)).2 = true) : badT b t = some ((gapV t (boxL b t.ins)).1, 7) := by unfold badT; rw [h, hc, hg]; rfl
theorem badT_fine {b : BookD} {t : TabD} (h : (clashV t (boxL b t.ins)).2 = false) (hg : (gapV t (boxL b t.ins)).2 = false) : badT b t = none := by unfold badT; rw [h, hg]; simp

def RulesPost (R : Option (List Int × Int)) (w : World) (e : Ending) (w' : World) : Prop := ∃ v, e = .returned (.tuple #[v, .int .i64 (R.getD ([], 0)).2]) ∧ Sl Enc.int w' (From w.heap.size w') (R.getD ([], 0)).1 v ∧ Below w.heap.size w w'

set_option maxHeartbeats 1000000 in
theorem book_checkRules (b : BookD) (t : TabD) (v vt : Value) (w : World) (h : BookAt w (Old w) b v) (ht : TabAt w (Old w) t vt) (hs : smallB b) (hst : smallT t) (hl : t.ins.length ≤ 3) (hbx : boxOk b t.ins = true) :
    Calls Tryz.prog 26 #[v, vt] w (RulesPost (badT b t) w) := by
  have HS := Lib.hid hs
  have HST := Lib.hid hst
  have HB := Lib.hid h
  have HT := Lib.hid ht
  have HBV : Hid (boxV b t = (boxL b t.ins, true)) := by show _ = _; unfold boxV; rw [if_pos hbx]
  have HL := Lib.hid hl
  clear hs hst hbx hl
  have H1 : Hid ((clashV t (boxL b t.ins)).2 = true → badT b t = some ((clashV t (boxL b t.ins)).1, 8)) := badT_clash
  have H2 : Hid ((clashV t (boxL b t.ins)).2 = false → t.comp = false → badT b t = none) := badT_part
  have H3 : Hid ((clashV t (boxL b t.ins)).2 = false → t.comp = true → (gapV t (boxL b t.ins)).2 = true → badT b t = some ((gapV t (boxL b t.ins)).1, 7)) := badT_gap
  have H4 : Hid ((clashV t (boxL b t.ins)).2 = false → (gapV t (boxL b t.ins)).2 = false → badT b t = none) := badT_fine
  generalize badT b t = R at *
  obtain ⟨vd, vtb, rfl, h1, h2⟩ := h
  obtain ⟨vi, vr, rfl, hi, hr⟩ := ht
  obtain ⟨A, c, rfl, hc1, hc2, -⟩ := h1
  obtain ⟨B, d, rfl, hd1, hd2, -⟩ := h2
  obtain ⟨Ai, ci, rfl, hi1, hi2, -⟩ := hi
  obtain ⟨Ar, cr, rfl, hr1, hr2, -⟩ := hr
  have hb0 := below_alloc1 w (.cells #[.slice A b.doms.length c, .slice B b.tabs.length d] 25)
  have C0 := Lib.hid (Cs.new w [.slice A b.doms.length c, .slice B b.tabs.length d] 25)
  have hz0 : (w.alloc (.cells #[.slice A b.doms.length c, .slice B b.tabs.length d] 25)).heap.size = w.heap.size + 1 := by simp
  change Hid (Cs (w.alloc (.cells #[.slice A b.doms.length c, .slice B b.tabs.length d] 25)) _ _) at C0
  generalize hw0 : w.alloc (.cells #[.slice A b.doms.length c, .slice B b.tabs.length d] 25) = w0 at *
  have hb1 := below_alloc1 w0 (.cells #[.string t.name, .int .i64 t.pol, .bool t.comp, .slice Ai t.ins.length ci, .slice Ar t.rules.length cr] 59)
  have C1 := Lib.hid (Cs.new w0 [.string t.name, .int .i64 t.pol, .bool t.comp, .slice Ai t.ins.length ci, .slice Ar t.rules.length cr] 59)
  change Hid (Cs (w0.alloc (.cells #[.string t.name, .int .i64 t.pol, .bool t.comp, .slice Ai t.ins.length ci, .slice Ar t.rules.length cr] 59)) _ _) at C1
  rw [hz0] at C1
  have C01 := Lib.hid (C0.out.next hb1)
  have hb01 := bx hb0 hb1
  generalize hw1 : w0.alloc (.cells #[.string t.name, .int .i64 t.pol, .bool t.comp, .slice Ai t.ins.length ci, .slice Ar t.rules.length cr] 59) = w1 at *
  have k0 := C01.out.at 0 rfl
  have k1 := C01.out.at 1 rfl
  have q0 := C1.out.at 0 rfl
  have q1 := C1.out.at 1 rfl
  have q2 := C1.out.at 2 rfl
  have q3 := C1.out.at 3 rfl
  have q4 := C1.out.at 4 rfl
  have HB1 := Lib.hid (HB.out.onOld hb01)
  have HT1 := Lib.hid (HT.out.onOld hb01)
  go_enter Tryz.func26, Tryz.ntmps26
  go_wp2_with fail
  clear hw0 hw1
  refine (book_Box b t _ _ _ HB1.out HT1.out HS.out HL.out).mono ?_
  rintro e w2 ⟨v2, rfl, hn2, hb2⟩
  have hbv := HBV.out
  rw [hbv] at hn2 ⊢
  simp only at hn2 ⊢
  have HA2 := Lib.hid (hn2.more (fun _ h => h.2) : Sl Enc.rng.slice w2 (Old w2) (boxL b t.ins) v2)
  obtain ⟨A2, c2, rfl, -, -⟩ := hn2.form
  have hb02 := bx hb01 hb2
  have C2 := Lib.hid (C1.out.next hb2)
  have HT2 := Lib.hid (HT1.out.onOld hb2)
  have r0 := C2.out.at 0 rfl
  have r1 := C2.out.at 1 rfl
  have r2 := C2.out.at 2 rfl
  have r3 := C2.out.at 3 rfl
  have r4 := C2.out.at 4 rfl
  clear hbv hn2 k0 k1 q0 q1 q2 q3 q4 C01 HBV
  go_wp2_with fail
  refine (table_Clash t (boxL b t.ins) _ _ _ HT2.out HA2.out HST.out).mono ?_
  rintro e w3 ⟨v3, rfl, hn3, hb3⟩
  have HN3 := Lib.hid hn3
  obtain ⟨A3, c3, rfl, -, -⟩ := hn3.form
  clear hn3
  have hb03 := bx hb02 hb3
  have C3 := Lib.hid (C2.out.next hb3)
  have HT3 := Lib.hid (HT2.out.onOld hb3)
  have HA3 := Lib.hid (HA2.out.onOld hb3)
  have s0 := C3.out.at 0 rfl
  have s1 := C3.out.at 1 rfl
  have s2 := C3.out.at 2 rfl
  have s3 := C3.out.at 3 rfl
  have s4 := C3.out.at 4 rfl
  clear r0 r1 r2 r3 r4
  cases hcl : (clashV t (boxL b t.ins)).2
  · cases hcm : t.comp
    · have HR : Hid (R = none) := H2.out hcl hcm
      rw [hcm] at s2
      clear hcl
      go_wp2
      go_ret2
      rw [HR.out]
      exact ⟨_, rfl, Sl.nil, hb03⟩
    · have HCM := Lib.hid hcm
      have HCL := Lib.hid hcl
      have s2' := s2
      rw [hcm] at s2'
      clear s2 hcl hcm
      have hTv : TabAt w3 (Old w3) t (.agg #[.string t.name, .int .i64 t.pol, .bool true, .slice Ai t.ins.length ci, .slice Ar t.rules.length cr]) := by have := HT3.out; rw [HCM.out] at this; exact this
      have HTV := Lib.hid hTv
      clear hTv
      go_wp2_with fail
      refine (table_Gap t (boxL b t.ins) _ _ _ HTV.out HA3.out HST.out).mono ?_
      rintro e w4 ⟨v4, rfl, hn4, hb4⟩
      have HN4 := Lib.hid hn4
      obtain ⟨A4, c4, rfl, -, -⟩ := hn4.form
      clear hn4
      have hb04 := bx hb03 hb4
      cases hgp : (gapV t (boxL b t.ins)).2
      · have HR : Hid (R = none) := H4.out HCL.out hgp
        clear hgp
        go_wp2
        go_ret2
        rw [HR.out]
        exact ⟨_, rfl, Sl.nil, hb04⟩
      · have HR : Hid (R = some ((gapV t (boxL b t.ins)).1, 7)) := H3.out HCL.out HCM.out hgp
        clear hgp
        go_wp2
        go_ret2
        rw [HR.out]
        exact ⟨_, rfl, HN4.out.more (fun k hk => ⟨Nat.le_trans hb03.size hk.1, hk.2⟩), hb04⟩
  · have HR : Hid (R = some ((clashV t (boxL b t.ins)).1, 8)) := H1.out hcl
    clear hcl
    go_wp2
    go_ret2
    rw [HR.out]
    exact ⟨_, rfl, HN3.out.more (fun k hk => ⟨Nat.le_trans hb02.size hk.1, hk.2⟩), hb03⟩

end Go.Proofs.YtmdljknlbmlacabGreatDoor
namespace Go.Proofs.YtmdljknlbmlacabGreatDoor
open Go.RowKit

theorem check_full {b : BookD} (h : 4 < b.doms.length ∨ 4 < b.tabs.length) : checkV b = (noS, [], 11) := by unfold checkV; rw [if_pos h]
theorem check_form {b : BookD} (h0 : ¬ (4 < b.doms.length ∨ 4 < b.tabs.length)) (h : goodDs b.doms = false ∨ goodTs b = false) : checkV b = (noS, [], 1) := by unfold checkV; rw [if_neg h0, if_pos h]
theorem check_rest {b : BookD} (h0 : ¬ (4 < b.doms.length ∨ 4 < b.tabs.length)) (h1 : goodDs b.doms = true) (h2 : goodTs b = true) : checkV b = match b.tabs.find? (fun t => !boxOk b t.ins) with
    | some t => (t.name, [], 3)
    | none => match orderO b.tabs with
      | none => (noS, [], 6)
      | some _ => match b.tabs.find? (fun t => (badT b t).isSome) with
        | some t => (t.name, (badT b t).getD ([], 0))
        | none => (noS, [], 0) := by
  unfold checkV; rw [if_neg h0, if_neg (by rw [h1, h2]; simp)]; rfl
def CheckPost (R : ByteArray × List Int × Int) (w : World) (e : Ending) (w' : World) : Prop := ∃ v, e = .returned (.tuple #[.string R.1, v, .int .i64 R.2.2]) ∧ Sl Enc.int w' (From w.heap.size w') R.2.1 v ∧ Below w.heap.size w w'
theorem CheckPost.plain {R : ByteArray × List Int × Int} {w w' : World} {s : ByteArray} {c : Int} (h : R = (s, [], c)) (hb : Below w.heap.size w w') : CheckPost R w (.returned (.tuple #[.string s, .slice none 0 0, .int .i64 c])) w' := by
  subst h; exact ⟨_, rfl, Sl.nil, hb⟩

set_option maxHeartbeats 2000000 in
theorem book_Check (b : BookD) (v : Value) (w : World) (h : BookAt w (Old w) b v) (hs : smallB b) :
    Calls Tryz.prog 7 #[v] w (CheckPost (checkV b) w) := by
  have HS := Lib.hid hs
  have HB := Lib.hid h
  have HX1 : Hid ((4 < b.doms.length ∨ 4 < b.tabs.length) → checkV b = (noS, [], 11)) := check_full
  have HX2 : Hid (¬ (4 < b.doms.length ∨ 4 < b.tabs.length) → (goodDs b.doms = false ∨ goodTs b = false) → checkV b = (noS, [], 1)) := check_form
  have HX3 := Lib.hid (@check_rest b)
  clear hs
  generalize checkV b = R at *
  obtain ⟨vd, vt, rfl, h1, h2⟩ := h
  have HD := Lib.hid h1
  have HTS := Lib.hid h2
  obtain ⟨A, c, rfl, hc1, hc2, -⟩ := h1
  obtain ⟨B, d, rfl, hd1, hd2, -⟩ := h2
  unfold maxLen at hc2 hd2
  have hb0 := below_alloc1 w (.cells #[.slice A b.doms.length c, .slice B b.tabs.length d] 25)
  have C0 := Lib.hid (Cs.new w [.slice A b.doms.length c, .slice B b.tabs.length d] 25)
  change Hid (Cs (w.alloc (.cells #[.slice A b.doms.length c, .slice B b.tabs.length d] 25)) _ _) at C0
  generalize hw0 : w.alloc (.cells #[.slice A b.doms.length c, .slice B b.tabs.length d] 25) = w0 at *
  have k0 := C0.out.at 0 rfl
  have k1 := C0.out.at 1 rfl
  by_cases hd4 : 4 < b.doms.length
  · have HR := Lib.hid (HX1.out (.inl hd4))
    have hd4' : (4 : Int) < b.doms.length := by omega
    go_enter Tryz.func7, Tryz.ntmps7
    go_wp2
    go_ret3
    exact CheckPost.plain HR.out hb0
  have hd4' : (b.doms.length : Int) ≤ 4 := by omega
  by_cases ht4 : 4 < b.tabs.length
  · have HR := Lib.hid (HX1.out (.inr ht4))
    have ht4' : (4 : Int) < b.tabs.length := by omega
    go_enter Tryz.func7, Tryz.ntmps7
    go_wp2
    go_ret3
    exact CheckPost.plain HR.out hb0
  have ht4' : (b.tabs.length : Int) ≤ 4 := by omega
  have HFU : Hid (¬ (4 < b.doms.length ∨ 4 < b.tabs.length)) := by rintro (h | h) <;> omega
  clear HX1
  go_enter Tryz.func7, Tryz.ntmps7
  go_wp2_with fail
  clear hw0
  refine (book_goodDomains b.doms _ _ (HD.out.onOld hb0) HS.out.1).mono ?_
  rintro e w1 ⟨rfl, hb1⟩
  have hb01 := bx hb0 hb1
  have C1 := Lib.hid (C0.out.next hb1)
  have HB1 := Lib.hid (HB.out.onOld hb01)
  clear k0 k1
  have k0 := C1.out.at 0 rfl
  have k1 := C1.out.at 1 rfl
  cases hgd : goodDs b.doms
  · have HR := Lib.hid (HX2.out HFU.out (.inl hgd))
    clear hgd
    go_wp2
    go_ret3
    exact CheckPost.plain HR.out hb01
  have HGD := Lib.hid hgd
  clear hgd
  go_wp2_with fail
  refine (book_goodTables b _ _ HB1.out HS.out).mono ?_
  rintro e w2 ⟨rfl, hb2⟩
  have hb02 := bx hb01 hb2
  have C2 := Lib.hid (C1.out.next hb2)
  have HB2 := Lib.hid (HB1.out.onOld hb2)
  clear k0 k1
  have k1 := C2.out.at 1 rfl
  cases hgt : goodTs b
  · have HR := Lib.hid (HX2.out HFU.out (.inr hgt))
    clear hgt
    go_wp2
    go_ret3
    exact CheckPost.plain HR.out hb02
  have HGT := Lib.hid hgt
  have HX := Lib.hid (HX3.out HFU.out HGD.out hgt)
  have HIL : Hid (∀ t, t ∈ b.tabs → t.ins.length ≤ 3) := fun t ht => (goodIns_iff.1 (goodT_iff.1 (good_tab hgt ht)).2.2.2.1).2.1
  clear hgt HX2 HX3
  go_wp2
  go_loopw [37] (fun i wr => ∃ k : Nat, k ≤ b.tabs.length ∧ i = .int .i64 k ∧ Hid ((b.tabs.take k).find? (fun t => !boxOk b t.ins) = none) ∧ Hid (Cs wr w.heap.size [.slice A b.doms.length c, .slice B b.tabs.length d]) ∧ Below w.heap.size w wr) (fun i _ => b.tabs.length - (intOf i).toNat)
  case atStart => exact ⟨0, Nat.zero_le _, rfl, rfl, C2, hb02⟩
  case round =>
    clear k1 hb0 hb01 hb02 hb1 hb2 C0 C1 C2 HB1 HB2
    obtain ⟨k, hk, rfl, hf, CB, hb⟩ := hrel
    by_cases hlt : k < b.tabs.length
    · obtain ⟨bb, o, nm, pol, comp, ins, rules, vi, vr, rfl, hSb, hx, c1, c2, c3, c4, c5, hi, hr⟩ := (HTS.out.onOld hb).tab_at hlt
      have HT0 : Hid (TabAt wr (Old wr) ⟨nm, pol, comp, ins, rules⟩ (.agg #[.string nm, .int .i64 pol, .bool comp, vi, vr])) := ⟨_, _, rfl, hi, hr⟩
      obtain ⟨Ai, ci, rfl, -, -⟩ := hi.form
      obtain ⟨Ar, cr, rfl, -, -⟩ := hr.form
      clear hi hr
      have hbz := below_alloc1 wr (.cells #[.string nm, .int .i64 pol, .bool comp, .slice Ai ins.length ci, .slice Ar rules.length cr] 59)
      have hb2 := bx hb hbz
      have CN := Lib.hid (Cs.new wr [.string nm, .int .i64 pol, .bool comp, .slice Ai ins.length ci, .slice Ar rules.length cr] 59)
      change Hid (Cs (wr.alloc (.cells #[.string nm, .int .i64 pol, .bool comp, .slice Ai ins.length ci, .slice Ar rules.length cr] 59)) _ _) at CN
      have CBa := Lib.hid (CB.out.next hbz)
      have q0 := CN.out.at 0 rfl
      have q1 := CN.out.at 1 rfl
      have q2 := CN.out.at 2 rfl
      have q3 := CN.out.at 3 rfl
      have q4 := CN.out.at 4 rfl
      have k0 := CBa.out.at 0 rfl
      have k1 := CBa.out.at 1 rfl
      have HBa := Lib.hid (HB.out.onOld hb2)
      have HTa := Lib.hid (HT0.out.onOld hbz)
      have HIN : Hid (ins.length ≤ 3) := HIL.out _ (List.mem_of_getElem? hx.out)
      generalize hwa : wr.alloc (.cells #[.string nm, .int .i64 pol, .bool comp, .slice Ai ins.length ci, .slice Ar rules.length cr] 59) = wa at *
      go_wp2_with fail
      clear hwa
      refine (book_Box b ⟨nm, pol, comp, ins, rules⟩ _ _ _ HBa.out HTa.out HS.out HIN.out).mono ?_
      rintro e w3 ⟨v3, rfl, hn3, hb3⟩
      obtain ⟨A3, c3', rfl, -, -⟩ := hn3.form
      have hb03 := bx hb2 hb3
      have CN3 := Lib.hid (CN.out.next hb3)
      have CB3 := Lib.hid (CBa.out.next hb3)
      have r0 := CN3.out.at 0 rfl
      have HBV : Hid ((boxV b ⟨nm, pol, comp, ins, rules⟩).2 = boxOk b ins) := by show (boxV b ⟨nm, pol, comp, ins, rules⟩).2 = _; unfold boxV; cases boxOk b ins <;> rfl
      clear hn3 q0 q1 q2 q3 q4 k0 k1
      rw [HBV.out]
      cases hok : boxOk b ins
      · have HR : Hid (R = (nm, [], 3)) := by
          show R = _
          rw [HX.out, find_at (p := fun t : TabD => !boxOk b t.ins) hf.out hx.out (by simp [hok])]
        clear hok
        go_wp2
        go_ret3
        exact CheckPost.plain HR.out hb03
      · have HN := Lib.hid (find_more (p := fun t : TabD => !boxOk b t.ins) hf.out hx.out (by simp [hok]))
        clear hok
        go_wp2
        exact ⟨⟨k + 1, by omega, by go_num, HN, CB3, hb03⟩, by simp [intOf]; omega⟩
    · have e : b.tabs.take k = b.tabs := List.take_of_length_le (by omega)
      have hf' := hf.out
      rw [e] at hf'
      have HX4 := HX.out
      rw [hf'] at HX4
      simp only at HX4
      have HX5 := Lib.hid HX4
      have HBO : Hid (∀ t, t ∈ b.tabs → boxOk b t.ins = true) := fun t ht => by simpa using List.find?_eq_none.1 hf' t ht
      clear HX hf' HX4 hf e
      have HBa := Lib.hid (HB.out.onOld hb)
      have k0 := CB.out.at 0 rfl
      have k1 := CB.out.at 1 rfl
      have HND := Lib.hid (good_nodup HGT.out)
      go_wp2_with fail
      refine (book_Order b _ _ HBa.out HS.out HND.out (by omega)).mono ?_
      rintro e w3 ⟨v3, rfl, hn3, hb3⟩
      obtain ⟨A3, c3', rfl, -, -⟩ := hn3.form
      have hb03 := bx hb hb3
      have CB3 := Lib.hid (CB.out.next hb3)
      clear hn3 k0 k1
      have k1 := CB3.out.at 1 rfl
      cases ho : orderO b.tabs with
      | none =>
        have HR : Hid (R = (noS, [], 6)) := by show R = _; rw [HX5.out, ho]
        clear ho
        simp only [Option.isSome_none]
        go_wp2
        go_ret3
        exact CheckPost.plain HR.out hb03
      | some ol =>
        have HX6 : Hid (R = match b.tabs.find? (fun t => (badT b t).isSome) with | some t => (t.name, (badT b t).getD ([], 0)) | none => (noS, [], 0)) := by show R = _; rw [HX5.out, ho]
        clear ho HX5
        simp only [Option.isSome_some]
        go_wp2
        go_loopw [62] (fun i wr => ∃ k : Nat, k ≤ b.tabs.length ∧ i = .int .i64 k ∧ Hid ((b.tabs.take k).find? (fun t => (badT b t).isSome) = none) ∧ Hid (Cs wr w.heap.size [.slice A b.doms.length c, .slice B b.tabs.length d]) ∧ Below w.heap.size w wr) (fun i _ => b.tabs.length - (intOf i).toNat)
        case atStart => exact ⟨0, Nat.zero_le _, rfl, rfl, CB3, hb03⟩
        case round =>
          clear k1 hb03 hb3 CB3 HBa hb CB
          rename World => wr
          obtain ⟨k, hk, rfl, hf, CB, hb⟩ := hrel
          by_cases hlt : k < b.tabs.length
          · obtain ⟨bb, o, nm, pol, comp, ins, rules, vi, vr, rfl, hSb, hx, c1, c2, c3, c4, c5, hi, hr⟩ := (HTS.out.onOld hb).tab_at hlt
            have HT0 : Hid (TabAt wr (Old wr) ⟨nm, pol, comp, ins, rules⟩ (.agg #[.string nm, .int .i64 pol, .bool comp, vi, vr])) := ⟨_, _, rfl, hi, hr⟩
            obtain ⟨Ai, ci, rfl, -, -⟩ := hi.form
            obtain ⟨Ar, cr, rfl, -, -⟩ := hr.form
            clear hi hr
            have hbz := below_alloc1 wr (.cells #[.string nm, .int .i64 pol, .bool comp, .slice Ai ins.length ci, .slice Ar rules.length cr] 59)
            have hb2 := bx hb hbz
            have CN := Lib.hid (Cs.new wr [.string nm, .int .i64 pol, .bool comp, .slice Ai ins.length ci, .slice Ar rules.length cr] 59)
            change Hid (Cs (wr.alloc (.cells #[.string nm, .int .i64 pol, .bool comp, .slice Ai ins.length ci, .slice Ar rules.length cr] 59)) _ _) at CN
            have CBa := Lib.hid (CB.out.next hbz)
            have q0 := CN.out.at 0 rfl
            have q1 := CN.out.at 1 rfl
            have q2 := CN.out.at 2 rfl
            have q3 := CN.out.at 3 rfl
            have q4 := CN.out.at 4 rfl
            have k0 := CBa.out.at 0 rfl
            have k1 := CBa.out.at 1 rfl
            have HBa := Lib.hid (HB.out.onOld hb2)
            have HTa := Lib.hid (HT0.out.onOld hbz)
            have hmem := List.mem_of_getElem? hx.out
            have HIN : Hid (ins.length ≤ 3) := HIL.out _ hmem
            have HBK : Hid (boxOk b ins = true) := HBO.out _ hmem
            have HST := Lib.hid (HS.out.2 _ hmem)
            clear hmem
            generalize hwa : wr.alloc (.cells #[.string nm, .int .i64 pol, .bool comp, .slice Ai ins.length ci, .slice Ar rules.length cr] 59) = wa at *
            go_wp2_with fail
            clear hwa
            refine (book_checkRules b ⟨nm, pol, comp, ins, rules⟩ _ _ _ HBa.out HTa.out HS.out HST.out HIN.out HBK.out).mono ?_
            rintro e w3 ⟨v3, rfl, hn3, hb3⟩
            have HN3 := Lib.hid hn3
            obtain ⟨A3, c3', rfl, -, -⟩ := hn3.form
            have hb03 := bx hb2 hb3
            have CN3 := Lib.hid (CN.out.next hb3)
            have CB3 := Lib.hid (CBa.out.next hb3)
            have r0 := CN3.out.at 0 rfl
            clear hn3 q0 q1 q2 q3 q4 k0 k1
            cases hbt : badT b ⟨nm, pol, comp, ins, rules⟩ with
            | none =>
              have HN := Lib.hid (find_more (p := fun t : TabD => (badT b t).isSome) hf.out hx.out (by simp [hbt]))
              clear hbt
              simp only [Option.getD_none]
              go_wp2
              exact ⟨⟨k + 1, by omega, by go_num, HN, CB3, hb03⟩, by simp [intOf]; omega⟩
            | some r =>
              obtain ⟨at', code⟩ := r
              have HR : Hid (R = (nm, at', code)) := by
                show R = _
                rw [HX6.out, find_at (p := fun t : TabD => (badT b t).isSome) hf.out hx.out (by simp [hbt])]
                simp [hbt]
              have HCD : code = 8 ∨ code = 7 := by
                unfold badT at hbt
                split at hbt
                · injection hbt with hbt; injection hbt with _ h; exact .inl h.symm
                · split at hbt
                  · injection hbt with hbt; injection hbt with _ h; exact .inr h.symm
                  · cases hbt
              rw [hbt] at HN3
              simp only [Option.getD_some] at HN3 ⊢
              clear hbt
              rcases HCD with rfl | rfl
              · go_wp2
                go_ret3
                rw [HR.out]
                exact ⟨_, rfl, HN3.out.more (fun k hk => ⟨Nat.le_trans hb2.size hk.1, hk.2⟩), hb03⟩
              · go_wp2
                go_ret3
                rw [HR.out]
                exact ⟨_, rfl, HN3.out.more (fun k hk => ⟨Nat.le_trans hb2.size hk.1, hk.2⟩), hb03⟩
          · have e : b.tabs.take k = b.tabs := List.take_of_length_le (by omega)
            have hf' := hf.out
            rw [e] at hf'
            have HR : Hid (R = (noS, [], 0)) := by show R = _; rw [HX6.out, hf']
            clear hf'
            go_wp2
            go_ret3
            exact CheckPost.plain HR.out hb

end Go.Proofs.YtmdljknlbmlacabGreatDoor
