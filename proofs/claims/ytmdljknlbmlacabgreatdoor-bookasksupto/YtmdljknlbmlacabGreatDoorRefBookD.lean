/- ratebookref.CheckBook, as a Lean function of what its argument reads as. Conditions: the book reads as lists in old memory; names and lists fit into 2^47 bytes. -/
import Derived.Test.YtmdljknlbmlacabGreatDoorRefBookC
import Derived.Test.YtmdljknlbmlacabGreatDoorBookJ
import Derived.Test.YtmdljknlbmlacabGreatDoorRefGaps
namespace Go.Proofs.YtmdljknlbmlacabGreatDoor
open Go.RowKit

def lastF {α : Type} (f : α → ByteArray) (l : List α) : ByteArray := (l.getLast?.map f).getD noS
theorem lastF_next {α : Type} {f : α → ByteArray} {l : List α} {k : Nat} {x : α} (h : l[k]? = some x) : lastF f (l.take (k + 1)) = f x := by
  unfold lastF; rw [take_at h]; simp
theorem leS_no {s : ByteArray} (h : nameB s = true) : leS s noS = false := by
  rw [leS_false]
  unfold nameB at h
  simp only [Bool.and_eq_true, decide_eq_true_eq] at h
  have e : noS.toList = [] := by rw [ByteArray.toList_eq]; rfl
  rw [e]
  cases hs : s.toList with
  | nil =>
    have : s = noS := sameS_eq.1 (by unfold sameS; rw [hs, e]; rfl)
    rw [this] at h
    exact absurd h.1.1 (by decide)
  | cons a l => rfl
theorem rise_last {α : Type} {f : α → ByteArray} {l : List α} {k : Nat} {x : α} (h : l[k]? = some x) (hn : nameB (f x) = true) : riseF f (l.take (k + 1)) = (riseF f (l.take k) && !leS (f x) (lastF f (l.take k))) := by
  cases k with
  | zero =>
    rw [take_at h]
    show riseF f [x] = (true && !leS (f x) noS)
    rw [leS_no hn]; rfl
  | succ j =>
    have hj : j < l.length := by have := (List.getElem?_eq_some_iff.1 h).1; omega
    have h' : l[j]? = some l[j] := List.getElem?_eq_getElem hj
    rw [rise_next h h', lastF_next h']
theorem goodDs_last {l : List DomD} {k : Nat} {d : DomD} (h : l[k]? = some d) (hg : goodDs (l.take k) = true) (hd : goodD d = true) : goodDs (l.take (k + 1)) = !leS d.1 (lastF (·.1) (l.take k)) := by
  unfold goodDs at *
  rw [Bool.and_eq_true] at hg
  rw [rise_last (f := fun d : DomD => d.1) h (goodD_iff.1 hd).1, hg.2, take_at h, List.all_append, hg.1]
  simp [hd]
theorem goodTL_last {ds : List DomD} {l : List TabD} {k : Nat} {t : TabD} (h : l[k]? = some t) (hg : goodTL ds (l.take k) = true) (hd : goodT t = true) (hf : findD ds t.name = none) : goodTL ds (l.take (k + 1)) = !leS t.name (lastF (·.name) (l.take k)) := by
  rw [goodTL_iff] at hg
  have hr := rise_last (f := fun t : TabD => t.name) h (goodT_iff.1 hd).1
  rw [hg.2.1] at hr
  cases hl : leS t.name (lastF (·.name) (l.take k))
  · rw [hl] at hr
    show _ = true
    rw [goodTL_iff]
    refine ⟨?_, hr, ?_⟩
    · intro u hu
      rw [take_at h] at hu
      rcases List.mem_append.1 hu with hu | hu
      · exact hg.1 u hu
      · rw [List.mem_singleton] at hu; subst hu; exact hd
    · intro u hu
      rw [take_at h] at hu
      rcases List.mem_append.1 hu with hu | hu
      · exact hg.2.2 u hu
      · rw [List.mem_singleton] at hu; subst hu; exact hf
  · rw [hl] at hr
    cases hh : goodTL ds (l.take (k + 1))
    · rfl
    · have := (goodTL_iff.1 hh).2.1
      rw [hr] at this; cases this

set_option maxRecDepth 100000 in
set_option maxHeartbeats 4000000 in
theorem ref_CheckBook (b : BookD) (v : Value) (w : World) (h : BookAt w (Old w) b v) (hs : smallB b) (hii : ∀ t, t ∈ b.tabs → t.ins.length * 16 ≤ 140737488355328) :
    Calls Tryz.prog 8 #[v] w (CheckPost (checkV b) w) := by
  have HII := Lib.hid hii
  clear hii
  have HS := Lib.hid hs
  have HB := Lib.hid h
  have HX1 : Hid ((4 < b.doms.length ∨ 4 < b.tabs.length) → checkV b = (noS, [], 11)) := check_full
  have HX2 : Hid (¬ (4 < b.doms.length ∨ 4 < b.tabs.length) → (goodDs b.doms = false ∨ goodTs b = false) → checkV b = (noS, [], 1)) := check_form
  have HX3 := Lib.hid (@check_rest b)
  clear hs
  generalize checkV b = R at *
  obtain ⟨vd, vt, rfl, h1, h2⟩ := h
  have HD := Lib.hid h1
  have HTS := Lib.hid h2
  obtain ⟨A, c, rfl, hc1, hc2, -⟩ := h1
  obtain ⟨B, d, rfl, hd1, hd2, -⟩ := h2
  unfold maxLen at hc2 hd2
  have hb0 := below_alloc1 w (.cells #[.slice A b.doms.length c, .slice B b.tabs.length d] 25)
  have C0 := Lib.hid (Cs.new w [.slice A b.doms.length c, .slice B b.tabs.length d] 25)
  change Hid (Cs (w.alloc (.cells #[.slice A b.doms.length c, .slice B b.tabs.length d] 25)) _ _) at C0
  generalize hw0 : w.alloc (.cells #[.slice A b.doms.length c, .slice B b.tabs.length d] 25) = w0 at *
  have k0 := C0.out.at 0 rfl
  have k1 := C0.out.at 1 rfl
  by_cases hd4 : 4 < b.doms.length
  · have HR := Lib.hid (HX1.out (.inl hd4))
    have hd4' : (4 : Int) < b.doms.length := by omega
    go_enter Tryz.func8, Tryz.ntmps8
    go_wp2
    go_ret3
    exact CheckPost.plain HR.out hb0
  have hd4' : (b.doms.length : Int) ≤ 4 := by omega
  by_cases ht4 : 4 < b.tabs.length
  · have HR := Lib.hid (HX1.out (.inr ht4))
    have ht4' : (4 : Int) < b.tabs.length := by omega
    go_enter Tryz.func8, Tryz.ntmps8
    go_wp2
    go_ret3
    exact CheckPost.plain HR.out hb0
  have ht4' : (b.tabs.length : Int) ≤ 4 := by omega
  have HFU : Hid (¬ (4 < b.doms.length ∨ 4 < b.tabs.length)) := by rintro (h | h) <;> omega
  clear HX1
  go_enter Tryz.func8, Tryz.ntmps8
  go_wp2
  clear hw0
  go_loopw [5, 39] (fun u i wr => ∃ k : Nat, k ≤ b.doms.length ∧ i = .int .i64 k ∧ u = .string (lastF (·.1) (b.doms.take k)) ∧ Hid (goodDs (b.doms.take k) = true) ∧ Hid (Cs wr w.heap.size [.slice A b.doms.length c, .slice B b.tabs.length d]) ∧ Below w.heap.size w wr) (fun _ i _ => b.doms.length - (intOf i).toNat)
  case atStart => exact ⟨0, Nat.zero_le _, rfl, rfl, rfl, C0, hb0⟩
  case round =>
    clear k0 k1 hb0 C0
    obtain ⟨k, hk, rfl, rfl, hf, CB, hb⟩ := hrel
    by_cases hlt : k < b.doms.length
    · obtain ⟨bb, o, nm, lo, hi, rfl, hSb, hx, c1, c2, c3⟩ := (HD.out.onOld hb).dom_at hlt
      have hbz := below_alloc1 wr (.cells #[.string nm, .int .i64 lo, .int .i64 hi] 69)
      have hb2 := bx hb hbz
      have CN := Lib.hid (Cs.new wr [.string nm, .int .i64 lo, .int .i64 hi] 69)
      change Hid (Cs (wr.alloc (.cells #[.string nm, .int .i64 lo, .int .i64 hi] 69)) _ _) at CN
      have CBa := Lib.hid (CB.out.next hbz)
      have q0 := CN.out.at 0 rfl
      have q1 := CN.out.at 1 rfl
      have q2 := CN.out.at 2 rfl
      have HNS : Hid (nm.size ≤ 140737488355328) := HS.out.1 _ (List.mem_of_getElem? hx.out)
      have HLN := Lib.hid (lastF_next (f := fun d : DomD => d.1) hx.out)
      have HGL := Lib.hid (fun hd : goodD (nm, lo, hi) = true => goodDs_last hx.out hf.out hd)
      generalize hwa : wr.alloc (.cells #[.string nm, .int .i64 lo, .int .i64 hi] 69) = wa at *
      generalize lastF (fun d : DomD => d.1) (b.doms.take k) = ln at *
      go_wp2_with fail
      clear hwa
      refine (ref_IsDomain nm lo hi _ HNS.out).mono ?_
      rintro e w3 ⟨rfl, hb3⟩
      have hb03 := bx hb2 hb3
      have CN3 := Lib.hid (CN.out.next hb3)
      have CB3 := Lib.hid (CBa.out.next hb3)
      clear q0 q1 q2
      have q0 := CN3.out.at 0 rfl
      cases hg : goodD (nm, lo, hi)
      · have HR := Lib.hid (HX2.out HFU.out (.inl (goodDs_bad hx.out hg)))
        clear hg
        go_wp2
        go_ret3
        exact CheckPost.plain HR.out hb03
      · have HG2 := Lib.hid (HGL.out hg)
        clear hg
        cases hle : leS nm ln
        · have hle' : (Op.bytesLess nm.toList ln.toList || nm.toList == ln.toList) = false := hle
          have HM : Hid (goodDs (b.doms.take (k + 1)) = true) := by show _ = _; rw [HG2.out]; simp [hle]
          clear hle
          go_wp2
          exact ⟨⟨k + 1, by omega, by go_num, by rw [HLN.out], HM, CB3, hb03⟩, by simp [intOf]; omega⟩
        · have hle' : (Op.bytesLess nm.toList ln.toList || nm.toList == ln.toList) = true := hle
          have HR := Lib.hid (HX2.out HFU.out (.inl (goodDs_no (k := k + 1) (by rw [HG2.out]; simp [hle]))))
          clear hle
          go_wp2
          go_ret3
          exact CheckPost.plain HR.out hb03
    · generalize lastF (fun d : DomD => d.1) (b.doms.take k) = lz at *
      have HGD : Hid (goodDs b.doms = true) := by
        have := hf.out
        rw [List.take_of_length_le (by omega)] at this
        exact this
      clear hf
      have k1 := CB.out.at 1 rfl
      have HTL : Hid (goodTL b.doms b.tabs = goodTs b) := rfl
      go_wp2
      go_loopw [5, 58] (fun u i wr => ∃ k : Nat, k ≤ b.tabs.length ∧ i = .int .i64 k ∧ u = .string (lastF (·.name) (b.tabs.take k)) ∧ Hid (goodTL b.doms (b.tabs.take k) = true) ∧ Hid (Cs wr w.heap.size [.slice A b.doms.length c, .slice B b.tabs.length d]) ∧ Below w.heap.size w wr) (fun _ i _ => b.tabs.length - (intOf i).toNat)
      case atStart => exact ⟨0, Nat.zero_le _, rfl, rfl, rfl, CB, hb⟩
      case round =>
        clear k1 hb CB
        rename World => wr
        obtain ⟨k, hk, rfl, rfl, hf, CB, hb⟩ := hrel
        by_cases hlt : k < b.tabs.length
        · obtain ⟨bb, o, nm, pol, comp, ins, rules, vi, vr, rfl, hSb, hx, c1, c2, c3, c4, c5, hi, hr⟩ := (HTS.out.onOld hb).tab_at hlt
          have HT0 : Hid (TabAt wr (Old wr) ⟨nm, pol, comp, ins, rules⟩ (.agg #[.string nm, .int .i64 pol, .bool comp, vi, vr])) := ⟨_, _, rfl, hi, hr⟩
          obtain ⟨Ai, ci, rfl, -, -⟩ := hi.form
          obtain ⟨Ar, cr, rfl, -, -⟩ := hr.form
          clear hi hr
          have hbz := below_alloc1 wr (.cells #[.string nm, .int .i64 pol, .bool comp, .slice Ai ins.length ci, .slice Ar rules.length cr] 59)
          have hb2 := bx hb hbz
          have CN := Lib.hid (Cs.new wr [.string nm, .int .i64 pol, .bool comp, .slice Ai ins.length ci, .slice Ar rules.length cr] 59)
          change Hid (Cs (wr.alloc (.cells #[.string nm, .int .i64 pol, .bool comp, .slice Ai ins.length ci, .slice Ar rules.length cr] 59)) _ _) at CN
          have CBa := Lib.hid (CB.out.next hbz)
          have q0 := CN.out.at 0 rfl
          have q1 := CN.out.at 1 rfl
          have q2 := CN.out.at 2 rfl
          have q3 := CN.out.at 3 rfl
          have q4 := CN.out.at 4 rfl
          have k0 := CBa.out.at 0 rfl
          have k1 := CBa.out.at 1 rfl
          have HBa := Lib.hid (HB.out.onOld hb2)
          have HTa := Lib.hid (HT0.out.onOld hbz)
          have hmem := List.mem_of_getElem? hx.out
          have HST := Lib.hid (HS.out.2 _ hmem)
          have HSI : Hid (ins.length * 16 ≤ 140737488355328) := HII.out _ hmem
          have HLN := Lib.hid (lastF_next (f := fun t : TabD => t.name) hx.out)
          have HGL := Lib.hid (fun (hd : goodT ⟨nm, pol, comp, ins, rules⟩ = true) hfd => goodTL_last hx.out hf.out hd hfd)
          generalize hwa : wr.alloc (.cells #[.string nm, .int .i64 pol, .bool comp, .slice Ai ins.length ci, .slice Ar rules.length cr] 59) = wa at *
          generalize lastF (fun t : TabD => t.name) (b.tabs.take k) = ln at *
          go_wp2_with fail
          clear hwa
          refine (ref_domainOf b nm _ _ HBa.out).mono ?_
          rintro e w3 ⟨rfl, hb3⟩
          obtain ⟨⟨dn, dl, dh⟩, hdd⟩ : ∃ dd, dd = (findD b.doms nm).getD zeroD := ⟨_, rfl⟩
          rw [← hdd]
          clear hdd
          simp only [domV]
          have hbt := below_alloc1 w3 (.cells #[.string dn, .int .i64 dl, .int .i64 dh] 69)
          have hbat := bx hb3 hbt
          have hb0t := bx hb2 hbat
          have CNt := Lib.hid (CN.out.next hbat)
          have CBt := Lib.hid (CBa.out.next hbat)
          have HTt := Lib.hid (HTa.out.onOld hbat)
          clear q0 q1 q2 q3 q4 k0 k1
          have q0 := CNt.out.at 0 rfl
          have q1 := CNt.out.at 1 rfl
          have q2 := CNt.out.at 2 rfl
          have q3 := CNt.out.at 3 rfl
          have q4 := CNt.out.at 4 rfl
          generalize hwt : w3.alloc (.cells #[.string dn, .int .i64 dl, .int .i64 dh] 69) = wt at *
          go_wp2_with fail
          clear hwt
          refine (ref_IsTable ⟨nm, pol, comp, ins, rules⟩ _ _ HTt.out HST.out HSI.out).mono ?_
          rintro e w5 ⟨rfl, hb5⟩
          have hb05 := bx hb0t hb5
          have CN5 := Lib.hid (CNt.out.next hb5)
          have CB5 := Lib.hid (CBt.out.next hb5)
          clear q0 q1 q2 q3 q4
          have q0 := CN5.out.at 0 rfl
          cases hg : goodT ⟨nm, pol, comp, ins, rules⟩
          · have HR := Lib.hid (HX2.out HFU.out (.inr (by rw [← HTL.out]; exact goodTL_bad hx.out hg)))
            clear hg
            go_wp2
            go_ret3
            exact CheckPost.plain HR.out hb05
          · cases hfd : findD b.doms nm with
            | some dd =>
              have HR := Lib.hid (HX2.out HFU.out (.inr (by rw [← HTL.out]; exact goodTL_taken hx.out hfd)))
              clear hfd hg
              simp only [Option.isSome_some]
              go_wp2
              go_ret3
              exact CheckPost.plain HR.out hb05
            | none =>
              have HG2 := Lib.hid (HGL.out hg hfd)
              clear hfd hg
              simp only [Option.isSome_none]
              cases hle : leS nm ln
              · have hle' : (Op.bytesLess nm.toList ln.toList || nm.toList == ln.toList) = false := hle
                have HM : Hid (goodTL b.doms (b.tabs.take (k + 1)) = true) := by show _ = _; rw [HG2.out]; simp [hle]
                clear hle
                go_wp2
                exact ⟨⟨k + 1, by omega, by go_num, by rw [HLN.out], HM, CB5, hb05⟩, by simp [intOf]; omega⟩
              · have hle' : (Op.bytesLess nm.toList ln.toList || nm.toList == ln.toList) = true := hle
                have HR := Lib.hid (HX2.out HFU.out (.inr (by rw [← HTL.out]; exact goodTL_no (k := k + 1) (by rw [HG2.out]; simp [hle]))))
                clear hle
                go_wp2
                go_ret3
                exact CheckPost.plain HR.out hb05
        · generalize lastF (fun t : TabD => t.name) (b.tabs.take k) = lz at *
          have hgt : goodTs b = true := by
            have := hf.out
            rw [List.take_of_length_le (by omega)] at this
            rw [← HTL.out]; exact this
          have HGT := Lib.hid hgt
          have HX := Lib.hid (HX3.out HFU.out HGD.out hgt)
          have HGA : Hid (∀ t, t ∈ b.tabs → goodT t = true) := fun t ht => good_tab hgt ht
          have HIL : Hid (∀ t, t ∈ b.tabs → t.ins.length ≤ 3) := fun t ht => (goodIns_iff.1 (goodT_iff.1 (good_tab hgt ht)).2.2.2.1).2.1
          clear hgt HX2 HX3 hf HTL
          have k1 := CB.out.at 1 rfl
          go_wp2
          go_loopw [87] (fun i wr => ∃ k : Nat, k ≤ b.tabs.length ∧ i = .int .i64 k ∧ Hid ((b.tabs.take k).find? (fun t => !boxOk b t.ins) = none) ∧ Hid (Cs wr w.heap.size [.slice A b.doms.length c, .slice B b.tabs.length d]) ∧ Below w.heap.size w wr) (fun i _ => b.tabs.length - (intOf i).toNat)
          case atStart => exact ⟨0, Nat.zero_le _, rfl, rfl, CB, hb⟩
          case round =>
            clear k1 hb CB
            rename World => wr
            obtain ⟨k, hk, rfl, hf, CB, hb⟩ := hrel
            by_cases hlt : k < b.tabs.length
            · obtain ⟨bb, o, nm, pol, comp, ins, rules, vi, vr, rfl, hSb, hx, c1, c2, c3, c4, c5, hi, hr⟩ := (HTS.out.onOld hb).tab_at hlt
              have HT0 : Hid (TabAt wr (Old wr) ⟨nm, pol, comp, ins, rules⟩ (.agg #[.string nm, .int .i64 pol, .bool comp, vi, vr])) := ⟨_, _, rfl, hi, hr⟩
              obtain ⟨Ai, ci, rfl, -, -⟩ := hi.form
              obtain ⟨Ar, cr, rfl, -, -⟩ := hr.form
              clear hi hr
              have hbz := below_alloc1 wr (.cells #[.string nm, .int .i64 pol, .bool comp, .slice Ai ins.length ci, .slice Ar rules.length cr] 59)
              have hb2 := bx hb hbz
              have CN := Lib.hid (Cs.new wr [.string nm, .int .i64 pol, .bool comp, .slice Ai ins.length ci, .slice Ar rules.length cr] 59)
              change Hid (Cs (wr.alloc (.cells #[.string nm, .int .i64 pol, .bool comp, .slice Ai ins.length ci, .slice Ar rules.length cr] 59)) _ _) at CN
              have CBa := Lib.hid (CB.out.next hbz)
              have q0 := CN.out.at 0 rfl
              have q1 := CN.out.at 1 rfl
              have q2 := CN.out.at 2 rfl
              have q3 := CN.out.at 3 rfl
              have q4 := CN.out.at 4 rfl
              have k0 := CBa.out.at 0 rfl
              have k1 := CBa.out.at 1 rfl
              have HBa := Lib.hid (HB.out.onOld hb2)
              have HTa := Lib.hid (HT0.out.onOld hbz)
              have hmem := List.mem_of_getElem? hx.out
              have HST := Lib.hid (HS.out.2 _ hmem)
              have HSI : Hid (ins.length * 16 ≤ 140737488355328) := HII.out _ hmem
              have HIN : Hid (ins.length ≤ 3) := HIL.out _ hmem
              generalize hwa : wr.alloc (.cells #[.string nm, .int .i64 pol, .bool comp, .slice Ai ins.length ci, .slice Ar rules.length cr] 59) = wa at *
              go_wp2_with fail
              clear hwa
              refine (ref_boxOf b ⟨nm, pol, comp, ins, rules⟩ _ _ _ HBa.out HTa.out HS.out HIN.out HGA.out).mono ?_
              rintro e w3 ⟨v3, rfl, hn3, hb3⟩
              obtain ⟨A3, c3', rfl, -, -⟩ := hn3.form
              have hb03 := bx hb2 hb3
              have CN3 := Lib.hid (CN.out.next hb3)
              have CB3 := Lib.hid (CBa.out.next hb3)
              have r0 := CN3.out.at 0 rfl
              have HBV : Hid ((boxV b ⟨nm, pol, comp, ins, rules⟩).2 = boxOk b ins) := by show (boxV b ⟨nm, pol, comp, ins, rules⟩).2 = _; unfold boxV; cases boxOk b ins <;> rfl
              clear hn3 q0 q1 q2 q3 q4 k0 k1
              rw [HBV.out]
              cases hok : boxOk b ins
              · have HR : Hid (R = (nm, [], 3)) := by
                  show R = _
                  rw [HX.out, find_at (p := fun t : TabD => !boxOk b t.ins) hf.out hx.out (by simp [hok])]
                clear hok
                go_wp2
                go_ret3
                exact CheckPost.plain HR.out hb03
              · have HN := Lib.hid (find_more (p := fun t : TabD => !boxOk b t.ins) hf.out hx.out (by simp [hok]))
                clear hok
                go_wp2
                exact ⟨⟨k + 1, by omega, by go_num, HN, CB3, hb03⟩, by simp [intOf]; omega⟩
            · have e : b.tabs.take k = b.tabs := List.take_of_length_le (by omega)
              have hf' := hf.out
              rw [e] at hf'
              have HX4 := HX.out
              rw [hf'] at HX4
              simp only at HX4
              have HX5 := Lib.hid HX4
              have HBO : Hid (∀ t, t ∈ b.tabs → boxOk b t.ins = true) := fun t ht => by simpa using List.find?_eq_none.1 hf' t ht
              clear HX hf' HX4 hf e
              have HBa := Lib.hid (HB.out.onOld hb)
              have k0 := CB.out.at 0 rfl
              have k1 := CB.out.at 1 rfl
              have HND := Lib.hid (good_nodup HGT.out)
              go_wp2_with fail
              refine (ref_OrderOf b _ _ HBa.out HS.out HND.out (by omega) HGA.out).mono ?_
              rintro e w3 ⟨v3, rfl, hn3, hb3⟩
              obtain ⟨A3, c3', rfl, -, -⟩ := hn3.form
              have hb03 := bx hb hb3
              have CB3 := Lib.hid (CB.out.next hb3)
              clear hn3 k0 k1
              have k1 := CB3.out.at 1 rfl
              cases ho : orderO b.tabs with
              | none =>
                have HR : Hid (R = (noS, [], 6)) := by show R = _; rw [HX5.out, ho]
                clear ho
                simp only [Option.isSome_none]
                go_wp2
                go_ret3
                exact CheckPost.plain HR.out hb03
              | some ol =>
                have HX6 : Hid (R = match b.tabs.find? (fun t => (badT b t).isSome) with | some t => (t.name, (badT b t).getD ([], 0)) | none => (noS, [], 0)) := by show R = _; rw [HX5.out, ho]; rfl
                clear ho HX5
                simp only [Option.isSome_some]
                go_wp2
                go_loopw [112] (fun i wr => ∃ k : Nat, k ≤ b.tabs.length ∧ i = .int .i64 k ∧ Hid ((b.tabs.take k).find? (fun t => (badT b t).isSome) = none) ∧ Hid (Cs wr w.heap.size [.slice A b.doms.length c, .slice B b.tabs.length d]) ∧ Below w.heap.size w wr) (fun i _ => b.tabs.length - (intOf i).toNat)
                case atStart => exact ⟨0, Nat.zero_le _, rfl, rfl, CB3, hb03⟩
                case round =>
                  clear k1 hb03 hb3 CB3 HBa hb CB
                  rename World => wr
                  obtain ⟨k, hk, rfl, hf, CB, hb⟩ := hrel
                  by_cases hlt : k < b.tabs.length
                  · obtain ⟨bb, o, nm, pol, comp, ins, rules, vi, vr, rfl, hSb, hx, c1, c2, c3, c4, c5, hi, hr⟩ := (HTS.out.onOld hb).tab_at hlt
                    have HT0 : Hid (TabAt wr (Old wr) ⟨nm, pol, comp, ins, rules⟩ (.agg #[.string nm, .int .i64 pol, .bool comp, vi, vr])) := ⟨_, _, rfl, hi, hr⟩
                    obtain ⟨Ai, ci, rfl, -, -⟩ := hi.form
                    obtain ⟨Ar, cr, rfl, -, -⟩ := hr.form
                    clear hi hr
                    have hbz := below_alloc1 wr (.cells #[.string nm, .int .i64 pol, .bool comp, .slice Ai ins.length ci, .slice Ar rules.length cr] 59)
                    have hb2 := bx hb hbz
                    have CN := Lib.hid (Cs.new wr [.string nm, .int .i64 pol, .bool comp, .slice Ai ins.length ci, .slice Ar rules.length cr] 59)
                    change Hid (Cs (wr.alloc (.cells #[.string nm, .int .i64 pol, .bool comp, .slice Ai ins.length ci, .slice Ar rules.length cr] 59)) _ _) at CN
                    have CBa := Lib.hid (CB.out.next hbz)
                    have q0 := CN.out.at 0 rfl
                    have q1 := CN.out.at 1 rfl
                    have q2 := CN.out.at 2 rfl
                    have q3 := CN.out.at 3 rfl
                    have q4 := CN.out.at 4 rfl
                    have k0 := CBa.out.at 0 rfl
                    have k1 := CBa.out.at 1 rfl
                    have HBa := Lib.hid (HB.out.onOld hb2)
                    have HTa := Lib.hid (HT0.out.onOld hbz)
                    have hmem := List.mem_of_getElem? hx.out
                    have HST := Lib.hid (HS.out.2 _ hmem)
                    have HSI : Hid (ins.length * 16 ≤ 140737488355328) := HII.out _ hmem
                    have HIN : Hid (ins.length ≤ 3) := HIL.out _ hmem
                    have HBV : Hid (boxV b ⟨nm, pol, comp, ins, rules⟩ = (boxL b ins, true)) := by show _ = _; unfold boxV; rw [if_pos (HBO.out _ hmem)]
                    have YES : Hid (∀ r, badT b ⟨nm, pol, comp, ins, rules⟩ = some r → R = (nm, r)) := fun r hr => by
                      rw [HX6.out, find_at (p := fun t : TabD => (badT b t).isSome) hf.out hx.out (by simp [hr])]
                      simp [hr]
                    have NO : Hid (badT b ⟨nm, pol, comp, ins, rules⟩ = none → (b.tabs.take (k + 1)).find? (fun t => (badT b t).isSome) = none) := fun hr => find_more (p := fun t : TabD => (badT b t).isSome) hf.out hx.out (by simp [hr])
                    clear hmem
                    generalize hwa : wr.alloc (.cells #[.string nm, .int .i64 pol, .bool comp, .slice Ai ins.length ci, .slice Ar rules.length cr] 59) = wa at *
                    go_wp2_with fail
                    clear hwa
                    refine (ref_boxOf b ⟨nm, pol, comp, ins, rules⟩ _ _ _ HBa.out HTa.out HS.out HIN.out HGA.out).mono ?_
                    rintro e w3 ⟨v3, rfl, hn3, hb3⟩
                    have hbv := HBV.out
                    rw [hbv] at hn3 ⊢
                    simp only at hn3 ⊢
                    have HA3 := Lib.hid (hn3.more (fun _ h => h.2) : Sl Enc.rng.slice w3 (Old w3) (boxL b ins) v3)
                    obtain ⟨A3, c3', rfl, -, -⟩ := hn3.form
                    have hb03 := bx hb2 hb3
                    have CN3 := Lib.hid (CN.out.next hb3)
                    have CB3 := Lib.hid (CBa.out.next hb3)
                    have HT3 := Lib.hid (HTa.out.onOld hb3)
                    clear hn3 q0 q1 q2 q3 q4 k0 k1 hbv
                    have q0 := CN3.out.at 0 rfl
                    have q1 := CN3.out.at 1 rfl
                    have q2 := CN3.out.at 2 rfl
                    have q3 := CN3.out.at 3 rfl
                    have q4 := CN3.out.at 4 rfl
                    go_wp2_with fail
                    refine (ref_ClashOf ⟨nm, pol, comp, ins, rules⟩ (boxL b ins) _ _ _ HT3.out HA3.out HST.out HSI.out).mono ?_
                    rintro e w5 ⟨v5, rfl, hn5, hb5⟩
                    have HN5 := Lib.hid hn5
                    obtain ⟨A5, c5', rfl, -, -⟩ := hn5.form
                    have hb05 := bx hb03 hb5
                    have CN5 := Lib.hid (CN3.out.next hb5)
                    have CB5 := Lib.hid (CB3.out.next hb5)
                    have HT5 := Lib.hid (HT3.out.onOld hb5)
                    have HA5 := Lib.hid (HA3.out.onOld hb5)
                    clear hn5 q0 q1 q2 q3 q4
                    have q0 := CN5.out.at 0 rfl
                    have q1 := CN5.out.at 1 rfl
                    have q2 := CN5.out.at 2 rfl
                    have q3 := CN5.out.at 3 rfl
                    have q4 := CN5.out.at 4 rfl
                    cases hcl : (clashV ⟨nm, pol, comp, ins, rules⟩ (boxL b ins)).2
                    · cases comp
                      · have HN := Lib.hid (NO.out (badT_part hcl rfl))
                        clear hcl
                        go_wp2
                        refine ⟨⟨_, _, _, _, _, _, _, _, _, _, _, _, _, _, _, _, _, _, _, _, _, _, _, _, _, _, _, _, _, _, _, _, _, _, _, _, _, _, _, _, _, _, _, _, ⟨k + 1, by omega, by go_num, HN, CB5, hb05⟩, rfl⟩, ?_⟩
                        show b.tabs.length - (intOf (Value.int IntKind.i64 ((k : Int) + 1))).toNat < b.tabs.length - (intOf (Value.int IntKind.i64 (k : Int))).toNat
                        simp [intOf]
                        omega
                      · have HCL := Lib.hid hcl
                        clear hcl
                        go_wp2_with fail
                        refine (ref_GapOf ⟨nm, pol, true, ins, rules⟩ (boxL b ins) _ _ _ HT5.out HA5.out HST.out HSI.out).mono ?_
                        rintro e w7 ⟨v7, rfl, hn7, hb7⟩
                        have HN7 := Lib.hid hn7
                        obtain ⟨A7, c7', rfl, -, -⟩ := hn7.form
                        have hb07 := bx hb05 hb7
                        have CN7 := Lib.hid (CN5.out.next hb7)
                        have CB7 := Lib.hid (CB5.out.next hb7)
                        clear hn7 q0 q1 q2 q3 q4
                        have q0 := CN7.out.at 0 rfl
                        cases hgp : (gapV ⟨nm, pol, true, ins, rules⟩ (boxL b ins)).2
                        · have HN := Lib.hid (NO.out (badT_fine HCL.out hgp))
                          clear hgp
                          go_wp2
                          refine ⟨⟨_, _, _, _, _, _, _, _, _, _, _, _, _, _, _, _, _, _, _, _, _, _, _, _, _, _, _, _, _, _, _, _, _, _, _, _, _, _, _, _, _, _, _, _, ⟨k + 1, by omega, by go_num, HN, CB7, hb07⟩, rfl⟩, ?_⟩
                          show b.tabs.length - (intOf (Value.int IntKind.i64 ((k : Int) + 1))).toNat < b.tabs.length - (intOf (Value.int IntKind.i64 (k : Int))).toNat
                          simp [intOf]
                          omega
                        · have HR := Lib.hid (YES.out _ (badT_gap HCL.out rfl hgp))
                          clear hgp
                          go_wp2
                          go_ret3
                          rw [HR.out]
                          exact ⟨_, rfl, HN7.out.more (fun k hk => ⟨Nat.le_trans hb05.size hk.1, hk.2⟩), hb07⟩
                    · have HR := Lib.hid (YES.out _ (badT_clash hcl))
                      clear hcl
                      go_wp2
                      go_ret3
                      rw [HR.out]
                      exact ⟨_, rfl, HN5.out.more (fun k hk => ⟨Nat.le_trans hb03.size hk.1, hk.2⟩), hb05⟩
                  · have e : b.tabs.take k = b.tabs := List.take_of_length_le (by omega)
                    have hf' := hf.out
                    rw [e] at hf'
                    have HR : Hid (R = (noS, [], 0)) := by show R = _; rw [HX6.out, hf']
                    clear hf'
                    go_wp2
                    go_ret3
                    exact CheckPost.plain HR.out hb

end Go.Proofs.YtmdljknlbmlacabGreatDoor
