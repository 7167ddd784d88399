/- The walk of TextBack: it returns true. Conditions: argument slices read as lists in old memory; texts have at most 2^47 bytes; the package variables that strconv and the policies read are as their initialisers lay them. -/
import Derived.Test.YtmdljknlbmlacabDoorKeepTexts
import Derived.Test.YtmdljknlbmlacabDoorKeepSameT
namespace Go.Proofs.YtmdljknlbmlacabDoor
open Go.RowKit Go.Shelf

theorem eqDom (nm : ByteArray) (lo hi : Int) (w : World) : (Op.equalIn 10000 27 (.agg #[.string nm, .int .i64 lo, .int .i64 hi]) (.agg #[.string nm, .int .i64 lo, .int .i64 hi])).run Tryd.prog w = .ok true w := by
  have u3 := Tryd.underlying3
  have a3 := Tryd.isAgg3
  have z3 := Tryd.sizeOf3
  have u9 := Tryd.underlying9
  have a9 := Tryd.isAgg9
  have z9 := Tryd.sizeOf9
  have hS : Tryd.prog.underlying 27 = some (.struct (Tryd.prog.fieldsOf 27)) := by kernel_rfl
  rw [show (10000 : Nat) = 9999 + 1 from rfl, run_equalIn_agg w 9999 27 _ _ hS (by kernel_rfl)]
  simp only [Program.fieldsOf, Tryd.underlying27]
  go_simp
  try simp

set_option maxRecDepth 100000 in
set_option maxHeartbeats 1000000 in
theorem law_TextBack (t : TabD) (nm : ByteArray) (lo hi : Int) (v : Value) (w : World) (hv : VarsOk w) (h : TabAt w (Old w) t v) (hs : smallT t) (hn : nm.size ≤ 140737488355328) :
    Calls Tryd.prog 3 #[v, .agg #[.string nm, .int .i64 lo, .int .i64 hi]] w fun e w' => e = .returned (.bool true) ∧ Below w.heap.size w w' := by
  have H0 := Lib.hid h
  have HS := Lib.hid hs
  obtain ⟨tn, pol, comp, ins, rules⟩ := t
  obtain ⟨vi, vr, rfl, hi', hr'⟩ := h
  simp only at hi' hr'
  obtain ⟨Ai, ci, rfl, -, -⟩ := hi'.form
  obtain ⟨Ar, cr, rfl, -, -⟩ := hr'.form
  clear hi' hr' hs
  have hwa := below_alloc1 w (.cells #[.string tn, .int .i64 pol, .bool comp, .slice Ai ins.length ci, .slice Ar rules.length cr] 25)
  have Ca := Cs.new w [.string tn, .int .i64 pol, .bool comp, .slice Ai ins.length ci, .slice Ar rules.length cr] 25
  have hza : (w.alloc (.cells #[.string tn, .int .i64 pol, .bool comp, .slice Ai ins.length ci, .slice Ar rules.length cr] 25)).heap.size = w.heap.size + 1 := by simp
  change Cs (w.alloc (.cells #[.string tn, .int .i64 pol, .bool comp, .slice Ai ins.length ci, .slice Ar rules.length cr] 25)) _ _ at Ca
  generalize hwe : w.alloc (.cells #[.string tn, .int .i64 pol, .bool comp, .slice Ai ins.length ci, .slice Ar rules.length cr] 25) = wa at *
  have hwb := below_alloc1 wa (.cells #[.string nm, .int .i64 lo, .int .i64 hi] 27)
  have Cb := Cs.new wa [.string nm, .int .i64 lo, .int .i64 hi] 27
  rw [hza] at Cb
  change Cs (wa.alloc (.cells #[.string nm, .int .i64 lo, .int .i64 hi] 27)) _ _ at Cb
  have B1 := Lib.hid (bx hwa hwb)
  have C1 := Lib.hid (Ca.next hwb)
  have D1 := Lib.hid Cb
  have HV1 := Lib.hid ((hv.next hwa).next hwb)
  have T1 := Lib.hid (H0.out.onOld B1.out)
  generalize hwf : wa.alloc (.cells #[.string nm, .int .i64 lo, .int .i64 hi] 27) = w1 at *
  have c0 := C1.out.at 0 rfl
  have c1 := C1.out.at 1 rfl
  have c2 := C1.out.at 2 rfl
  have c3 := C1.out.at 3 rfl
  have c4 := C1.out.at 4 rfl
  clear hwa hwb Ca Cb H0 hv
  go_enter Tryd.func3, Tryd.ntmps3
  go_wp2_with fail
  clear hwe hwf
  refine (text_Table _ _ _ HV1.out T1.out HS.out).mono ?_
  rintro e w2 ⟨rfl, hb2⟩
  have B2 := Lib.hid (bx B1.out hb2)
  have C2 := Lib.hid (C1.out.next hb2)
  have D2 := Lib.hid (D1.out.next hb2)
  have HV2 := Lib.hid (HV1.out.next hb2)
  have T2 := Lib.hid (T1.out.onOld hb2)
  clear c0 c1 c2 c3 c4 hb2
  cases hT : goodT ⟨tn, pol, comp, ins, rules⟩
  · rw [if_neg (by simp)]
    clear hT
    have i0 := D2.out.at 0 rfl
    have i1 := D2.out.at 1 rfl
    have i2 := D2.out.at 2 rfl
    go_wp2_with fail
    refine (text_Domain nm lo hi _ HV2.out hn).mono ?_
    rintro e w3 ⟨rfl, hb3⟩
    have HV3 := Lib.hid (HV2.out.next hb3)
    have D3 := Lib.hid (D2.out.next hb3)
    have B3 := Lib.hid (bx B2.out hb3)
    clear i0 i1 i2 hb3
    cases hG : goodD (nm, lo, hi)
    · rw [if_neg (by simp)]
      clear hG
      go_wp2_with fail
      refine (keep_texts w3 HV3.out).mono ?_
      rintro e wz ⟨rfl, hbz⟩
      go_wp2
      go_ret
      exact ⟨rfl, bx B3.out hbz⟩
    · have HG := Lib.hid hG
      rw [if_pos rfl]
      clear hG
      have hp := text_Parse' (domT (nm, lo, hi)) w3 HV3.out (by have := domT_len HG.out; omega) nm lo hi ⟨#[]⟩ 0 false [] [] false 0 (parse_dom HG.out)
      go_wp2_with fail
      refine hp.mono ?_
      rintro e w4 ⟨Ei, ei, Er, er, rfl, -, hb4⟩
      clear hp
      obtain ⟨Cx, -, Bz⟩ := lay2_ok w4 (.string nm) (.int .i64 lo) (.int .i64 hi) (.string ⟨#[]⟩) (.int .i64 0) (.bool false) (.slice Ei 0 ei) (.slice Er 0 er)
      unfold lay2 at Cx Bz
      have B5 := Lib.hid (bx B3.out (bx hb4 Bz))
      have HV5 := Lib.hid ((HV3.out.next hb4).next Bz)
      have D5 := Lib.hid ((D3.out.next hb4).next Bz)
      have g0 := Cx.at 0 rfl
      have g1 := Cx.at 1 rfl
      have g2 := Cx.at 2 rfl
      have j0 := D5.out.at 0 rfl
      have j1 := D5.out.at 1 rfl
      have j2 := D5.out.at 2 rfl
      have heq := fun w => eqDom nm lo hi w
      clear Cx Bz hb4
      go_wp2_with fail
      generalize (w4.alloc (.cells #[.string nm, .int .i64 lo, .int .i64 hi] 27)).alloc (.cells #[.string ⟨#[]⟩, .int .i64 0, .bool false, .slice Ei 0 ei, .slice Er 0 er] 25) = w5 at *
      clear heq
      refine (keep_texts w5 HV5.out).mono ?_
      rintro e wz ⟨rfl, hbz⟩
      go_wp2
      go_ret
      exact ⟨rfl, bx B5.out hbz⟩
  · have HT := Lib.hid hT
    rw [if_pos rfl]
    clear hT
    have hp := text_Parse' (tabTx ⟨tn, pol, comp, ins, rules⟩) w2 HV2.out (by have := tabTx_len HT.out; omega) ⟨#[]⟩ 0 0 tn pol comp ins rules true 0 (parse_tab HT.out)
    go_wp2_with fail
    refine hp.mono ?_
    rintro e w3 ⟨Fi, fi, Fr, fr, rfl, ht3, hb3⟩
    clear hp
    obtain ⟨-, Cy, Bz⟩ := lay2_ok w3 (.string ⟨#[]⟩) (.int .i64 0) (.int .i64 0) (.string tn) (.int .i64 pol) (.bool comp) (.slice Fi ins.length fi) (.slice Fr rules.length fr)
    unfold lay2 at Cy Bz
    have B4 := Lib.hid (bx B2.out (bx hb3 Bz))
    have HV4 := Lib.hid ((HV2.out.next hb3).next Bz)
    have C4 := Lib.hid ((C2.out.next hb3).next Bz)
    have D4 := Lib.hid ((D2.out.next hb3).next Bz)
    have T4 := Lib.hid ((T2.out.onOld hb3).onOld Bz)
    have U4 := Lib.hid ((ht3.moreS (fun _ hk => hk.2) : TabAt w3 (Old w3) ⟨tn, pol, comp, ins, rules⟩ _).onOld Bz)
    have c0 := C4.out.at 0 rfl
    have c1 := C4.out.at 1 rfl
    have c2 := C4.out.at 2 rfl
    have c3 := C4.out.at 3 rfl
    have c4 := C4.out.at 4 rfl
    have d0 := Cy.at 0 rfl
    have d1 := Cy.at 1 rfl
    have d2 := Cy.at 2 rfl
    have d3 := Cy.at 3 rfl
    have d4 := Cy.at 4 rfl
    clear Cy Bz hb3 ht3
    go_wp2_with fail
    generalize (w3.alloc (.cells #[.string ⟨#[]⟩, .int .i64 0, .int .i64 0] 27)).alloc (.cells #[.string tn, .int .i64 pol, .bool comp, .slice Fi ins.length fi, .slice Fr rules.length fr] 25) = w4 at *
    refine (keep_sameTable _ _ _ _ T4.out U4.out).mono ?_
    rintro e w5 ⟨rfl, hb5⟩
    have B5 := Lib.hid (bx B4.out hb5)
    have D5 := Lib.hid (D4.out.next hb5)
    have HV5 := Lib.hid (HV4.out.next hb5)
    clear c0 c1 c2 c3 c4 d0 d1 d2 d3 d4 hb5
    have i0 := D5.out.at 0 rfl
    have i1 := D5.out.at 1 rfl
    have i2 := D5.out.at 2 rfl
    go_wp2_with fail
    refine (text_Domain nm lo hi _ HV5.out hn).mono ?_
    rintro e w6 ⟨rfl, hb6⟩
    have HV6 := Lib.hid (HV5.out.next hb6)
    have D6 := Lib.hid (D5.out.next hb6)
    have B6 := Lib.hid (bx B5.out hb6)
    clear i0 i1 i2 hb6
    cases hG : goodD (nm, lo, hi)
    · rw [if_neg (by simp)]
      clear hG
      go_wp2_with fail
      refine (keep_texts w6 HV6.out).mono ?_
      rintro e wz ⟨rfl, hbz⟩
      go_wp2
      go_ret
      exact ⟨rfl, bx B6.out hbz⟩
    · have HG := Lib.hid hG
      rw [if_pos rfl]
      clear hG
      have hp := text_Parse' (domT (nm, lo, hi)) w6 HV6.out (by have := domT_len HG.out; omega) nm lo hi ⟨#[]⟩ 0 false [] [] false 0 (parse_dom HG.out)
      go_wp2_with fail
      refine hp.mono ?_
      rintro e w7 ⟨Ei, ei, Er, er, rfl, -, hb7⟩
      clear hp
      obtain ⟨Cx, -, Bz⟩ := lay2_ok w7 (.string nm) (.int .i64 lo) (.int .i64 hi) (.string ⟨#[]⟩) (.int .i64 0) (.bool false) (.slice Ei 0 ei) (.slice Er 0 er)
      unfold lay2 at Cx Bz
      have B8 := Lib.hid (bx B6.out (bx hb7 Bz))
      have HV8 := Lib.hid ((HV6.out.next hb7).next Bz)
      have D8 := Lib.hid ((D6.out.next hb7).next Bz)
      have g0 := Cx.at 0 rfl
      have g1 := Cx.at 1 rfl
      have g2 := Cx.at 2 rfl
      have j0 := D8.out.at 0 rfl
      have j1 := D8.out.at 1 rfl
      have j2 := D8.out.at 2 rfl
      have heq := fun w => eqDom nm lo hi w
      clear Cx Bz hb7
      go_wp2_with fail
      generalize (w7.alloc (.cells #[.string nm, .int .i64 lo, .int .i64 hi] 27)).alloc (.cells #[.string ⟨#[]⟩, .int .i64 0, .bool false, .slice Ei 0 ei, .slice Er 0 er] 25) = w8 at *
      clear heq
      refine (keep_texts w8 HV8.out).mono ?_
      rintro e wz ⟨rfl, hbz⟩
      go_wp2
      go_ret
      exact ⟨rfl, bx B8.out hbz⟩

end Go.Proofs.YtmdljknlbmlacabDoor
