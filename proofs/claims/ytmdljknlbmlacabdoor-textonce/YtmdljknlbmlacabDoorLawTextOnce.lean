/- The walk of TextOnce: it returns true. Conditions: the text has at most 2^47 bytes; the package variables that strconv and the policies read are as their initialisers lay them. -/
import Derived.Test.YtmdljknlbmlacabDoorLawTextBack
namespace Go.Proofs.YtmdljknlbmlacabDoor
open Go.RowKit Go.Shelf

theorem goodT_small {t : TabD} (h : goodT t = true) : smallT t := by
  have hok := goodT_ok h
  have hr := (goodR_parts h).1
  refine ⟨?_, fun s hs => ?_, by omega⟩
  · have := (nameB_parts hok.1).2.1
    have e : t.name.data.toList.length = t.name.size := rfl
    omega
  · have := (nameB_parts (hok.2.2.1.2 s hs)).2.1
    have e : s.data.toList.length = s.size := rfl
    omega

set_option maxRecDepth 100000 in
set_option maxHeartbeats 1000000 in
theorem law_TextOnce (l : Bs) (w : World) (hv : VarsOk w) (hs : l.length ≤ 140737488355328) :
    Calls Tryd.prog 4 #[.string (bs l)] w fun e w' => e = .returned (.bool true) ∧ Below w.heap.size w w' := by
  have HV1 := Lib.hid hv
  have B1 : Hid (Below w.heap.size w w) := Below.refl _ _
  have heq0 := fun w => eqDom ⟨#[]⟩ 0 0 w
  rcases parse_cases l with ⟨⟨nm, lo, hi⟩, hR, hG⟩ | ⟨⟨tn, pol, comp, ins, rules⟩, hR, hG⟩ | ⟨er, hR, hE⟩
  · have HG := Lib.hid hG
    have hn : nm.size ≤ 140737488355328 := by
      have := (nameB_parts (goodD_parts hG).1).2.1
      have e : nm.data.toList.length = nm.size := rfl
      simp only at this
      omega
    have heq := fun w => eqDom nm lo hi w
    go_enter Tryd.func4, Tryd.ntmps4
    have hp := text_Parse' l w hv hs nm lo hi ⟨#[]⟩ 0 false [] [] false 0 hR
    go_wp2_with fail
    refine hp.mono ?_
    rintro e w2 ⟨A2, a2, R2, r2, rfl, ht2, hb2⟩
    clear hp
    obtain ⟨Cx2, Cy2, Bz⟩ := lay2_ok w2 (.string nm) (.int .i64 lo) (.int .i64 hi) (.string ⟨#[]⟩) (.int .i64 0) (.bool false) (.slice A2 0 a2) (.slice R2 0 r2)
    unfold lay2 at Cx2 Cy2 Bz
    have HX2 := Lib.hid Cx2
    have HY2 := Lib.hid Cy2
    have B3 := Lib.hid (bx B1.out (bx hb2 Bz))
    have HV3 := Lib.hid ((HV1.out.next hb2).next Bz)
    have U3 := Lib.hid ((ht2.moreS (fun _ hk => hk.2) : TabAt w2 (Old w2) ⟨⟨#[]⟩, 0, false, [], []⟩ _).onOld Bz)
    clear hb2 ht2 Bz Cx2 Cy2
    go_wp2_with fail
    change Hid (Cs ((w2.alloc (.cells #[.string nm, .int .i64 lo, .int .i64 hi] 27)).alloc (.cells #[.string ⟨#[]⟩, .int .i64 0, .bool false, .slice A2 0 a2, .slice R2 0 r2] 25)) w2.heap.size [.string nm, .int .i64 lo, .int .i64 hi]) at HX2
    change Hid (Cs ((w2.alloc (.cells #[.string nm, .int .i64 lo, .int .i64 hi] 27)).alloc (.cells #[.string ⟨#[]⟩, .int .i64 0, .bool false, .slice A2 0 a2, .slice R2 0 r2] 25)) (w2.heap.size + 1) [.string ⟨#[]⟩, .int .i64 0, .bool false, .slice A2 0 a2, .slice R2 0 r2]) at HY2
    generalize (w2.alloc (.cells #[.string nm, .int .i64 lo, .int .i64 hi] 27)).alloc (.cells #[.string ⟨#[]⟩, .int .i64 0, .bool false, .slice A2 0 a2, .slice R2 0 r2] 25) = w3 at *
    refine (keep_texts w3 HV3.out).mono ?_
    rintro e w4 ⟨rfl, hb4⟩
    have B4 := Lib.hid (bx B3.out hb4)
    have HV4 := Lib.hid (HV3.out.next hb4)
    have HX4 := Lib.hid (HX2.out.next hb4)
    have HY4 := Lib.hid (HY2.out.next hb4)
    have U4 := Lib.hid (U3.out.onOld hb4)
    have f0 := HX4.out.at 0 rfl
    have f1 := HX4.out.at 1 rfl
    have f2 := HX4.out.at 2 rfl
    clear hb4
    go_wp2_with fail
    refine (text_Domain nm lo hi _ HV4.out hn).mono ?_
    rintro e w5 ⟨rfl, hb5⟩
    rw [show goodD (nm, lo, hi) = true from HG.out, if_pos rfl]
    have B5 := Lib.hid (bx B4.out hb5)
    have HV5 := Lib.hid (HV4.out.next hb5)
    have HX5 := Lib.hid (HX4.out.next hb5)
    have HY5 := Lib.hid (HY4.out.next hb5)
    have U5 := Lib.hid (U4.out.onOld hb5)
    clear hb5 f0 f1 f2
    have hp := text_Parse' (domT (nm, lo, hi)) w5 HV5.out (by have := domT_len HG.out; omega) nm lo hi ⟨#[]⟩ 0 false [] [] false 0 (parse_dom HG.out)
    go_wp2_with fail
    refine hp.mono ?_
    rintro e w6 ⟨A6, a6, R6, r6, rfl, ht6, hb6⟩
    clear hp
    obtain ⟨Cx6, Cy6, Bz⟩ := lay2_ok w6 (.string nm) (.int .i64 lo) (.int .i64 hi) (.string ⟨#[]⟩) (.int .i64 0) (.bool false) (.slice A6 0 a6) (.slice R6 0 r6)
    unfold lay2 at Cx6 Cy6 Bz
    have HX6 := Lib.hid Cx6
    have HY6 := Lib.hid Cy6
    have B7 := Lib.hid (bx B5.out (bx hb6 Bz))
    have HV7 := Lib.hid ((HV5.out.next hb6).next Bz)
    have U7 := Lib.hid ((ht6.moreS (fun _ hk => hk.2) : TabAt w6 (Old w6) ⟨⟨#[]⟩, 0, false, [], []⟩ _).onOld Bz)
    have HX7 := Lib.hid ((HX5.out.next hb6).next Bz)
    have HY7 := Lib.hid ((HY5.out.next hb6).next Bz)
    have V7 := Lib.hid ((U5.out.onOld hb6).onOld Bz)
    have g0 := Cx6.at 0 rfl
    have g1 := Cx6.at 1 rfl
    have g2 := Cx6.at 2 rfl
    have y0 := Cy6.at 0 rfl
    have y1 := Cy6.at 1 rfl
    have y2 := Cy6.at 2 rfl
    have y3 := Cy6.at 3 rfl
    have y4 := Cy6.at 4 rfl
    have f0 := HX7.out.at 0 rfl
    have f1 := HX7.out.at 1 rfl
    have f2 := HX7.out.at 2 rfl
    have z0 := HY7.out.at 0 rfl
    have z1 := HY7.out.at 1 rfl
    have z2 := HY7.out.at 2 rfl
    have z3 := HY7.out.at 3 rfl
    have z4 := HY7.out.at 4 rfl
    clear hb6 ht6 Bz Cx6 Cy6
    go_wp2_with fail
    generalize (w6.alloc (.cells #[.string nm, .int .i64 lo, .int .i64 hi] 27)).alloc (.cells #[.string ⟨#[]⟩, .int .i64 0, .bool false, .slice A6 0 a6, .slice R6 0 r6] 25) = w7 at *
    refine (keep_sameTable ⟨⟨#[]⟩, 0, false, [], []⟩ _ _ _ V7.out U7.out).mono ?_
    rintro e w8 ⟨rfl, hb8⟩
    clear heq heq0
    go_wp2
    go_ret
    exact ⟨rfl, bx B7.out hb8⟩
  · have HG := Lib.hid hG
    have HS := Lib.hid (goodT_small hG)
    have hz0 : goodD (⟨#[]⟩, 0, 0) = false := by decide
    go_enter Tryd.func4, Tryd.ntmps4
    have hp := text_Parse' l w hv hs ⟨#[]⟩ 0 0 tn pol comp ins rules true 0 hR
    go_wp2_with fail
    refine hp.mono ?_
    rintro e w2 ⟨A2, a2, R2, r2, rfl, ht2, hb2⟩
    clear hp
    obtain ⟨Cx2, Cy2, Bz⟩ := lay2_ok w2 (.string ⟨#[]⟩) (.int .i64 0) (.int .i64 0) (.string tn) (.int .i64 pol) (.bool comp) (.slice A2 ins.length a2) (.slice R2 rules.length r2)
    unfold lay2 at Cx2 Cy2 Bz
    have HX2 := Lib.hid Cx2
    have HY2 := Lib.hid Cy2
    have B3 := Lib.hid (bx B1.out (bx hb2 Bz))
    have HV3 := Lib.hid ((HV1.out.next hb2).next Bz)
    have U3 := Lib.hid ((ht2.moreS (fun _ hk => hk.2) : TabAt w2 (Old w2) ⟨tn, pol, comp, ins, rules⟩ _).onOld Bz)
    clear hb2 ht2 Bz Cx2 Cy2
    go_wp2_with fail
    change Hid (Cs ((w2.alloc (.cells #[.string ⟨#[]⟩, .int .i64 0, .int .i64 0] 27)).alloc (.cells #[.string tn, .int .i64 pol, .bool comp, .slice A2 ins.length a2, .slice R2 rules.length r2] 25)) w2.heap.size [.string ⟨#[]⟩, .int .i64 0, .int .i64 0]) at HX2
    change Hid (Cs ((w2.alloc (.cells #[.string ⟨#[]⟩, .int .i64 0, .int .i64 0] 27)).alloc (.cells #[.string tn, .int .i64 pol, .bool comp, .slice A2 ins.length a2, .slice R2 rules.length r2] 25)) (w2.heap.size + 1) [.string tn, .int .i64 pol, .bool comp, .slice A2 ins.length a2, .slice R2 rules.length r2]) at HY2
    generalize (w2.alloc (.cells #[.string ⟨#[]⟩, .int .i64 0, .int .i64 0] 27)).alloc (.cells #[.string tn, .int .i64 pol, .bool comp, .slice A2 ins.length a2, .slice R2 rules.length r2] 25) = w3 at *
    refine (keep_texts w3 HV3.out).mono ?_
    rintro e w4 ⟨rfl, hb4⟩
    have B4 := Lib.hid (bx B3.out hb4)
    have HV4 := Lib.hid (HV3.out.next hb4)
    have HX4 := Lib.hid (HX2.out.next hb4)
    have HY4 := Lib.hid (HY2.out.next hb4)
    have U4 := Lib.hid (U3.out.onOld hb4)
    have f0 := HX4.out.at 0 rfl
    have f1 := HX4.out.at 1 rfl
    have f2 := HX4.out.at 2 rfl
    clear hb4
    go_wp2_with fail
    refine (text_Domain ⟨#[]⟩ 0 0 _ HV4.out (by decide)).mono ?_
    rintro e w5 ⟨rfl, hb5⟩
    rw [hz0, if_neg (by simp)]
    have B5 := Lib.hid (bx B4.out hb5)
    have HV5 := Lib.hid (HV4.out.next hb5)
    have HX5 := Lib.hid (HX4.out.next hb5)
    have HY5 := Lib.hid (HY4.out.next hb5)
    have U5 := Lib.hid (U4.out.onOld hb5)
    have z0 := HY5.out.at 0 rfl
    have z1 := HY5.out.at 1 rfl
    have z2 := HY5.out.at 2 rfl
    have z3 := HY5.out.at 3 rfl
    have z4 := HY5.out.at 4 rfl
    clear hb5 f0 f1 f2 hz0
    go_wp2_with fail
    refine (text_Table ⟨tn, pol, comp, ins, rules⟩ _ _ HV5.out U5.out HS.out).mono ?_
    rintro e w6 ⟨rfl, hb6⟩
    rw [show goodT ⟨tn, pol, comp, ins, rules⟩ = true from HG.out, if_pos rfl]
    have B6 := Lib.hid (bx B5.out hb6)
    have HV6 := Lib.hid (HV5.out.next hb6)
    have HX6 := Lib.hid (HX5.out.next hb6)
    have HY6 := Lib.hid (HY5.out.next hb6)
    have U6 := Lib.hid (U5.out.onOld hb6)
    clear hb6 z0 z1 z2 z3 z4
    have hp := text_Parse' (tabTx ⟨tn, pol, comp, ins, rules⟩) w6 HV6.out (by have := tabTx_len HG.out; omega) ⟨#[]⟩ 0 0 tn pol comp ins rules true 0 (parse_tab HG.out)
    go_wp2_with fail
    refine hp.mono ?_
    rintro e w7 ⟨A7, a7, R7, r7, rfl, ht7, hb7⟩
    clear hp
    obtain ⟨Cx7, Cy7, Bz⟩ := lay2_ok w7 (.string ⟨#[]⟩) (.int .i64 0) (.int .i64 0) (.string tn) (.int .i64 pol) (.bool comp) (.slice A7 ins.length a7) (.slice R7 rules.length r7)
    unfold lay2 at Cx7 Cy7 Bz
    have HX7 := Lib.hid Cx7
    have HY7 := Lib.hid Cy7
    have B8 := Lib.hid (bx B6.out (bx hb7 Bz))
    have HV8 := Lib.hid ((HV6.out.next hb7).next Bz)
    have U8 := Lib.hid ((ht7.moreS (fun _ hk => hk.2) : TabAt w7 (Old w7) ⟨tn, pol, comp, ins, rules⟩ _).onOld Bz)
    have HX8 := Lib.hid ((HX6.out.next hb7).next Bz)
    have HY8 := Lib.hid ((HY6.out.next hb7).next Bz)
    have V8 := Lib.hid ((U6.out.onOld hb7).onOld Bz)
    have g0 := Cx7.at 0 rfl
    have g1 := Cx7.at 1 rfl
    have g2 := Cx7.at 2 rfl
    have y0 := Cy7.at 0 rfl
    have y1 := Cy7.at 1 rfl
    have y2 := Cy7.at 2 rfl
    have y3 := Cy7.at 3 rfl
    have y4 := Cy7.at 4 rfl
    have f0 := HX8.out.at 0 rfl
    have f1 := HX8.out.at 1 rfl
    have f2 := HX8.out.at 2 rfl
    have z0 := HY8.out.at 0 rfl
    have z1 := HY8.out.at 1 rfl
    have z2 := HY8.out.at 2 rfl
    have z3 := HY8.out.at 3 rfl
    have z4 := HY8.out.at 4 rfl
    clear hb7 ht7 Bz Cx7 Cy7
    go_wp2_with fail
    generalize (w7.alloc (.cells #[.string ⟨#[]⟩, .int .i64 0, .int .i64 0] 27)).alloc (.cells #[.string tn, .int .i64 pol, .bool comp, .slice A7 ins.length a7, .slice R7 rules.length r7] 25) = w8 at *
    refine (keep_sameTable ⟨tn, pol, comp, ins, rules⟩ _ _ _ V8.out U8.out).mono ?_
    rintro e w9 ⟨rfl, hb9⟩
    clear heq0
    go_wp2
    go_ret
    exact ⟨rfl, bx B8.out hb9⟩
  · have hE1 : (er != 0) = true := by simpa using hE
    go_enter Tryd.func4, Tryd.ntmps4
    have hp := text_Parse' l w hv hs ⟨#[]⟩ 0 0 ⟨#[]⟩ 0 false [] [] false er hR
    go_wp2_with fail
    refine hp.mono ?_
    rintro e w2 ⟨A2, a2, R2, r2, rfl, ht2, hb2⟩
    clear hp
    obtain ⟨Cx2, Cy2, Bz⟩ := lay2_ok w2 (.string ⟨#[]⟩) (.int .i64 0) (.int .i64 0) (.string ⟨#[]⟩) (.int .i64 0) (.bool false) (.slice A2 0 a2) (.slice R2 0 r2)
    unfold lay2 at Cx2 Cy2 Bz
    have HX2 := Lib.hid Cx2
    have HY2 := Lib.hid Cy2
    have B3 := Lib.hid (bx B1.out (bx hb2 Bz))
    have HV3 := Lib.hid ((HV1.out.next hb2).next Bz)
    have U3 := Lib.hid ((ht2.moreS (fun _ hk => hk.2) : TabAt w2 (Old w2) ⟨⟨#[]⟩, 0, false, [], []⟩ _).onOld Bz)
    have f0 := Cx2.at 0 rfl
    have f1 := Cx2.at 1 rfl
    have f2 := Cx2.at 2 rfl
    have z0 := Cy2.at 0 rfl
    have z1 := Cy2.at 1 rfl
    have z2 := Cy2.at 2 rfl
    have z3 := Cy2.at 3 rfl
    have z4 := Cy2.at 4 rfl
    clear hb2 ht2 Bz Cx2 Cy2
    go_wp2_with fail
    generalize (w2.alloc (.cells #[.string ⟨#[]⟩, .int .i64 0, .int .i64 0] 27)).alloc (.cells #[.string ⟨#[]⟩, .int .i64 0, .bool false, .slice A2 0 a2, .slice R2 0 r2] 25) = w3 at *
    refine (keep_sameTable ⟨⟨#[]⟩, 0, false, [], []⟩ _ _ _ U3.out TabAt.zero).mono ?_
    rintro e w4 ⟨rfl, hb4⟩
    have B4 := Lib.hid (bx B3.out hb4)
    have HV4 := Lib.hid (HV3.out.next hb4)
    clear heq0 f0 f1 f2 z0 z1 z2 z3 z4 hb4
    go_wp2_with fail
    refine (keep_texts w4 HV4.out).mono ?_
    rintro e w5 ⟨rfl, hb5⟩
    go_wp2
    go_ret
    exact ⟨rfl, bx B4.out hb5⟩

end Go.Proofs.YtmdljknlbmlacabDoor
