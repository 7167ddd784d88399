/- ratebookkeep.SpanOnce returns true. Condition: the argument takes at most 2^47 bytes. -/
import Derived.Test.YtmdljknlbmlacaaKeepSpans
namespace Go.Proofs.Ytmdljknlbmlacaa
open Go.RowKit

theorem Sl.next {α : Type} {E : Enc α} {w w' : World} {l : List α} {v : Value} (h : Sl E w (Old w) l v) (hb : Below w.heap.size w w') : Sl E w' (Old w') l v :=
  (h.below (fun _ h => h) hb).more fun _ h => Nat.lt_of_lt_of_le h hb.size
theorem bn {w w1 w2 : World} (h : Below w.heap.size w w1) (h' : Below w1.heap.size w1 w2) : Below w.heap.size w w2 := below_next h h.size h'

set_option maxHeartbeats 1000000 in
theorem law_SpanOnce (l : List (Int × Int)) (v : Value) (n : Int) (w : World) (h : Sl Enc.rng w (Old w) l v) (hl : l.length * 16 ≤ 140737488355328) :
    Calls Try.prog 5 #[v, .int .i64 n] w fun e w' => e = .returned (.bool true) ∧ Below w.heap.size w w' := by
  have H := Lib.hid h
  clear h
  have HG := Lib.hid (normL_good l).1
  have HM := Lib.hid ((normL_good l).2 n)
  have HNN := Lib.hid (normL_of_good (normL_good l).1)
  have HL := Lib.hid (good_length_le (normL_good l).1)
  have HOF := Lib.hid (@normL_of_good l)
  by_cases hn : -1000000 ≤ n ∧ n ≤ 1000000
  · obtain ⟨hn1, hn2⟩ := hn
    go_enter Try.func5, Try.ntmps5
    go_wp2_with fail
    refine (span_Norm l v _ H.out hl).mono ?_
    rintro e w1 ⟨v1, rfl, ho1, hg1, _⟩
    have hb1 : Below w.heap.size w w1 := below_of_grown hg1 (Nat.le_refl _) (fun _ h => by cases h)
    have HS1 := Lib.hid ho1.slOld
    clear ho1 hg1
    have HHP1 := Lib.hid (H.out.next hb1)
    go_wp2_with fail
    refine (span_Has l v n _ HHP1.out).mono ?_
    rintro e w2 ⟨rfl, hb2⟩
    have HSP := Lib.hid (HS1.out.next hb2)
    have HHP := Lib.hid (HHP1.out.next hb2)
    have hbP := bn hb1 hb2
    have HE : Hid (hasB (normL l) n = hasB l n) := by
      have := HM.out
      rw [decide_eq_true hn1, decide_eq_true hn2] at this
      simpa [Hid] using this
    clear hb1 hb2
    go_wp2_with fail
    refine (span_Good (normL l) v1 _ HSP.out).mono ?_
    rintro e wa ⟨rfl, hba⟩
    rw [HG.out]
    have HSa := Lib.hid (HSP.out.next hba)
    have HHa := Lib.hid (HHP.out.next hba)
    go_wp2_with fail
    refine (span_Norm (normL l) v1 _ HSa.out (by have := HL.out; omega)).mono ?_
    rintro e wb ⟨v2, rfl, ho2, hg2, _⟩
    rw [HNN.out] at ho2
    have hbb : Below wa.heap.size wa wb := below_of_grown hg2 (Nat.le_refl _) (fun _ h => by cases h)
    have HS2 := Lib.hid ho2.slOld
    have HSb := Lib.hid (HSa.out.next hbb)
    have HHb := Lib.hid (HHa.out.next hbb)
    clear ho2 hg2
    go_wp2_with fail
    refine (keep_same (normL l) (normL l) v1 v2 _ HSb.out HS2.out).mono ?_
    rintro e wc ⟨rfl, hbc⟩
    rw [show decide (normL l = normL l) = true from decide_eq_true rfl]
    have HSc := Lib.hid (HSb.out.next hbc)
    have HHc := Lib.hid (HHb.out.next hbc)
    go_wp2_with fail
    refine (span_Has (normL l) v1 n _ HSc.out).mono ?_
    rintro e wd ⟨rfl, hbd⟩
    rw [HE.out]
    have HSd := Lib.hid (HSc.out.next hbd)
    have HHd := Lib.hid (HHc.out.next hbd)
    have hbw : Below w.heap.size w wd := bn (bn (bn (bn hbP hba) hbb) hbc) hbd
    clear hba hbb hbc hbd
    generalize hasB l n = bb at *
    go_wp2_with fail
    refine (span_Good l v _ HHd.out).mono ?_
    rintro e we ⟨rfl, hbe⟩
    have HSe := Lib.hid (HSd.out.next hbe)
    have HHe := Lib.hid (HHd.out.next hbe)
    have hbw2 : Below w.heap.size w we := bn hbw hbe
    clear hbw hbe
    cases hgl : goodB l
    · clear hgl
      go_wp2_with fail
      refine (keep_spans _).mono ?_
      rintro e wf ⟨rfl, hbf⟩
      go_wp2
      go_ret
      exact ⟨rfl, bn hbw2 hbf⟩
    · have HEQ := Lib.hid (HOF.out hgl)
      clear hgl
      go_wp2_with fail
      refine (keep_same (normL l) l v1 v _ HSe.out HHe.out).mono ?_
      rintro e wg ⟨rfl, hbg⟩
      rw [show decide (normL l = l) = true from decide_eq_true HEQ.out]
      go_wp2_with fail
      refine (keep_spans _).mono ?_
      rintro e wf ⟨rfl, hbf⟩
      go_wp2
      go_ret
      exact ⟨rfl, bn (bn hbw2 hbg) hbf⟩
  · have HE : Hid (hasB (normL l) n = false) := by
      have := HM.out
      show _ = false
      rw [this]
      simp; omega
    by_cases hn1 : -1000000 ≤ n
    all_goals
      go_enter Try.func5, Try.ntmps5
      go_wp2_with fail
      refine (span_Norm l v _ H.out hl).mono ?_
      rintro e w1 ⟨v1, rfl, ho1, hg1, _⟩
      have hbP : Below w.heap.size w w1 := below_of_grown hg1 (Nat.le_refl _) (fun _ h => by cases h)
      have HSP := Lib.hid ho1.slOld
      have HHP := Lib.hid (H.out.next hbP)
      clear ho1 hg1
      go_wp2_with fail
      refine (span_Good (normL l) v1 _ HSP.out).mono ?_
      rintro e wa ⟨rfl, hba⟩
      rw [HG.out]
      have HSa := Lib.hid (HSP.out.next hba)
      have HHa := Lib.hid (HHP.out.next hba)
      go_wp2_with fail
      refine (span_Norm (normL l) v1 _ HSa.out (by have := HL.out; omega)).mono ?_
      rintro e wb ⟨v2, rfl, ho2, hg2, _⟩
      rw [HNN.out] at ho2
      have hbb : Below wa.heap.size wa wb := below_of_grown hg2 (Nat.le_refl _) (fun _ h => by cases h)
      have HS2 := Lib.hid ho2.slOld
      have HSb := Lib.hid (HSa.out.next hbb)
      have HHb := Lib.hid (HHa.out.next hbb)
      clear ho2 hg2
      go_wp2_with fail
      refine (keep_same (normL l) (normL l) v1 v2 _ HSb.out HS2.out).mono ?_
      rintro e wc ⟨rfl, hbc⟩
      rw [show decide (normL l = normL l) = true from decide_eq_true rfl]
      have HSc := Lib.hid (HSb.out.next hbc)
      have HHc := Lib.hid (HHb.out.next hbc)
      go_wp2_with fail
      refine (span_Has (normL l) v1 n _ HSc.out).mono ?_
      rintro e wd ⟨rfl, hbd⟩
      rw [HE.out]
      have HSd := Lib.hid (HSc.out.next hbd)
      have HHd := Lib.hid (HHc.out.next hbd)
      have hbw : Below w.heap.size w wd := bn (bn (bn (bn hbP hba) hbb) hbc) hbd
      clear hba hbb hbc hbd
      go_wp2_with fail
      refine (span_Good l v _ HHd.out).mono ?_
      rintro e we ⟨rfl, hbe⟩
      have HSe := Lib.hid (HSd.out.next hbe)
      have HHe := Lib.hid (HHd.out.next hbe)
      have hbw2 : Below w.heap.size w we := bn hbw hbe
      clear hbw hbe
      cases hgl : goodB l
      · clear hgl
        go_wp2_with fail
        refine (keep_spans _).mono ?_
        rintro e wf ⟨rfl, hbf⟩
        go_wp2
        go_ret
        exact ⟨rfl, bn hbw2 hbf⟩
      · have HEQ := Lib.hid (HOF.out hgl)
        clear hgl
        go_wp2_with fail
        refine (keep_same (normL l) l v1 v _ HSe.out HHe.out).mono ?_
        rintro e wg ⟨rfl, hbg⟩
        rw [show decide (normL l = l) = true from decide_eq_true HEQ.out]
        go_wp2_with fail
        refine (keep_spans _).mono ?_
        rintro e wf ⟨rfl, hbf⟩
        go_wp2
        go_ret
        exact ⟨rfl, bn (bn hbw2 hbg) hbf⟩

end Go.Proofs.Ytmdljknlbmlacaa
