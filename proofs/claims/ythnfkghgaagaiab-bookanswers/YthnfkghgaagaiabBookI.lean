/- book.checkRules and Check, each as a Lean function of what its arguments read as. Conditions: the book reads as lists in old memory; names and lists fit into 2^47 bytes. -/
import Derived.Test.YthnfkghgaagaiabBookE
import Derived.Test.YthnfkghgaagaiabBookF
import Derived.Test.YthnfkghgaagaiabBookH
import Derived.Test.YthnfkghgaagaiabTableI
namespace Go.Proofs.Ythnfkghgaagaiab
open Go.RowKit

theorem badT_clash {b : BookD} {t : TabD} (h : (clashV t (boxL b t.ins)).2 = true) : badT b t = some ((clashV t (boxL b t.ins)).1, 8) := by unfold badT; rw [if_pos h]
theorem badT_part {b : BookD} {t : TabD} (h : (clashV t (boxL b t.ins)).2 = false) (hc : t.comp = false) : badT b t = none := by unfold badT; rw [h, hc]; rfl
theorem badT_gap {b : BookD} {t : TabD} (h : (clashV t (boxL b t.ins)).2 = false) (hc : t.comp = true) (hg : (gapV t (boxL b t.ins)).2 = true) : badT b t = some ((gapV t (boxL b t.ins)).1, 7) := by unfold badT; rw [h, hc, hg]; rfl
theorem badT_fine {b : BookD} {t : TabD} (h : (clashV t (boxL b t.ins)).2 = false) (hg : (gapV t (boxL b t.ins)).2 = false) : badT b t = none := by unfold badT; rw [h, hg]; simp

def RulesPost (R : Option (List Int × Int)) (w : World) (e : Ending) (w' : World) : Prop := ∃ v, e = .returned (.tuple #[v, .int .i64 (R.getD ([], 0)).2]) ∧ Sl Enc.int w' (From w.heap.size w') (R.getD ([], 0)).1 v ∧ Below w.heap.size w w'

set_option maxHeartbeats 1000000 in
theorem book_checkRules (b : BookD) (t : TabD) (v vt : Value) (w : World) (h : BookAt w (Old w) b v) (ht : TabAt w (Old w) t vt) (hs : smallB b) (hst : smallT t) (hl : t.ins.length ≤ 3) (hbx : boxOk b t.ins = true) :
    Calls Try.prog 39 #[v, vt] w (RulesPost (badT b t) w) := by
  have HS := Lib.hid hs
  have HST := Lib.hid hst
  have HB := Lib.hid h
  have HT := Lib.hid ht
  have HBV : Hid (boxV b t = (boxL b t.ins, true)) := by show _ = _; unfold boxV; rw [if_pos hbx]
  have HL := Lib.hid hl
  clear hs hst hbx hl
  have H1 : Hid ((clashV t (boxL b t.ins)).2 = true → badT b t = some ((clashV t (boxL b t.ins)).1, 8)) := badT_clash
  have H2 : Hid ((clashV t (boxL b t.ins)).2 = false → t.comp = false → badT b t = none) := badT_part
  have H3 : Hid ((clashV t (boxL b t.ins)).2 = false → t.comp = true → (gapV t (boxL b t.ins)).2 = true → badT b t = some ((gapV t (boxL b t.ins)).1, 7)) := badT_gap
  have H4 : Hid ((clashV t (boxL b t.ins)).2 = false → (gapV t (boxL b t.ins)).2 = false → badT b t = none) := badT_fine
  generalize badT b t = R at *
  obtain ⟨vd, vtb, rfl, h1, h2⟩ := h
  obtain ⟨vi, vr, rfl, hi, hr⟩ := ht
  obtain ⟨A, c, rfl, hc1, hc2, -⟩ := h1
  obtain ⟨B, d, rfl, hd1, hd2, -⟩ := h2
  obtain ⟨Ai, ci, rfl, hi1, hi2, -⟩ := hi
  obtain ⟨Ar, cr, rfl, hr1, hr2, -⟩ := hr
  have hb0 := below_alloc1 w (.cells #[.slice A b.doms.length c, .slice B b.tabs.length d] 48)
  have C0 := Lib.hid (Cs.new w [.slice A b.doms.length c, .slice B b.tabs.length d] 48)
  have hz0 : (w.alloc (.cells #[.slice A b.doms.length c, .slice B b.tabs.length d] 48)).heap.size = w.heap.size + 1 := by simp
  change Hid (Cs (w.alloc (.cells #[.slice A b.doms.length c, .slice B b.tabs.length d] 48)) _ _) at C0
  generalize hw0 : w.alloc (.cells #[.slice A b.doms.length c, .slice B b.tabs.length d] 48) = w0 at *
  have hb1 := below_alloc1 w0 (.cells #[.string t.name, .int .i64 t.pol, .bool t.comp, .slice Ai t.ins.length ci, .slice Ar t.rules.length cr] 25)
  have C1 := Lib.hid (Cs.new w0 [.string t.name, .int .i64 t.pol, .bool t.comp, .slice Ai t.ins.length ci, .slice Ar t.rules.length cr] 25)
  change Hid (Cs (w0.alloc (.cells #[.string t.name, .int .i64 t.pol, .bool t.comp, .slice Ai t.ins.length ci, .slice Ar t.rules.length cr] 25)) _ _) at C1
  rw [hz0] at C1
  have C01 := Lib.hid (C0.out.next hb1)
  have hb01 := bx hb0 hb1
  generalize hw1 : w0.alloc (.cells #[.string t.name, .int .i64 t.pol, .bool t.comp, .slice Ai t.ins.length ci, .slice Ar t.rules.length cr] 25) = w1 at *
  have k0 := C01.out.at 0 rfl
  have k1 := C01.out.at 1 rfl
  have q0 := C1.out.at 0 rfl
  have q1 := C1.out.at 1 rfl
  have q2 := C1.out.at 2 rfl
  have q3 := C1.out.at 3 rfl
  have q4 := C1.out.at 4 rfl
  have HB1 := Lib.hid (HB.out.onOld hb01)
  have HT1 := Lib.hid (HT.out.onOld hb01)
  go_enter Try.func39, Try.ntmps39
  go_wp2_with fail
  clear hw0 hw1
  refine (book_Box b t _ _ _ HB1.out HT1.out HS.out HL.out).mono ?_
  rintro e w2 ⟨v2, rfl, hn2, hb2⟩
  have hbv := HBV.out
  rw [hbv] at hn2 ⊢
  simp only at hn2 ⊢
  have HA2 := Lib.hid (hn2.more (fun _ h => h.2) : Sl Enc.rng.slice w2 (Old w2) (boxL b t.ins) v2)
  obtain ⟨A2, c2, rfl, -, -⟩ := hn2.form
  have hb02 := bx hb01 hb2
  have C2 := Lib.hid (C1.out.next hb2)
  have HT2 := Lib.hid (HT1.out.onOld hb2)
  have r0 := C2.out.at 0 rfl
  have r1 := C2.out.at 1 rfl
  have r2 := C2.out.at 2 rfl
  have r3 := C2.out.at 3 rfl
  have r4 := C2.out.at 4 rfl
  clear hbv hn2 k0 k1 q0 q1 q2 q3 q4 C01 HBV
  go_wp2_with fail
  refine (table_Clash t (boxL b t.ins) _ _ _ HT2.out HA2.out HST.out).mono ?_
  rintro e w3 ⟨v3, rfl, hn3, hb3⟩
  have HN3 := Lib.hid hn3
  obtain ⟨A3, c3, rfl, -, -⟩ := hn3.form
  clear hn3
  have hb03 := bx hb02 hb3
  have C3 := Lib.hid (C2.out.next hb3)
  have HT3 := Lib.hid (HT2.out.onOld hb3)
  have HA3 := Lib.hid (HA2.out.onOld hb3)
  have s0 := C3.out.at 0 rfl
  have s1 := C3.out.at 1 rfl
  have s2 := C3.out.at 2 rfl
  have s3 := C3.out.at 3 rfl
  have s4 := C3.out.at 4 rfl
  clear r0 r1 r2 r3 r4
  cases hcl : (clashV t (boxL b t.ins)).2
  · cases hcm : t.comp
    · have HR : Hid (R = none) := H2.out hcl hcm
      rw [hcm] at s2
      clear hcl
      go_wp2
      go_ret2
      rw [HR.out]
      exact ⟨_, rfl, Sl.nil, hb03⟩
    · have HCM := Lib.hid hcm
      have HCL := Lib.hid hcl
      have s2' := s2
      rw [hcm] at s2'
      clear s2 hcl hcm
      have hTv : TabAt w3 (Old w3) t (.agg #[.string t.name, .int .i64 t.pol, .bool true, .slice Ai t.ins.length ci, .slice Ar t.rules.length cr]) := by have := HT3.out; rw [HCM.out] at this; exact this
      have HTV := Lib.hid hTv
      clear hTv
      go_wp2_with fail
      refine (table_Gap t (boxL b t.ins) _ _ _ HTV.out HA3.out HST.out).mono ?_
      rintro e w4 ⟨v4, rfl, hn4, hb4⟩
      have HN4 := Lib.hid hn4
      obtain ⟨A4, c4, rfl, -, -⟩ := hn4.form
      clear hn4
      have hb04 := bx hb03 hb4
      cases hgp : (gapV t (boxL b t.ins)).2
      · have HR : Hid (R = none) := H4.out HCL.out hgp
        clear hgp
        go_wp2
        go_ret2
        rw [HR.out]
        exact ⟨_, rfl, Sl.nil, hb04⟩
      · have HR : Hid (R = some ((gapV t (boxL b t.ins)).1, 7)) := H3.out HCL.out HCM.out hgp
        clear hgp
        go_wp2
        go_ret2
        rw [HR.out]
        exact ⟨_, rfl, HN4.out.more (fun k hk => ⟨Nat.le_trans hb03.size hk.1, hk.2⟩), hb04⟩
  · have HR : Hid (R = some ((clashV t (boxL b t.ins)).1, 8)) := H1.out hcl
    clear hcl
    go_wp2
    go_ret2
    rw [HR.out]
    exact ⟨_, rfl, HN3.out.more (fun k hk => ⟨Nat.le_trans hb02.size hk.1, hk.2⟩), hb03⟩

end Go.Proofs.Ythnfkghgaagaiab
