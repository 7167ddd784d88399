/- book.All and Box, each as a Lean function of what its arguments read as. Conditions: the book reads as lists in old memory; names and lists fit into 2^47 bytes; a table has at most three inputs. -/
import Derived.Test.YthnfkghgaagaiabBookA
namespace Go.Proofs.Ythnfkghgaagaiab
open Go.RowKit

theorem findT_small {b : BookD} (hs : smallB b) (s : ByteArray) : smallT ((findT b.tabs s).getD zeroT) := by
  cases h : findT b.tabs s with
  | none => exact ⟨by decide, fun x hx => by simp [zeroT] at hx, by decide⟩
  | some t => exact hs.2 t (findT_some h).1

def AllPost (R : Option (Int × Int)) (w : World) (e : Ending) (w' : World) : Prop := e = .returned (.tuple #[.agg #[.int .i64 (R.getD (0, 0)).1, .int .i64 (R.getD (0, 0)).2], .bool R.isSome]) ∧ Below w.heap.size w w'

set_option maxHeartbeats 1000000 in
theorem book_All (b : BookD) (s : ByteArray) (v : Value) (w : World) (h : BookAt w (Old w) b v) (hs : smallB b) :
    Calls Try.prog 58 #[v, .string s] w (AllPost (allO b s) w) := by
  have HS := Lib.hid (findT_small hs s)
  have HB := Lib.hid h
  have HE : Hid (allO b s = match findD b.doms s with | some d => some (d.2.1, d.2.2) | none => (findT b.tabs s).map spanV) := rfl
  generalize allO b s = R at *
  obtain ⟨vd, vt, rfl, h1, h2⟩ := h
  obtain ⟨A, c, rfl, hc1, hc2, -⟩ := h1
  obtain ⟨B, d, rfl, hd1, hd2, -⟩ := h2
  clear hs
  have hb0 := below_alloc1 w (.cells #[.slice A b.doms.length c, .slice B b.tabs.length d] 48)
  have C0 := Lib.hid (Cs.new w [.slice A b.doms.length c, .slice B b.tabs.length d] 48)
  have hz0 : (w.alloc (.cells #[.slice A b.doms.length c, .slice B b.tabs.length d] 48)).heap.size = w.heap.size + 1 := by simp
  change Hid (Cs (w.alloc (.cells #[.slice A b.doms.length c, .slice B b.tabs.length d] 48)) _ _) at C0
  generalize hw0 : w.alloc (.cells #[.slice A b.doms.length c, .slice B b.tabs.length d] 48) = w0 at *
  have hb1 := below_alloc1 w0 (.cells #[.int .i64 0, .int .i64 0] 75)
  have C1 := Lib.hid (Cs.new w0 [.int .i64 0, .int .i64 0] 75)
  change Hid (Cs (w0.alloc (.cells #[.int .i64 0, .int .i64 0] 75)) _ _) at C1
  rw [hz0] at C1
  have C01 := Lib.hid (C0.out.next hb1)
  have k0 := C01.out.at 0 rfl
  have k1 := C01.out.at 1 rfl
  have hb01 := bx hb0 hb1
  generalize hw1 : w0.alloc (.cells #[.int .i64 0, .int .i64 0] 75) = w1 at *
  have HB1 := Lib.hid (HB.out.onOld hb01)
  go_enter Try.func58, Try.ntmps58
  go_wp2_with fail
  clear hw0 hw1 k0 k1
  refine (book_FindDomain b s _ _ HB1.out).mono ?_
  rintro e w2 ⟨rfl, hb2⟩
  have C02 := Lib.hid (C01.out.next hb2)
  have C12 := Lib.hid (C1.out.next hb2)
  have hb02 := bx hb01 hb2
  have HB2 := Lib.hid (HB1.out.onOld hb2)
  cases hf : findD b.doms s with
  | some d =>
    obtain ⟨nm, lo, hi⟩ := d
    have HR : Hid (R = some (lo, hi)) := by show _ = _; rw [HE.out, hf]
    clear hf HE
    simp only [Option.getD_some, Option.isSome_some, domV]
    have hbz := below_alloc1 w2 (.cells #[.string nm, .int .i64 lo, .int .i64 hi] 57)
    have hbl2 := bx hb02 hbz
    have CN := Lib.hid (Cs.new w2 [.string nm, .int .i64 lo, .int .i64 hi] 57)
    change Hid (Cs (w2.alloc (.cells #[.string nm, .int .i64 lo, .int .i64 hi] 57)) _ _) at CN
    have CR2 := Lib.hid (C12.out.next hbz)
    have q0 := CN.out.at 0 rfl
    have q1 := CN.out.at 1 rfl
    have q2 := CN.out.at 2 rfl
    have r0 := CR2.out.at 0 rfl
    have r1 := CR2.out.at 1 rfl
    have f0 := CR2.out.2.2 0 (by decide)
    have f1 := CR2.out.2.2 1 (by decide)
    generalize hwa : w2.alloc (.cells #[.string nm, .int .i64 lo, .int .i64 hi] 57) = wa at *
    go_wp2
    (try simp only [Exit.inBlock, Exit.then])
    refine bodyPost_ret (ret_rngB (b := w.heap.size + 1) rfl rfl ((CR2.out.set 0 (by simp) _).set 1 (by simp) _)) rfl ⟨?_, (hbl2.setCell (by simp) _).setCell (by simp) _⟩
    rw [HR.out]; rfl
  | none =>
    have HE2 : Hid (R = (findT b.tabs s).map spanV) := by show _ = _; rw [HE.out, hf]
    clear hf HE
    simp only [Option.getD_none, Option.isSome_none, domV, zeroD]
    have hbz := below_alloc1 w2 (.cells #[.string ⟨#[]⟩, .int .i64 0, .int .i64 0] 57)
    have hb03 := bx hb02 hbz
    have C03 := Lib.hid (C02.out.next hbz)
    have C13 := Lib.hid (C12.out.next hbz)
    have HB3 := Lib.hid (HB2.out.onOld hbz)
    have k0 := C03.out.at 0 rfl
    have k1 := C03.out.at 1 rfl
    go_wp2_with fail
    generalize hwa : w2.alloc (.cells #[.string ⟨#[]⟩, .int .i64 0, .int .i64 0] 57) = wa at *
    clear hwa k0 k1 C02 C12
    refine (book_FindTable b s _ _ HB3.out).mono ?_
    rintro e w3 ⟨vt3, rfl, ht3, hb3⟩
    have C14 := Lib.hid (C13.out.next hb3)
    have hb04 := bx hb03 hb3
    have HT := Lib.hid ht3
    obtain ⟨vi, vr, rfl, hi3, hr3⟩ := ht3
    obtain ⟨Ai, ci, rfl, -, -⟩ := hi3.form
    obtain ⟨Ar, cr, rfl, -, -⟩ := hr3.form
    clear hi3 hr3
    generalize hnt : (findT b.tabs s).getD zeroT = nt at *
    have hbz2 := below_alloc1 w3 (.cells #[.string nt.name, .int .i64 nt.pol, .bool nt.comp, .slice Ai nt.ins.length ci, .slice Ar nt.rules.length cr] 25)
    have CN := Lib.hid (Cs.new w3 [.string nt.name, .int .i64 nt.pol, .bool nt.comp, .slice Ai nt.ins.length ci, .slice Ar nt.rules.length cr] 25)
    change Hid (Cs (w3.alloc (.cells #[.string nt.name, .int .i64 nt.pol, .bool nt.comp, .slice Ai nt.ins.length ci, .slice Ar nt.rules.length cr] 25)) _ _) at CN
    have hb05 := bx hb04 hbz2
    have C15 := Lib.hid (C14.out.next hbz2)
    have HT5 := Lib.hid (HT.out.onOld hbz2)
    have q0 := CN.out.at 0 rfl
    have q1 := CN.out.at 1 rfl
    have q2 := CN.out.at 2 rfl
    have q3 := CN.out.at 3 rfl
    have q4 := CN.out.at 4 rfl
    generalize hwb : w3.alloc (.cells #[.string nt.name, .int .i64 nt.pol, .bool nt.comp, .slice Ai nt.ins.length ci, .slice Ar nt.rules.length cr] 25) = wb at *
    cases hf : findT b.tabs s with
    | some t =>
      have hte : nt = t := by rw [← hnt, hf]; rfl
      subst hte
      have HR : Hid (R = some (spanV nt)) := by show _ = _; rw [HE2.out, hf]; rfl
      clear hf HE2 hnt
      simp only [Option.isSome_some]
      go_wp2_with fail
      clear hwb
      refine (table_Span nt _ _ HT5.out HS.out).mono ?_
      rintro e w5 ⟨rfl, hb5⟩
      have C16 := Lib.hid (C15.out.next hb5)
      have r0 := C16.out.at 0 rfl
      have r1 := C16.out.at 1 rfl
      have f0 := C16.out.2.2 0 (by decide)
      have f1 := C16.out.2.2 1 (by decide)
      have hb06 := bx hb05 hb5
      go_wp2
      (try simp only [Exit.inBlock, Exit.then])
      refine bodyPost_ret (ret_rngB (b := w.heap.size + 1) rfl rfl ((C16.out.set 0 (by simp) _).set 1 (by simp) _)) rfl ⟨?_, (hb06.setCell (by simp) _).setCell (by simp) _⟩
      rw [HR.out]; rfl
    | none =>
      have HR : Hid (R = none) := by show _ = _; rw [HE2.out, hf]; rfl
      clear hf HE2 hnt
      simp only [Option.isSome_none]
      have r0 := C15.out.at 0 rfl
      have r1 := C15.out.at 1 rfl
      have f0 := C15.out.2.2 0 (by decide)
      have f1 := C15.out.2.2 1 (by decide)
      go_wp2
      (try simp only [Exit.inBlock, Exit.then])
      refine bodyPost_ret (ret_rngB (b := w.heap.size + 1) rfl rfl ((C15.out.set 0 (by simp) _).set 1 (by simp) _)) rfl ⟨?_, (hb05.setCell (by simp) _).setCell (by simp) _⟩
      rw [HR.out]; rfl

end Go.Proofs.Ythnfkghgaagaiab
