/- ratebooklaw.BookChecks returns true. Conditions: the book reads as lists in old memory; names and lists, and the names of inputs joined, fit into 2^47 bytes. -/
import Derived.Test.YtmdljknlbmlacabGreatDoorRefBookD
import Derived.Test.YtmdljknlbmlacabGreatDoorRefBookF
import Derived.Test.YtmdljknlbmlacabGreatDoorKeepBooks
namespace Go.Proofs.YtmdljknlbmlacabGreatDoor
open Go.RowKit

set_option maxRecDepth 100000 in
set_option maxHeartbeats 2000000 in
theorem law_BookChecks (b : BookD) (v : Value) (w : World) (h : BookAt w (Old w) b v) (hs : smallB b) (hd : b.doms.length * 32 ≤ 140737488355328) (ht : b.tabs.length * 80 ≤ 140737488355328) (hc : ∀ t, t ∈ b.tabs → copyT t) (hj : ∀ t, t ∈ b.tabs → joinT t) :
    Calls Tryz.prog 3 #[v] w fun e w' => e = .returned (.bool true) ∧ Below w.heap.size w w' := by
  have HS := Lib.hid hs
  have HB := Lib.hid h
  have HC := Lib.hid hc
  have HJ := Lib.hid hj
  have HII : Hid (∀ t, t ∈ b.tabs → t.ins.length * 16 ≤ 140737488355328) := fun t ht => (hc t ht).1
  clear hs hc hj
  obtain ⟨vd, vt, rfl, h1, h2⟩ := h
  obtain ⟨A, c, rfl, hc1, hc2, -⟩ := h1
  obtain ⟨B, d, rfl, hd1, hd2, -⟩ := h2
  have hb0 := below_alloc1 w (.cells #[.slice A b.doms.length c, .slice B b.tabs.length d] 25)
  have C0 := Lib.hid (Cs.new w [.slice A b.doms.length c, .slice B b.tabs.length d] 25)
  change Hid (Cs (w.alloc (.cells #[.slice A b.doms.length c, .slice B b.tabs.length d] 25)) _ _) at C0
  generalize hw0 : w.alloc (.cells #[.slice A b.doms.length c, .slice B b.tabs.length d] 25) = w0 at *
  have k0 := C0.out.at 0 rfl
  have k1 := C0.out.at 1 rfl
  have HB0 := Lib.hid (HB.out.onOld hb0)
  go_enter Tryz.func3, Tryz.ntmps3
  go_wp2_with fail
  clear hw0
  refine (ref_CopyBook b _ _ HB0.out hd ht HC.out).mono ?_
  rintro e w1 ⟨u, rfl, hu, hb1⟩
  have HU := Lib.hid hu
  obtain ⟨ud, ut, rfl, g1, g2⟩ := hu
  obtain ⟨A1, c1, rfl, -, -⟩ := g1.form
  obtain ⟨B1, d1, rfl, -, -⟩ := g2.form
  clear g1 g2 k0 k1
  have hbz := below_alloc1 w1 (.cells #[.slice A1 b.doms.length c1, .slice B1 b.tabs.length d1] 25)
  have CU := Lib.hid (Cs.new w1 [.slice A1 b.doms.length c1, .slice B1 b.tabs.length d1] 25)
  change Hid (Cs (w1.alloc (.cells #[.slice A1 b.doms.length c1, .slice B1 b.tabs.length d1] 25)) _ _) at CU
  have hb02 := bx hb0 (bx hb1 hbz)
  have C2 := Lib.hid (C0.out.next (bx hb1 hbz))
  have HU2 := Lib.hid (HU.out.onOld hbz)
  have u0 := CU.out.at 0 rfl
  have u1 := CU.out.at 1 rfl
  generalize hw2 : w1.alloc (.cells #[.slice A1 b.doms.length c1, .slice B1 b.tabs.length d1] 25) = w2 at *
  go_wp2_with fail
  clear hw2
  refine (book_Check b _ _ HU2.out HS.out).mono ?_
  rintro e w3 ⟨v3, rfl, hn3, hb3⟩
  have HN3 := Lib.hid (hn3.more (fun _ h => h.2) : Sl Enc.int w3 (Old w3) (checkV b).2.1 v3)
  obtain ⟨A3, c3, rfl, -, -⟩ := hn3.form
  have hb03 := bx hb02 hb3
  have C3 := Lib.hid (C2.out.next hb3)
  have CU3 := Lib.hid (CU.out.next hb3)
  have HU3 := Lib.hid (HU2.out.onOld hb3)
  have HB3 := Lib.hid (HB.out.onOld hb03)
  clear hn3 u0 u1
  have k0 := C3.out.at 0 rfl
  have k1 := C3.out.at 1 rfl
  go_wp2_with fail
  refine (ref_CheckBook b _ _ HB3.out HS.out HII.out).mono ?_
  rintro e w4 ⟨v4, rfl, hn4, hb4⟩
  have HN4 := Lib.hid (hn4.more (fun _ h => h.2) : Sl Enc.int w4 (Old w4) (checkV b).2.1 v4)
  obtain ⟨A4, c4, rfl, -, -⟩ := hn4.form
  have hb04 := bx hb03 hb4
  have C4 := Lib.hid (C3.out.next hb4)
  have CU4 := Lib.hid (CU3.out.next hb4)
  have HU4 := Lib.hid (HU3.out.onOld hb4)
  have HB4 := Lib.hid (HB.out.onOld hb04)
  have HN34 := Lib.hid (HN3.out.onOld hb4)
  clear hn4 k0 k1
  generalize checkV b = R at *
  obtain ⟨rs, ra, rc⟩ := R
  simp only at HN4 HN34 ⊢
  have y1 : (rs.toList == rs.toList) = true := by simp
  have y2 : (rc == rc) = true := by simp
  go_wp2_with fail
  refine (ref_SameNumbers ra ra _ _ _ HN34.out HN4.out).mono ?_
  rintro e w5 ⟨rfl, hb5⟩
  have y3 : decide (ra = ra) = true := by simp
  rw [y3]
  have hb05 := bx hb04 hb5
  have C5 := Lib.hid (C4.out.next hb5)
  have CU5 := Lib.hid (CU4.out.next hb5)
  have HU5 := Lib.hid (HU4.out.onOld hb5)
  have HB5 := Lib.hid (HB4.out.onOld hb5)
  have k0 := C5.out.at 0 rfl
  have k1 := C5.out.at 1 rfl
  have u0 := CU5.out.at 0 rfl
  have u1 := CU5.out.at 1 rfl
  go_wp2_with fail
  refine (ref_SameBook b _ _ _ HU5.out HB5.out HJ.out).mono ?_
  rintro e w6 ⟨rfl, hb6⟩
  clear k0 k1 u0 u1
  go_wp2_with fail
  refine (law_books _).mono ?_
  rintro e w7 ⟨rfl, hb7⟩
  go_wp2
  go_ret
  exact ⟨rfl, bx hb05 (bx hb6 hb7)⟩

end Go.Proofs.YtmdljknlbmlacabGreatDoor
