/- ratebookref.CellHolds and AreaOf, each as a Lean function of the data that its arguments read as. Conditions: argument slices read as lists in old memory; the cells of AreaOf's rule are good. -/
import Derived.Test.YtmdljknlbmlacaaDoorRefTab
import Derived.Test.YtmdljknlbmlacaaDoorTableI
import Derived.Test.YtmdljknlbmlacaaDoorTabLit
import Derived.Test.YtmdljknlbmlacaaDoorRefSets2
import Derived.Test.YtmdljknlbmlacaaDoorRefBox
namespace Go.Proofs.YtmdljknlbmlacaaDoor
open Go.RowKit

theorem made_part {l : List Int} {s rs : List (Int × Int)} {ng : Bool} (hs : goodB s = true) (h : Incr l) (hm : ∀ x, x ∈ l ↔ EdgeOf [s, rs] x) : madeF (fun n => hasB s n && holdsC (ng, rs) n) [] l = partV (ng, rs) s := by
  obtain ⟨g, m⟩ := made_set h hm (fun n => hasB s n && holdsC (ng, rs) n) (fun i n hn x h1 h2 => by
    unfold holdsC
    rw [has_const h hm (s := s) (by simp) hn h1 h2, has_const h hm (s := rs) (by simp) hn h1 h2])
  obtain ⟨g2, m2⟩ := part_good (c := (ng, rs)) hs
  refine good_unique g g2 (fun n => ?_)
  rw [m, m2]
  cases hh : hasB s n with
  | false => simp
  | true => have := good_in hs hh; simp [this.1, this.2]

set_option maxHeartbeats 400000 in
theorem ref_CellHolds (ng : Bool) (rs : List (Int × Int)) (n : Int) (v : Value) (w : World) (h : Sl Enc.rng w (Old w) rs v) :
    Calls Tryd.prog 16 #[.agg #[.bool ng, v], .int .i64 n] w fun e w' => e = .returned (.bool (holdsC (ng, rs) n)) ∧ Below w.heap.size w w' := by
  have H := Lib.hid h
  obtain ⟨A, c, rfl, hc1, hc2, -⟩ := h
  unfold maxLen at hc2
  have hb0 := below_alloc1 w (.cells #[.bool ng, .slice A rs.length c] 40)
  have H1 := Lib.hid (H.out.onOld hb0)
  by_cases h0 : rs.length = 0
  · have h0' : (rs.length : Int) = 0 := by omega
    have HE : Hid (holdsC (ng, rs) n = true) := by simp [holdsC, h0, Hid]
    go_enter Tryd.func16, Tryd.ntmps16
    go_wp2
    go_ret
    exact ⟨ret_bool HE.out.symm, below_alloc1 _ _⟩
  · have h0' : ((rs.length : Int) == 0) = false := beq_eq_false_iff_ne.2 (by omega)
    have HE : Hid (holdsC (ng, rs) n = (hasB rs n != ng)) := by show _ = _; unfold holdsC; rw [decide_eq_false h0]; rfl
    generalize holdsC (ng, rs) n = G at HE ⊢
    have k0 : (w.alloc (.cells #[.bool ng, .slice A rs.length c] 40)).cell? ⟨w.heap.size, 0, none⟩ = some (.bool ng) := cell_new _ _ _ _ _ rfl
    have k1 : (w.alloc (.cells #[.bool ng, .slice A rs.length c] 40)).cell? ⟨w.heap.size, 1, none⟩ = some (.slice A rs.length c) := cell_new _ _ _ _ _ rfl
    have hg0 : w.heap.size < (w.alloc (.cells #[.bool ng, .slice A rs.length c] 40)).heap.size := by simp
    go_enter Tryd.func16, Tryd.ntmps16
    go_wp2_with fail
    generalize w.alloc (.cells #[.bool ng, .slice A rs.length c] 40) = w0 at *
    go_region_held3 (fun w' => w'.cell? ⟨w.heap.size, 0, none⟩ = some (.bool ng) ∧ w'.cell? ⟨w.heap.size, 1, none⟩ = some (.slice A rs.length c)) (first | exact ⟨k0, k1⟩ | exact ⟨j0, j1⟩)
      (first
       | (go_at_call 34; refine (ref_InSet rs _ n _ ?_).mono ?_; exact H1.out; rintro e w1 ⟨rfl, hb1⟩; have j0 := (hb1.cell (p := ⟨w.heap.size, 0, none⟩) hg0).trans k0; have j1 := (hb1.cell (p := ⟨w.heap.size, 1, none⟩) hg0).trans k1; have hb01 := bx hb0 (undrew hb1); clear hb1))
    all_goals go_wp2
    all_goals go_ret
    all_goals exact ⟨ret_bool (by rw [HE.out]; cases hasB rs n <;> cases ng <;> rfl), hb01⟩

set_option maxHeartbeats 400000 in
theorem area_holds (Ba Bi Bc bb ob N c k : Nat) (ng : Bool) (s rs : List (Int × Int)) (vs vr : Value) (n : Int) (w : World) (h1 : w.cell? ⟨Ba, 0, none⟩ = some (.slice (some ⟨bb, ob, none⟩) N c)) (h2 : w.cell? ⟨Bi, 0, none⟩ = some (.int .i64 k)) (h3 : w.cell? ⟨Bc, 0, none⟩ = some (.bool ng)) (h4 : w.cell? ⟨Bc, 1, none⟩ = some vr)
    (h5 : w.cell? ⟨bb, ob + k, none⟩ = some vs) (hk : k < N) (hs : Sl Enc.rng w (Old w) s vs) (hr : Sl Enc.rng w (Old w) rs vr) :
    Calls Tryd.prog 44 #[.int .i64 n, .pointer (some ⟨Ba, 0, none⟩), .pointer (some ⟨Bi, 0, none⟩), .pointer (some ⟨Bc, 0, none⟩)] w fun e w' => e = .returned (.bool (hasB s n && holdsC (ng, rs) n)) ∧ Below w.heap.size w w' := by
  have HA := Lib.hid hs
  have HB := Lib.hid hr
  obtain ⟨As, cs, rfl, -, -⟩ := hs.form
  obtain ⟨Ar, cr, rfl, -, -⟩ := hr.form
  have hC : Bc < w.heap.size := World.block_lt_of_cell? w _ h3
  have hk1 : (k : Int) < N := by omega
  have hk0 : (0 : Int) ≤ k := by omega
  clear hs hr
  go_enter Tryd.func44, Tryd.ntmps44
  go_wp2_with fail
  refine (ref_InSet s _ n _ HA.out).mono ?_
  rintro e w1 ⟨rfl, hb1⟩
  have h31 := (hb1.cell (p := ⟨Bc, 0, none⟩) hC).trans h3
  have h41 := (hb1.cell (p := ⟨Bc, 1, none⟩) hC).trans h4
  have HB1 := Lib.hid (HB.out.onOld hb1)
  cases hh : hasB s n
  · have H1 := Lib.hid hh
    clear hh
    go_wp2
    go_ret
    exact ⟨ret_bool (by rw [H1.out]; rfl), hb1⟩
  · have H1 := Lib.hid hh
    clear hh
    go_wp2_with fail
    refine (ref_CellHolds ng rs n _ _ HB1.out).mono ?_
    rintro e w2 ⟨rfl, hb2⟩
    go_wp2
    go_ret
    exact ⟨ret_bool (by rw [H1.out, Bool.true_and]), bx hb1 hb2⟩

theorem lit_sets (W : World) (s rs : List (Int × Int)) (vs vr : Value) (e : Nat) (hs : Sl Enc.rng W (Old W) s vs) (hr : Sl Enc.rng W (Old W) rs vr) :
    Sl Enc.rng.slice (W.alloc (.cells #[vs, vr] e)) (Old (W.alloc (.cells #[vs, vr] e))) [s, rs] (.slice (some ⟨W.heap.size, 0, none⟩) 2 2) :=
  lit_old (E := Enc.rng.slice) W [s, rs] #[vs, vr] e (maxLen_ge (by simp)) rfl (Elems.append (us := [vs]) (l := [s]) (m := [rs]) (Elems.one ⟨_, rfl, hs⟩) (Elems.one ⟨_, rfl, hr⟩) rfl)
theorem loIn_two {s rs : List (Int × Int)} (hs : goodB s = true) (hr : goodB rs = true) : ∀ x, x ∈ [s, rs] → loIn x := by
  intro x hx
  rcases List.mem_cons.1 hx with rfl | hx
  · exact loIn_of_good hs
  · have : x = rs := by simpa using hx
    subst this; exact loIn_of_good hr

set_option maxRecDepth 100000 in
set_option maxHeartbeats 4000000 in
theorem ref_AreaOf (cs : List CellD) (x : Int) (a : BoxD) (vc va : Value) (w : World) (h : Sl Enc.cell w (Old w) cs vc) (h' : Sl Enc.rng.slice w (Old w) a va) (hl : ∀ c, c ∈ cs → goodC c = true) :
    Calls Tryd.prog 23 #[.agg #[vc, .int .i64 x], va] w (BothPost (areaV cs a) (areaOk cs a) w) := by
  have H := Lib.hid h
  have HA := Lib.hid h'
  have HL := Lib.hid hl
  clear hl
  obtain ⟨A, c, rfl, hc1, hc2, -⟩ := h
  obtain ⟨B, d, rfl, hd1, hd2, -⟩ := h'
  unfold maxLen at hc2 hd2
  have hb0' := below_alloc1 w (.cells #[.slice A cs.length c, .int .i64 x] 37)
  have k0' : (w.alloc (.cells #[.slice A cs.length c, .int .i64 x] 37)).cell? ⟨w.heap.size, 0, none⟩ = some (.slice A cs.length c) := cell_new _ _ _ _ _ rfl
  have hz0 : (w.alloc (.cells #[.slice A cs.length c, .int .i64 x] 37)).heap.size = w.heap.size + 1 := by simp
  generalize hwa : w.alloc (.cells #[.slice A cs.length c, .int .i64 x] 37) = wa at *
  have hba := below_alloc1 wa (.cells #[.slice B a.length d] 49)
  have k1 : (wa.alloc (.cells #[.slice B a.length d] 49)).cell? ⟨w.heap.size + 1, 0, none⟩ = some (.slice B a.length d) := by rw [← hz0]; exact cell_new _ _ _ _ _ rfl
  have k0 := (hba.cell (p := ⟨w.heap.size, 0, none⟩) (show w.heap.size < _ by omega)).trans k0'
  have hz1 : (wa.alloc (.cells #[.slice B a.length d] 49)).heap.size = w.heap.size + 1 + 1 := by simp; omega
  generalize hw0 : wa.alloc (.cells #[.slice B a.length d] 49) = w0 at *
  have hb0 := bx hb0' hba
  have HA0 := Lib.hid (HA.out.onOld hb0)
  have H0 := Lib.hid (H.out.onOld hb0)
  have hg0 : w.heap.size < w0.heap.size := by omega
  have hg1 : w.heap.size + 1 < w0.heap.size := by omega
  by_cases hn : cs.length = a.length
  · have hne : ((cs.length : Int) != (a.length : Int)) = false := by simp [hn]
    have HNN := Lib.hid hn
    clear hn
    go_enter Tryd.func23, Tryd.ntmps23
    go_wp2_with fail
    refine (ref_IsBox a _ _ _ HA0.out).mono ?_
    rintro e w1 ⟨rfl, hb1⟩
    have q0 := (hb1.cell (p := ⟨w.heap.size, 0, none⟩) hg0).trans k0
    have q1 := (hb1.cell (p := ⟨w.heap.size + 1, 0, none⟩) hg1).trans k1
    have hg11 := Nat.lt_of_lt_of_le hg1 hb1.size
    have HA1 := Lib.hid (HA0.out.onOld hb1)
    have H1 := Lib.hid (H0.out.onOld hb1)
    have hb01 := bx hb0 hb1
    have hsz1 := hb01.size
    clear k0 k1 k0' hb0 hb1 HA0 H0 hwa hw0 hz0 hz1
    cases hg : goodBox a a.length
    · have HF : Hid (areaOk cs a = false) := by show _ = _; unfold areaOk; rw [hg]; simp
      clear hg
      go_wp2
      go_ret2
      exact AreaPost.no HF.out hb01
    · have HG := Lib.hid hg
      have HGA := Lib.hid (goodBox_iff.1 hg)
      have lenA : a.length ≤ 3 := by have := HGA.out; omega
      clear hg
      have HLI : Hid ((areaL cs a).length = cs.length) := by show _ = _; rw [area_length HNN.out, HNN.out]
      go_wp2
      go_loopw [6, 26] (fun u i wr => ∃ k : Nat, k ≤ cs.length ∧ i = .int .i64 k ∧ Hid (fullB ((areaL cs a).take k) = true) ∧ OwnG Enc.rng.slice wr w1.heap.size w1.heap.size 38 u ((areaL cs a).take k) ∧ Below w1.heap.size w1 wr) (fun _ i _ => cs.length - (intOf i).toNat)
      case atStart => exact ⟨0, Nat.zero_le _, rfl, rfl, OwnG.nil, Below.refl _ _⟩
      case round =>
        obtain ⟨k, hk, rfl, hfull, hown, hbl⟩ := hrel
        have hsz := hbl.size
        by_cases hlt : k < cs.length
        · have hltb : k < a.length := by have := HNN.out; omega
          obtain ⟨b, o, ng, rs, vr, rfl, hSb, hx, c1, c2, hr⟩ := (H1.out.onOld hbl).cell_at hlt
          obtain ⟨bb, ob, t, ut, rfl, _, ht, b1, b2⟩ := (HA1.out.onOld hbl).sl_at hltb
          obtain ⟨Ar, cr, rfl, hr1, hr2⟩ := hr.form
          obtain ⟨At, ct, rfl, ht1, ht2⟩ := b2.form
          have HI := Lib.hid (area_at hx.out ht.out)
          have HGT := Lib.hid (set_at HGA.out.2 ht.out)
          have HGR : Hid (goodB rs = true) := (goodC_iff.1 (HL.out _ (List.mem_of_getElem? hx.out))).2.2
          have hbx := below_alloc1 wr (.cells #[.int .i64 (k : Int)] 3)
          have s7' : (wr.alloc (.cells #[.int .i64 (k : Int)] 3)).cell? ⟨wr.heap.size, 0, none⟩ = some (.int .i64 k) := cell_new _ _ _ _ _ rfl
          have z7 : (wr.alloc (.cells #[.int .i64 (k : Int)] 3)).heap.size = wr.heap.size + 1 := by simp
          generalize hwx : wr.alloc (.cells #[.int .i64 (k : Int)] 3) = wx at *
          have hby := below_alloc1 wx (.cells #[.bool ng, .slice Ar rs.length cr] 40)
          have s7 := (hby.cell (p := ⟨wr.heap.size, 0, none⟩) (show wr.heap.size < _ by omega)).trans s7'
          have s80 : (wx.alloc (.cells #[.bool ng, .slice Ar rs.length cr] 40)).cell? ⟨wr.heap.size + 1, 0, none⟩ = some (.bool ng) := by rw [← z7]; exact cell_new _ _ _ _ _ rfl
          have s81 : (wx.alloc (.cells #[.bool ng, .slice Ar rs.length cr] 40)).cell? ⟨wr.heap.size + 1, 1, none⟩ = some (.slice Ar rs.length cr) := by rw [← z7]; exact cell_new _ _ _ _ _ rfl
          have z8 : (wx.alloc (.cells #[.bool ng, .slice Ar rs.length cr] 40)).heap.size = wr.heap.size + 1 + 1 := by simp; omega
          have hbz := bx hbx hby
          have hbb : bb < wr.heap.size := World.block_lt_of_cell? wr _ b1
          have s9 := (hbz.cell (p := ⟨bb, ob + k, none⟩) hbb).trans b1
          have s3 := ((bx hbl hbz).cell (p := ⟨w.heap.size + 1, 0, none⟩) hg11).trans q1
          have HR := Lib.hid (hr.onOld hbz)
          have HT := Lib.hid (b2.onOld hbz)
          have HO := Lib.hid hown
          have hkl' : (k : Int) < a.length := by omega
          have hk0' : (0 : Int) ≤ k := by omega
          clear b2 hown hr s7'
          generalize hwy : wx.alloc (.cells #[.bool ng, .slice Ar rs.length cr] 40) = wz at *
          have l7 : wr.heap.size < wz.heap.size := by omega
          have l8 : wr.heap.size + 1 < wz.heap.size := by omega
          have l9 : bb < wz.heap.size := by omega
          have l3 : w.heap.size + 1 < wz.heap.size := by omega
          have HSL : Hid (Sl Enc.rng.slice (wz.alloc (.cells #[.slice At t.length ct, .slice Ar rs.length cr] 38)) (Old (wz.alloc (.cells #[.slice At t.length ct, .slice Ar rs.length cr] 38))) [t, rs] (.slice (some ⟨wr.heap.size + 1 + 1, 0, none⟩) 2 2)) := by
            show Sl _ _ _ _ _
            rw [← z8]
            exact lit_sets wz t rs _ _ _ HT.out HR.out
          go_wp2_with fail
          clear c1 c2 b1 hwx hwy
          go_region_held3 (fun w' => w'.cell? ⟨w.heap.size + 1, 0, none⟩ = some (.slice (some ⟨bb, ob, none⟩) a.length d) ∧ w'.cell? ⟨wr.heap.size, 0, none⟩ = some (.int .i64 k) ∧ w'.cell? ⟨wr.heap.size + 1, 0, none⟩ = some (.bool ng) ∧ w'.cell? ⟨wr.heap.size + 1, 1, none⟩ = some (.slice Ar rs.length cr) ∧ w'.cell? ⟨bb, ob + k, none⟩ = some (.slice At t.length ct))
            (first | exact ⟨s3, s7, s80, s81, s9⟩ | exact ⟨((below_alloc1 wz _).cell (p := ⟨w.heap.size + 1, 0, none⟩) l3).trans s3, ((below_alloc1 wz _).cell (p := ⟨wr.heap.size, 0, none⟩) l7).trans s7, ((below_alloc1 wz _).cell (p := ⟨wr.heap.size + 1, 0, none⟩) l8).trans s80, ((below_alloc1 wz _).cell (p := ⟨wr.heap.size + 1, 1, none⟩) l8).trans s81, ((below_alloc1 wz _).cell (p := ⟨bb, ob + k, none⟩) l9).trans s9⟩ | exact ⟨p3, p7, p80, p81, p9⟩ | exact ⟨r3, r7, r80, r81, r9⟩)
            (first
             | (go_at_call 43; refine (ref_edges [t, rs] _ _ ?_ ?_).mono ?_; exact HSL.out; exact loIn_two HGT.out HGR.out; rintro e w2 ⟨v2, l2, rfl, ho2, hi2, hm2, hb2⟩; have hbW : Below wz.heap.size wz w2 := bx (below_alloc1 wz (.cells #[.slice At t.length ct, .slice Ar rs.length cr] 38)) (undrew hb2); have p3 := (hbW.cell (p := ⟨w.heap.size + 1, 0, none⟩) l3).trans s3; have p7 := (hbW.cell (p := ⟨wr.heap.size, 0, none⟩) l7).trans s7; have p80 := (hbW.cell (p := ⟨wr.heap.size + 1, 0, none⟩) l8).trans s80; have p81 := (hbW.cell (p := ⟨wr.heap.size + 1, 1, none⟩) l8).trans s81; have p9 := (hbW.cell (p := ⟨bb, ob + k, none⟩) l9).trans s9; have HT2 := Lib.hid (HT.out.onOld hbW); have HR2 := Lib.hid (HR.out.onOld hbW); have HE2 := Lib.hid (made_part (ng := ng) HGT.out hi2 hm2); have HS2 := Lib.hid ho2.slOld; have HI2 := Lib.hid hi2; have m3 := Nat.lt_of_lt_of_le l3 hbW.size; have m7 := Nat.lt_of_lt_of_le l7 hbW.size; have m8 := Nat.lt_of_lt_of_le l8 hbW.size; have m9 := Nat.lt_of_lt_of_le l9 hbW.size; clear ho2 hi2 hm2 hb2)
             | (go_at_call 42; refine (ref_made l2 v2 44 #[.pointer (some ⟨w.heap.size + 1, 0, none⟩), .pointer (some ⟨wr.heap.size, 0, none⟩), .pointer (some ⟨wr.heap.size + 1, 0, none⟩)] (fun n => hasB t n && holdsC (ng, rs) n) _ ?_ ?_ (enters_of Tryd.func44 (by kernel_rfl) rfl) ?_).mono ?_; exact HS2.out; exact HI2.out; exact (fun n W hW => area_holds (w.heap.size + 1) wr.heap.size (wr.heap.size + 1) bb ob a.length d k ng t rs _ _ n W ((hW.cell (p := ⟨w.heap.size + 1, 0, none⟩) m3).trans p3) ((hW.cell (p := ⟨wr.heap.size, 0, none⟩) m7).trans p7) ((hW.cell (p := ⟨wr.heap.size + 1, 0, none⟩) m8).trans p80) ((hW.cell (p := ⟨wr.heap.size + 1, 1, none⟩) m8).trans p81) ((hW.cell (p := ⟨bb, ob + k, none⟩) m9).trans p9) hltb (HT2.out.onOld hW) (HR2.out.onOld hW)); rintro e w3 ⟨v3, rfl, ho3, hg3, _⟩; have hb3 : Below w2.heap.size w2 w3 := below_of_grown hg3 (Nat.le_refl _) (fun _ h => by cases h); rw [HE2.out] at ho3; have hn3 : Sl Enc.rng w3 (From w2.heap.size w3) (partV (ng, rs) t) v3 := ho3.from_; obtain ⟨A2, c2, rfl, hA1, hA2⟩ := hn3.form; have r3 := (hb3.cell (p := ⟨w.heap.size + 1, 0, none⟩) m3).trans p3; have r7 := (hb3.cell (p := ⟨wr.heap.size, 0, none⟩) m7).trans p7; have r80 := (hb3.cell (p := ⟨wr.heap.size + 1, 0, none⟩) m8).trans p80; have r81 := (hb3.cell (p := ⟨wr.heap.size + 1, 1, none⟩) m8).trans p81; have r9 := (hb3.cell (p := ⟨bb, ob + k, none⟩) m9).trans p9; have hbz2 := bx hbz (bx hbW hb3); have hfrom : wr.heap.size ≤ w2.heap.size := (bx hbz hbW).size; clear ho3 hg3 hb3))
          all_goals
            clear s3 s7 s80 s81 s9 p3 p7 p80 p81 p9 r3 r7 r80 r81 r9
            by_cases h0 : (partV (ng, rs) t).length = 0
            · have h0' : ((partV (ng, rs) t).length : Int) = 0 := by omega
              have HF := Lib.hid (fullB_take HI.out h0)
              have HFF : Hid (areaOk cs a = false) := by show _ = _; unfold areaOk; rw [HF.out]; simp
              clear h0
              go_wp2
              go_ret2
              exact AreaPost.no HFF.out (bx hb01 (bx hbl hbz2))
            · have h0' : (((partV (ng, rs) t).length : Int) == 0) = false := beq_eq_false_iff_ne.2 (by omega)
              have HFU : Hid (fullB ((areaL cs a).take (k + 1)) = true) := by
                show fullB _ = true
                rw [take_at HI.out]
                have h1 := hfull.out
                simp only [fullB, List.all_append, Bool.and_eq_true] at h1 ⊢
                refine ⟨h1, ?_⟩
                simp only [List.all_cons, List.all_nil, Bool.and_true, decide_eq_true_eq]; omega
              have HN : Hid (((areaL cs a).take k).length = k) := by have := HLI.out; rw [Hid, List.length_take]; omega
              have HTK := Lib.hid (take_at HI.out)
              clear HE2
              generalize partV (ng, rs) t = C at *
              have HO1 := Lib.hid ((HO.out.next hbz2).alloc (.cells #[.slice A2 C.length c2] 38))
              have hoff : ∀ kk, From w2.heap.size (w3.alloc (.cells #[.slice A2 C.length c2] 38)) kk → Off w1.heap.size (w3.alloc (.cells #[.slice A2 C.length c2] 38)) u6 kk := fun kk hkk => off_new HO.out hsz (Nat.le_refl _) kk ⟨Nat.le_trans hfrom hkk.1, hkk.2⟩
              have HY : Hid (Enc.rng.slice.rd (w3.alloc (.cells #[.slice A2 C.length c2] 38)) (Off w1.heap.size (w3.alloc (.cells #[.slice A2 C.length c2] 38)) u6) C [.slice A2 C.length c2]) := ⟨_, rfl, (hn3.on (below_alloc1 _ _)).more hoff⟩
              have hb4 : Below w1.heap.size w1 (w3.alloc (.cells #[.slice A2 C.length c2] 38)) := (bx hbl hbz2).alloc (Nat.le_trans hsz hbz2.size) _
              have hsz4 := hb4.size
              clear hn3 hoff
              go_wp2_with (at_builtin; refine wpList_append_one (E := Enc.rng.slice) _ rfl _ _ 49 rfl w1.heap.size w1.heap.size 38 24 (.slice none 0 0) under_box infoSet rfl (by decide) _ _ rfl HO1.out ⟨w3.heap.size, 0, none⟩ C [.slice A2 C.length c2] rfl HY.out (cell_one_new _ _ _) (by rw [HN.out]; omega) (by rw [HN.out]; unfold maxLen; omega) hsz4 ?_; intro v' w5 hown' hgrow5 _)
              refine ⟨⟨k + 1, by omega, by go_num, HFU, by rw [HTK.out]; exact hown', hb4.grown hgrow5 hsz4 (fun _ hr => (HO.out.lt _ hr).1)⟩, by simp [intOf]; omega⟩
        · go_wp2
          go_ret2
          have e : (areaL cs a).take k = areaL cs a := List.take_of_length_le (by have := HLI.out; omega)
          have hf := hfull.out
          rw [e] at hf hown
          exact AreaPost.yes (areaOk_iff.2 ⟨HNN.out, HG.out, hf⟩) ((hown.sl (Nat.le_refl _)).more fun k hk => ⟨Nat.le_trans hsz1 hk.1, hk.2⟩) (bx hb01 hbl)
  · have hne : ((cs.length : Int) != (a.length : Int)) = true := by simp; omega
    have HF : Hid (areaOk cs a = false) := by show _ = _; unfold areaOk; rw [decide_eq_false hn]; rfl
    clear hn
    go_enter Tryd.func23, Tryd.ntmps23
    go_wp2
    go_ret2
    exact AreaPost.no HF.out hb0

end Go.Proofs.YtmdljknlbmlacaaDoor
