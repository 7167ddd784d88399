/- table.part, Area, fits, overlap, slices.Compare and smallest, each as a Lean function of the data that its arguments read as. Conditions: argument slices read as lists in old memory; the ranges of each cell fit into 2^47 bytes. -/
import Derived.Test.YthnfkghgaagaiabTableF
import Derived.Test.YthnfkghgaagaiabTabsGap
import Derived.Test.YthnfkghgaagaiabBoxRest
namespace Go.Proofs.Ythnfkghgaagaiab
open Go.RowKit

theorem AddPost.new {l : List (Int × Int)} {w w' : World} {e : Ending} (h : AddPost w.heap.size (.slice none 0 0) l w e w') : NewPost Enc.rng l w e w' := by
  obtain ⟨v, h1, h2, h3, _⟩ := h
  exact ⟨v, h1, h2.from_, below_of_grown h3 (Nat.le_refl _) (fun _ h => by cases h)⟩
/-- new for a later world is new for an earlier one -/
theorem NewPost.from {α : Type} {E : Enc α} {l : List α} {w w0 w' : World} {e : Ending} (hb : Below w.heap.size w w0) (h : NewPost E l w0 e w') : NewPost E l w e w' := by
  obtain ⟨v, h1, h2, h3⟩ := h
  exact ⟨v, h1, h2.more fun k hk => ⟨Nat.le_trans hb.size hk.1, hk.2⟩, bx hb h3⟩

set_option maxHeartbeats 400000 in
theorem table_part (ng : Bool) (rs s : List (Int × Int)) (vc vs : Value) (w : World) (h : Sl Enc.rng w (Old w) rs vc) (h' : Sl Enc.rng w (Old w) s vs) (hl : rs.length * 16 ≤ 140737488355328) (hs : goodB s = true) :
    Calls Try.prog 47 #[.agg #[.bool ng, vc], vs] w (NewPost Enc.rng (partV (ng, rs) s) w) := by
  have H := Lib.hid h
  have HSS := Lib.hid h'
  have ls := set_len hs
  have HN := Lib.hid (normL_good rs)
  have ln := set_len HN.out.1
  clear hs
  obtain ⟨A, c, rfl, hc1, hc2, -⟩ := h
  obtain ⟨B, d, rfl, hd1, hd2, -⟩ := h'
  unfold maxLen at hc2 hd2
  have hb0 := below_alloc1 w (.cells #[.bool ng, .slice A rs.length c] 77)
  generalize hw0 : w.alloc (.cells #[.bool ng, .slice A rs.length c] 77) = w0 at *
  have hg0 : w.heap.size < w0.heap.size := by rw [← hw0]; simp
  have k0 : w0.cell? ⟨w.heap.size, 0, none⟩ = some (.bool ng) := by rw [← hw0]; exact cell_new _ _ _ _ _ rfl
  have k1 : w0.cell? ⟨w.heap.size, 1, none⟩ = some (.slice A rs.length c) := by rw [← hw0]; exact cell_new _ _ _ _ _ rfl
  have H0 := Lib.hid (H.out.onOld hb0)
  have HS0 := Lib.hid (HSS.out.onOld hb0)
  by_cases h0 : rs.length = 0
  · have HE : Hid (partV (ng, rs) s = s) := by show _ = _; unfold partV; rw [if_pos h0]
    have h0' : ((rs.length : Int) == 0) = true := by rw [h0]; rfl
    generalize rs.length = N at *
    generalize partV (ng, rs) s = R at *
    clear h0
    go_enter Try.func47, Try.ntmps47
    go_wp2_with fail
    refine (slices_Clone s _ _ HS0.out (by omega)).mono ?_
    rintro e w1 ⟨v1, rfl, hn1, hb1⟩
    go_wp2
    go_ret
    rw [HE.out]
    exact NewPost.from hb0 ⟨v1, rfl, hn1, hb1⟩
  · have h0' : ((rs.length : Int) == 0) = false := beq_eq_false_iff_ne.2 (by omega)
    have HE : Hid (partV (ng, rs) s = if ng then lessF s (normL rs) else bothF s (normL rs)) := by show _ = _; unfold partV; rw [if_neg h0]
    generalize partV (ng, rs) s = R at *
    go_enter Try.func47, Try.ntmps47
    go_wp2_with fail
    refine (span_Norm rs _ _ H0.out hl).mono ?_
    rintro e w1 ha1
    obtain ⟨v1, rfl, hn1, hb1⟩ := AddPost.new ha1
    have j0 := (hb1.cell (p := ⟨w.heap.size, 0, none⟩) hg0).trans k0
    have HN1 := Lib.hid (hn1.more (S' := Old w1) fun _ h => h.2)
    have HS1 := Lib.hid (HS0.out.onOld hb1)
    have hb01 := bx hb0 hb1
    clear ha1 hn1 hb1 hw0
    cases ng
    · go_wp2_with fail
      refine (span_Both s (normL rs) _ _ _ HS1.out HN1.out (by omega)).mono ?_
      rintro e w2 ha2
      obtain ⟨v2, rfl, hn2, hb2⟩ := AddPost.new ha2
      go_wp2
      go_ret
      rw [HE.out]
      exact NewPost.from hb01 ⟨v2, rfl, hn2, hb2⟩
    · go_wp2_with fail
      refine (span_Less s (normL rs) _ _ _ HS1.out HN1.out (by omega) (good_allIn HN.out.1)).mono ?_
      rintro e w2 ha2
      obtain ⟨v2, rfl, hn2, hb2⟩ := AddPost.new ha2
      go_wp2
      go_ret
      rw [HE.out]
      exact NewPost.from hb01 ⟨v2, rfl, hn2, hb2⟩

theorem area_at {cs : List CellD} {a : BoxD} {k : Nat} {c : CellD} {s : List (Int × Int)} (h : cs[k]? = some c) (h' : a[k]? = some s) : (areaL cs a)[k]? = some (partV c s) := by
  unfold areaL; rw [List.getElem?_zipWith, h, h']
theorem AreaPost.no {cs : List CellD} {a : BoxD} {w w' : World} (h : areaOk cs a = false) (hb : Below w.heap.size w w') : BothPost (areaV cs a) (areaOk cs a) w (.returned (.tuple #[.slice none 0 0, .bool false])) w' := by
  unfold areaV; rw [h]; exact ⟨_, rfl, Sl.nil, hb⟩
theorem AreaPost.yes {cs : List CellD} {a : BoxD} {w w' : World} {v : Value} (h : areaOk cs a = true) (hs : Sl Enc.rng.slice w' (From w.heap.size w') (areaL cs a) v) (hb : Below w.heap.size w w') : BothPost (areaV cs a) (areaOk cs a) w (.returned (.tuple #[v, .bool true])) w' := by
  unfold areaV; rw [h]; exact ⟨v, rfl, hs, hb⟩

set_option maxRecDepth 100000 in
set_option maxHeartbeats 1000000 in
theorem table_Area (cs : List CellD) (x : Int) (a : BoxD) (vc va : Value) (w : World) (h : Sl Enc.cell w (Old w) cs vc) (h' : Sl Enc.rng.slice w (Old w) a va) (hl : ∀ c, c ∈ cs → c.2.length * 16 ≤ 140737488355328) :
    Calls Try.prog 28 #[.agg #[vc, .int .i64 x], va] w (BothPost (areaV cs a) (areaOk cs a) w) := by
  have H := Lib.hid h
  have HA := Lib.hid h'
  have HL := Lib.hid hl
  clear hl
  obtain ⟨A, c, rfl, hc1, hc2, -⟩ := h
  obtain ⟨B, d, rfl, hd1, hd2, -⟩ := h'
  unfold maxLen at hc2 hd2
  have hb0 := below_alloc1 w (.cells #[.slice A cs.length c, .int .i64 x] 43)
  have HA0 := Lib.hid (HA.out.onOld hb0)
  have H0 := Lib.hid (H.out.onOld hb0)
  have k0 : (w.alloc (.cells #[.slice A cs.length c, .int .i64 x] 43)).cell? ⟨w.heap.size, 0, none⟩ = some (.slice A cs.length c) := cell_new _ _ _ _ _ rfl
  have hg0 : w.heap.size < (w.alloc (.cells #[.slice A cs.length c, .int .i64 x] 43)).heap.size := by simp
  by_cases hn : cs.length = a.length
  · have hne : ((cs.length : Int) != (a.length : Int)) = false := by simp [hn]
    have HNN := Lib.hid hn
    clear hn
    go_enter Try.func28, Try.ntmps28
    go_wp2_with fail
    refine (box_Good a _ _ _ HA0.out).mono ?_
    rintro e w1 ⟨rfl, hb1⟩
    have k1 := (hb1.cell (p := ⟨w.heap.size, 0, none⟩) hg0).trans k0
    have HA1 := Lib.hid (HA0.out.onOld hb1)
    have H1 := Lib.hid (H0.out.onOld hb1)
    have hb01 := bx hb0 hb1
    have hsz1 := hb01.size
    clear k0 hg0 hb0 hb1 HA0 H0
    cases hg : goodBox a a.length
    · have HF : Hid (areaOk cs a = false) := by show _ = _; unfold areaOk; rw [hg]; simp
      clear hg
      go_wp2
      go_ret2
      exact AreaPost.no HF.out hb01
    · have HG := Lib.hid hg
      have HGA := Lib.hid (goodBox_iff.1 hg)
      have lenA : a.length ≤ 3 := by have := HGA.out; omega
      clear hg
      have HLI : Hid ((areaL cs a).length = cs.length) := by show _ = _; rw [area_length HNN.out, HNN.out]
      go_wp2
      go_loopw [6, 26] (fun u i wr => ∃ k : Nat, k ≤ cs.length ∧ i = .int .i64 k ∧ Hid (fullB ((areaL cs a).take k) = true) ∧ OwnG Enc.rng.slice wr w1.heap.size w1.heap.size 71 u ((areaL cs a).take k) ∧ Below w1.heap.size w1 wr) (fun _ i _ => cs.length - (intOf i).toNat)
      case atStart => exact ⟨0, Nat.zero_le _, rfl, rfl, OwnG.nil, Below.refl _ _⟩
      case round =>
        obtain ⟨k, hk, rfl, hfull, hown, hbl⟩ := hrel
        have hsz := hbl.size
        by_cases hlt : k < cs.length
        · have hltb : k < a.length := by have := HNN.out; omega
          obtain ⟨b, o, ng, rs, vr, rfl, hSb, hx, c1, c2, hr⟩ := (H1.out.onOld hbl).cell_at hlt
          obtain ⟨bb, ob, t, ut, rfl, _, ht, b1, b2⟩ := (HA1.out.onOld hbl).sl_at hltb
          obtain ⟨Ar, cr, rfl, hr1, hr2⟩ := hr.form
          have hbz := below_alloc1 wr (.cells #[.bool ng, .slice Ar rs.length cr] 77)
          have HR := Lib.hid (hr.onOld hbz)
          have HT := Lib.hid (b2.onOld hbz)
          have HO := Lib.hid hown
          have HI := Lib.hid (area_at hx.out ht.out)
          have HGT := Lib.hid (set_at HGA.out.2 ht.out)
          have HRL := Lib.hid (HL.out _ (List.mem_of_getElem? hx.out))
          have q0 : (wr.alloc (.cells #[.bool ng, .slice Ar rs.length cr] 77)).cell? ⟨wr.heap.size, 0, none⟩ = some (.bool ng) := cell_new _ _ _ _ _ rfl
          have q1 : (wr.alloc (.cells #[.bool ng, .slice Ar rs.length cr] 77)).cell? ⟨wr.heap.size, 1, none⟩ = some (.slice Ar rs.length cr) := cell_new _ _ _ _ _ rfl
          have hbb : bb < wr.heap.size := World.block_lt_of_cell? wr _ b1
          have q2 := (hbz.cell (p := ⟨bb, ob + k, none⟩) hbb).trans b1
          have hkl' : (k : Int) < a.length := by omega
          have hk0' : (0 : Int) ≤ k := by omega
          clear b2 hown hr
          go_wp2_with fail
          generalize wr.alloc (.cells #[.bool ng, .slice Ar rs.length cr] 77) = w0 at *
          clear c1 c2 b1
          have hb0l := bx hbl hbz
          go_still_tail 5, (by kernel_rfl)
          go_wp2_with fail
          refine (table_part ng rs t _ _ _ (by exact HR.out) (by exact HT.out) HRL.out HGT.out).mono ?_
          rintro e w2 ⟨v2, rfl, hn2', hb2'⟩
          have hb2 : Below w0.heap.size w0 w2 := undrew hb2'
          have hn2 : Sl Enc.rng w2 (From w0.heap.size w2) (partV (ng, rs) t) v2 := hn2'
          obtain ⟨A2, c2, rfl, hA1, hA2⟩ := hn2.form
          clear hn2' hb2' q0 q1 q2
          have hbz2 := bx hbz hb2
          by_cases h0 : (partV (ng, rs) t).length = 0
          · have h0' : ((partV (ng, rs) t).length : Int) = 0 := by omega
            have HF := Lib.hid (fullB_take HI.out h0)
            have HFF : Hid (areaOk cs a = false) := by show _ = _; unfold areaOk; rw [HF.out]; simp
            clear h0
            go_wp2
            go_ret2
            exact AreaPost.no HFF.out (bx hb01 (bx hbl hbz2))
          · have h0' : (((partV (ng, rs) t).length : Int) == 0) = false := beq_eq_false_iff_ne.2 (by omega)
            have HFU : Hid (fullB ((areaL cs a).take (k + 1)) = true) := by
              show fullB _ = true
              rw [take_at HI.out]
              have h1 := hfull.out
              simp only [fullB, List.all_append, Bool.and_eq_true] at h1 ⊢
              refine ⟨h1, ?_⟩
              simp only [List.all_cons, List.all_nil, Bool.and_true, decide_eq_true_eq]; omega
            have HN : Hid (((areaL cs a).take k).length = k) := by have := HLI.out; rw [Hid, List.length_take]; omega
            have HTK := Lib.hid (take_at HI.out)
            generalize partV (ng, rs) t = C at *
            have HO1 := Lib.hid ((HO.out.next hbz2).alloc (.cells #[.slice A2 C.length c2] 71))
            have hoff : ∀ kk, From w0.heap.size (w2.alloc (.cells #[.slice A2 C.length c2] 71)) kk → Off w1.heap.size (w2.alloc (.cells #[.slice A2 C.length c2] 71)) u6 kk := fun kk hkk => off_new HO.out hsz (Nat.le_refl _) kk ⟨Nat.le_trans hbz.size hkk.1, hkk.2⟩
            have HY : Hid (Enc.rng.slice.rd (w2.alloc (.cells #[.slice A2 C.length c2] 71)) (Off w1.heap.size (w2.alloc (.cells #[.slice A2 C.length c2] 71)) u6) C [.slice A2 C.length c2]) := ⟨_, rfl, (hn2.on (below_alloc1 _ _)).more hoff⟩
            have hb3 : Below w1.heap.size w1 (w2.alloc (.cells #[.slice A2 C.length c2] 71)) := (bx hbl hbz2).alloc (Nat.le_trans hsz hbz2.size) _
            have hsz2 := hb3.size
            clear hn2 hb2 hoff
            go_wp2_with (at_builtin; refine wpList_append_one (E := Enc.rng.slice) _ rfl _ _ 27 rfl w1.heap.size w1.heap.size 71 24 (.slice none 0 0) under_box infoSet rfl (by decide) _ _ rfl HO1.out ⟨w2.heap.size, 0, none⟩ C [.slice A2 C.length c2] rfl HY.out (cell_one_new _ _ _) (by rw [HN.out]; omega) (by rw [HN.out]; unfold maxLen; omega) hsz2 ?_; intro v' w3 hown' hgrow3 _)
            refine ⟨⟨k + 1, by omega, by go_num, HFU, by rw [HTK.out]; exact hown', hb3.grown hgrow3 hsz2 (fun _ hr => (HO.out.lt _ hr).1)⟩, by simp [intOf]; omega⟩
        · go_wp2
          go_ret2
          have e : (areaL cs a).take k = areaL cs a := List.take_of_length_le (by have := HLI.out; omega)
          have hf := hfull.out
          rw [e] at hf hown
          exact AreaPost.yes (areaOk_iff.2 ⟨HNN.out, HG.out, hf⟩) ((hown.sl (Nat.le_refl _)).more fun k hk => ⟨Nat.le_trans hsz1 hk.1, hk.2⟩) (bx hb01 hbl)
  · have hne : ((cs.length : Int) != (a.length : Int)) = true := by simp; omega
    have HF : Hid (areaOk cs a = false) := by show _ = _; unfold areaOk; rw [decide_eq_false hn]; rfl
    clear hn
    go_enter Try.func28, Try.ntmps28
    go_wp2
    go_ret2
    exact AreaPost.no HF.out hb0

set_option maxHeartbeats 400000 in
theorem table_fits (t : TabD) (a : BoxD) (v va : Value) (w : World) (h : TabAt w (Old w) t v) (h' : Sl Enc.rng.slice w (Old w) a va) (hs : smallT t) :
    Calls Try.prog 27 #[v, va] w fun e w' => e = .returned (.bool (fitsB t a)) ∧ Below w.heap.size w w' := by
  have HS := Lib.hid hs
  have HT := Lib.hid h
  have HA := Lib.hid h'
  have HE : Hid (fitsB t a = (goodT t && goodBox a t.ins.length)) := rfl
  obtain ⟨nm, pol, comp, ins, rules⟩ := t
  obtain ⟨vi, vr, rfl, hi, hr⟩ := h
  simp only at hi hr HE
  clear hs
  obtain ⟨Ai, ci, rfl, hi1, hi2, -⟩ := hi
  obtain ⟨A, c, rfl, hc1, hc2, -⟩ := hr
  obtain ⟨B, d, rfl, hd1, hd2, -⟩ := h'
  unfold maxLen at hi2 hc2 hd2
  generalize fitsB ⟨nm, pol, comp, ins, rules⟩ a = R at *
  have hb0 := below_alloc1 w (.cells #[.string nm, .int .i64 pol, .bool comp, .slice Ai ins.length ci, .slice A rules.length c] 25)
  generalize hw0 : w.alloc (.cells #[.string nm, .int .i64 pol, .bool comp, .slice Ai ins.length ci, .slice A rules.length c] 25) = w0 at *
  have hg0 : w.heap.size < w0.heap.size := by rw [← hw0]; simp
  have k0 : w0.cell? ⟨w.heap.size, 0, none⟩ = some (.string nm) := by rw [← hw0]; exact cell_new _ _ _ _ _ rfl
  have k1 : w0.cell? ⟨w.heap.size, 1, none⟩ = some (.int .i64 pol) := by rw [← hw0]; exact cell_new _ _ _ _ _ rfl
  have k2 : w0.cell? ⟨w.heap.size, 2, none⟩ = some (.bool comp) := by rw [← hw0]; exact cell_new _ _ _ _ _ rfl
  have k3 : w0.cell? ⟨w.heap.size, 3, none⟩ = some (.slice Ai ins.length ci) := by rw [← hw0]; exact cell_new _ _ _ _ _ rfl
  have k4 : w0.cell? ⟨w.heap.size, 4, none⟩ = some (.slice A rules.length c) := by rw [← hw0]; exact cell_new _ _ _ _ _ rfl
  have HT0 := Lib.hid (HT.out.onOld hb0)
  go_enter Try.func27, Try.ntmps27
  go_wp2_with fail
  refine (table_Good _ _ _ HT0.out HS.out).mono ?_
  rintro e w1 ⟨rfl, hb1⟩
  have j3 := (hb1.cell (p := ⟨w.heap.size, 3, none⟩) hg0).trans k3
  have hb01 := bx hb0 hb1
  have HA1 := Lib.hid (HA.out.onOld hb01)
  clear k0 k1 k2 k3 k4 hw0 hb1
  cases hg : goodT ⟨nm, pol, comp, ins, rules⟩
  · have HG := Lib.hid hg
    clear hg
    go_wp2
    go_ret
    exact ⟨ret_bool (by rw [HE.out, HG.out]; rfl), hb01⟩
  · have HG := Lib.hid hg
    clear hg
    go_wp2_with fail
    refine (box_Good a _ _ _ HA1.out).mono ?_
    rintro e w2 ⟨rfl, hb2⟩
    go_wp2
    go_ret
    exact ⟨ret_bool (by rw [HE.out, HG.out]; rfl), bx hb01 hb2⟩

def overL (a : BoxD) (r s : RuleD) : BoxD := if areaOk r.1 a && areaOk s.1 (areaL r.1 a) then areaL s.1 (areaL r.1 a) else []
def overOk (a : BoxD) (r s : RuleD) : Bool := areaOk r.1 a && areaOk s.1 (areaL r.1 a)

set_option maxHeartbeats 400000 in
theorem table_overlap (r s : RuleD) (a : BoxD) (vr vs va : Value) (w : World) (hr : Sl Enc.cell w (Old w) r.1 vr) (hs : Sl Enc.cell w (Old w) s.1 vs) (ha : Sl Enc.rng.slice w (Old w) a va)
    (hlr : ∀ c, c ∈ r.1 → c.2.length * 16 ≤ 140737488355328) (hls : ∀ c, c ∈ s.1 → c.2.length * 16 ≤ 140737488355328) :
    Calls Try.prog 32 #[.agg #[vr, .int .i64 r.2], .agg #[vs, .int .i64 s.2], va] w (BothPost (overL a r s) (overOk a r s) w) := by
  obtain ⟨cr, xr⟩ := r
  obtain ⟨cs, xs⟩ := s
  simp only at hr hs hlr hls ⊢
  have HR := Lib.hid hr
  have HS := Lib.hid hs
  have HA := Lib.hid ha
  have HLR := Lib.hid hlr
  have HLS := Lib.hid hls
  clear hlr hls
  have HE1 : Hid (overL a (cr, xr) (cs, xs) = if areaOk cr a && areaOk cs (areaL cr a) then areaL cs (areaL cr a) else []) := rfl
  have HE2 : Hid (overOk a (cr, xr) (cs, xs) = (areaOk cr a && areaOk cs (areaL cr a))) := rfl
  generalize overL a (cr, xr) (cs, xs) = R1 at *
  generalize overOk a (cr, xr) (cs, xs) = R2 at *
  obtain ⟨A, c, rfl, hc1, hc2, -⟩ := hr
  obtain ⟨B, d, rfl, hd1, hd2, -⟩ := hs
  obtain ⟨C, f, rfl, hf1, hf2, -⟩ := ha
  unfold maxLen at hc2 hd2 hf2
  have hb0 := below_alloc1 w (.cells #[.slice A cr.length c, .int .i64 xr] 43)
  have q0 : (w.alloc (.cells #[.slice A cr.length c, .int .i64 xr] 43)).cell? ⟨w.heap.size, 0, none⟩ = some (.slice A cr.length c) := cell_new _ _ _ _ _ rfl
  have q1 : (w.alloc (.cells #[.slice A cr.length c, .int .i64 xr] 43)).cell? ⟨w.heap.size, 1, none⟩ = some (.int .i64 xr) := cell_new _ _ _ _ _ rfl
  have hg0 : w.heap.size < (w.alloc (.cells #[.slice A cr.length c, .int .i64 xr] 43)).heap.size := by simp
  have hs0 : (w.alloc (.cells #[.slice A cr.length c, .int .i64 xr] 43)).heap.size = w.heap.size + 1 := by simp
  generalize hw0 : w.alloc (.cells #[.slice A cr.length c, .int .i64 xr] 43) = w0 at *
  have hbz := below_alloc1 w0 (.cells #[.slice B cs.length d, .int .i64 xs] 43)
  have q2 : (w0.alloc (.cells #[.slice B cs.length d, .int .i64 xs] 43)).cell? ⟨w.heap.size + 1, 0, none⟩ = some (.slice B cs.length d) := by rw [← hs0]; exact cell_new _ _ _ _ _ rfl
  have q3 : (w0.alloc (.cells #[.slice B cs.length d, .int .i64 xs] 43)).cell? ⟨w.heap.size + 1, 1, none⟩ = some (.int .i64 xs) := by rw [← hs0]; exact cell_new _ _ _ _ _ rfl
  have hg1 : w.heap.size + 1 < (w0.alloc (.cells #[.slice B cs.length d, .int .i64 xs] 43)).heap.size := by simp; omega
  generalize hw1 : w0.alloc (.cells #[.slice B cs.length d, .int .i64 xs] 43) = w1 at *
  have p0 := (hbz.cell (p := ⟨w.heap.size, 0, none⟩) hg0).trans q0
  have p1 := (hbz.cell (p := ⟨w.heap.size, 1, none⟩) hg0).trans q1
  have hb01 := bx hb0 hbz
  have HR1 := Lib.hid (HR.out.onOld hb01)
  have HS1 := Lib.hid (HS.out.onOld hb01)
  have HA1 := Lib.hid (HA.out.onOld hb01)
  go_enter Try.func32, Try.ntmps32
  go_wp2_with fail
  refine (table_Area cr xr a _ _ _ HR1.out HA1.out HLR.out).mono ?_
  rintro e w2 ⟨v2, rfl, hn2, hb2⟩
  obtain ⟨A2, c2, rfl, -, -⟩ := hn2.form
  have j2 := (hb2.cell (p := ⟨w.heap.size + 1, 0, none⟩) hg1).trans q2
  have j3 := (hb2.cell (p := ⟨w.heap.size + 1, 1, none⟩) hg1).trans q3
  have hb02 := bx hb01 hb2
  have HS2 := Lib.hid (HS1.out.onOld hb2)
  have HN2 := Lib.hid (hn2.more (S' := Old w2) fun _ h => h.2)
  clear hn2 hw0 hw1 q0 q1 q2 q3 p0 p1
  cases hok : areaOk cr a
  · have HV1 : Hid (R1 = []) := by show _ = _; rw [HE1.out, hok]; rfl
    have HV2 : Hid (R2 = false) := by show _ = _; rw [HE2.out, hok]; rfl
    clear hok
    go_wp2
    go_ret2
    rw [HV1.out, HV2.out]
    exact ⟨_, rfl, Sl.nil, hb02⟩
  · have HK := Lib.hid hok
    have eV : areaV cr a = areaL cr a := by unfold areaV; rw [hok]; rfl
    rw [eV] at HN2 ⊢
    clear hok eV
    go_wp2_with fail
    refine (table_Area cs xs (areaL cr a) _ _ _ HS2.out HN2.out HLS.out).mono ?_
    rintro e w3 ⟨v3, rfl, hn3, hb3⟩
    go_wp2
    go_ret2
    have e1 : areaV cs (areaL cr a) = R1 := by rw [HE1.out, HK.out]; unfold areaV; rfl
    have e2 : areaOk cs (areaL cr a) = R2 := by rw [HE2.out, HK.out]; rfl
    rw [e1] at hn3
    rw [e2]
    exact ⟨v3, rfl, hn3.more fun k hk => ⟨Nat.le_trans hb02.size hk.1, hk.2⟩, bx hb02 hb3⟩

theorem cmpL_at {a b : List Int} {k : Nat} {x y : Int} (h : a[k]? = some x) (h' : b[k]? = some y) : cmpL (a.drop k) (b.drop k) = if x < y then -1 else if y < x then 1 else cmpL (a.drop (k + 1)) (b.drop (k + 1)) := by
  rw [drop_at h, drop_at h']; rfl

set_option maxHeartbeats 400000 in
theorem slices_Compare (a b : List Int) (va vb : Value) (w : World) (ha : Sl Enc.int w (Old w) a va) (hb : Sl Enc.int w (Old w) b vb) :
    Calls Try.prog 49 #[va, vb] w fun e w' => e = .returned (.int .i64 (cmpL a b)) ∧ Below w.heap.size w w' := by
  have HA := Lib.hid ha
  have HB := Lib.hid hb
  have hcon := fun x y W' => AnyG.cmp_Compare_int Try.cmpInt x y W'
  change ∀ x y W', Calls Try.prog 68 _ _ _ at hcon
  obtain ⟨A, c, rfl, hc1, hc2, -⟩ := ha
  obtain ⟨B, d, rfl, hd1, hd2, -⟩ := hb
  unfold maxLen at hc2 hd2
  go_enter Try.func49, Try.ntmps49
  go_wp2
  go_loopw [11] (fun i wr => ∃ k : Nat, k ≤ a.length ∧ k ≤ b.length ∧ i = .int .i64 k ∧ Hid (cmpL a b = cmpL (a.drop k) (b.drop k)) ∧ Below w.heap.size w wr) (fun i _ => a.length - (intOf i).toNat)
  case atStart => exact ⟨0, Nat.zero_le _, Nat.zero_le _, rfl, rfl, Below.refl _ _⟩
  case round =>
    obtain ⟨k, hk, hk2, rfl, hf, hbl⟩ := hrel
    by_cases hlt : k < a.length
    · obtain ⟨ba, oa, x, rfl, _, hx, c1⟩ := (HA.out.onOld hbl).num_at hlt
      by_cases hlb : k < b.length
      · obtain ⟨bb, ob, y, rfl, _, hy, c2⟩ := (HB.out.onOld hbl).num_at hlb
        have HC := Lib.hid (cmpL_at hx.out hy.out)
        by_cases h1 : x < y
        · have hcp : Lib.compareInt x y = -1 := by unfold Lib.compareInt; rw [if_pos h1]
          have HV : Hid (cmpL a b = -1) := by show _ = _; rw [hf.out, HC.out, if_pos h1]
          go_wp2_with fail
          refine (hcon x y _).mono ?_
          rintro e w1 ⟨rfl, rfl⟩
          rw [hcp]
          go_wp2
          go_ret
          exact ⟨ret_int HV.out.symm, hbl⟩
        · by_cases h2 : y < x
          · have hcp : Lib.compareInt x y = 1 := by unfold Lib.compareInt; rw [if_neg h1, if_pos h2]
            have HV : Hid (cmpL a b = 1) := by show _ = _; rw [hf.out, HC.out, if_neg h1, if_pos h2]
            go_wp2_with fail
            refine (hcon x y _).mono ?_
            rintro e w1 ⟨rfl, rfl⟩
            rw [hcp]
            go_wp2
            go_ret
            exact ⟨ret_int HV.out.symm, hbl⟩
          · have hcp : Lib.compareInt x y = 0 := by unfold Lib.compareInt; rw [if_neg h1, if_neg h2]
            have HV : Hid (cmpL a b = cmpL (a.drop (k + 1)) (b.drop (k + 1))) := by show _ = _; rw [hf.out, HC.out, if_neg h1, if_neg h2]
            go_wp2_with fail
            refine (hcon x y _).mono ?_
            rintro e w1 ⟨rfl, rfl⟩
            rw [hcp]
            go_wp2
            exact ⟨⟨k + 1, by omega, by omega, by go_num, HV, hbl⟩, by simp [intOf]; omega⟩
      · have hbl' : (b.length : Int) ≤ k := by omega
        have HV : Hid (cmpL a b = 1) := by
          show _ = _
          rw [hf.out, drop_at hx.out, List.drop_of_length_le (show b.length ≤ k by omega)]; rfl
        go_wp2
        go_ret
        exact ⟨ret_int HV.out.symm, hbl⟩
    · have hf' := hf.out
      rw [List.drop_of_length_le (by omega)] at hf'
      by_cases hlb : a.length < b.length
      · have HV : Hid (cmpL a b = -1) := by
          show _ = _
          rw [hf']
          have : k < b.length := by omega
          rw [List.drop_eq_getElem_cons this]; rfl
        have hlb' : (a.length : Int) < b.length := by omega
        clear hf'
        go_wp2
        go_ret
        exact ⟨ret_int HV.out.symm, hbl⟩
      · have HV : Hid (cmpL a b = 0) := by
          show _ = _
          rw [hf', List.drop_of_length_le (by omega)]; rfl
        have hlb' : (b.length : Int) ≤ a.length := by omega
        clear hf'
        go_wp2
        go_ret
        exact ⟨ret_int HV.out.symm, hbl⟩

end Go.Proofs.Ythnfkghgaagaiab
