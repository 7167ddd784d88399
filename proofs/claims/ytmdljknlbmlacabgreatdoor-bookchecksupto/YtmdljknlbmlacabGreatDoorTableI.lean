/- table.part, Area, fits, overlap, slices.Compare and smallest, each as a Lean function of the data that its arguments read as. Conditions: argument slices read as lists in old memory; the ranges of each cell fit into 2^47 bytes. table.smallest, Gap and Clash, each as a Lean function of the data that its arguments read as. Conditions: argument slices read as lists in old memory; names and lists fit into 2^47 bytes. table.Clash, as a Lean function of the data that its arguments read as. Conditions: argument slices read as lists in old memory; names and lists fit into 2^47 bytes. -/
import Derived.Test.YtmdljknlbmlacabGreatDoorTableF
import Derived.Test.YtmdljknlbmlacabGreatDoorTabsSays
import Derived.Test.YtmdljknlbmlacabGreatDoorBoxRest
namespace Go.Proofs.YtmdljknlbmlacabGreatDoor
open Go.RowKit

theorem AddPost.new {l : List (Int × Int)} {w w' : World} {e : Ending} (h : AddPost w.heap.size (.slice none 0 0) l w e w') : NewPost Enc.rng l w e w' := by
  obtain ⟨v, h1, h2, h3, _⟩ := h
  exact ⟨v, h1, h2.from_, below_of_grown h3 (Nat.le_refl _) (fun _ h => by cases h)⟩
/-- new for a later world is new for an earlier one -/
theorem NewPost.from {α : Type} {E : Enc α} {l : List α} {w w0 w' : World} {e : Ending} (hb : Below w.heap.size w w0) (h : NewPost E l w0 e w') : NewPost E l w e w' := by
  obtain ⟨v, h1, h2, h3⟩ := h
  exact ⟨v, h1, h2.more fun k hk => ⟨Nat.le_trans hb.size hk.1, hk.2⟩, bx hb h3⟩

set_option maxHeartbeats 400000 in
theorem table_part (ng : Bool) (rs s : List (Int × Int)) (vc vs : Value) (w : World) (h : Sl Enc.rng w (Old w) rs vc) (h' : Sl Enc.rng w (Old w) s vs) (hl : rs.length * 16 ≤ 140737488355328) (hs : goodB s = true) :
    Calls Tryz.prog 124 #[.agg #[.bool ng, vc], vs] w (NewPost Enc.rng (partV (ng, rs) s) w) := by
  have H := Lib.hid h
  have HSS := Lib.hid h'
  have ls := set_len hs
  have HN := Lib.hid (normL_good rs)
  have ln := set_len HN.out.1
  clear hs
  obtain ⟨A, c, rfl, hc1, hc2, -⟩ := h
  obtain ⟨B, d, rfl, hd1, hd2, -⟩ := h'
  unfold maxLen at hc2 hd2
  have hb0 := below_alloc1 w (.cells #[.bool ng, .slice A rs.length c] 79)
  generalize hw0 : w.alloc (.cells #[.bool ng, .slice A rs.length c] 79) = w0 at *
  have hg0 : w.heap.size < w0.heap.size := by rw [← hw0]; simp
  have k0 : w0.cell? ⟨w.heap.size, 0, none⟩ = some (.bool ng) := by rw [← hw0]; exact cell_new _ _ _ _ _ rfl
  have k1 : w0.cell? ⟨w.heap.size, 1, none⟩ = some (.slice A rs.length c) := by rw [← hw0]; exact cell_new _ _ _ _ _ rfl
  have H0 := Lib.hid (H.out.onOld hb0)
  have HS0 := Lib.hid (HSS.out.onOld hb0)
  by_cases h0 : rs.length = 0
  · have HE : Hid (partV (ng, rs) s = s) := by show _ = _; unfold partV; rw [if_pos h0]
    have h0' : ((rs.length : Int) == 0) = true := by rw [h0]; rfl
    generalize rs.length = N at *
    generalize partV (ng, rs) s = R at *
    clear h0
    go_enter Tryz.func124, Tryz.ntmps124
    go_wp2_with fail
    refine (slices_Clone s _ _ HS0.out (by omega)).mono ?_
    rintro e w1 ⟨v1, rfl, hn1, hb1⟩
    go_wp2
    go_ret
    rw [HE.out]
    exact NewPost.from hb0 ⟨v1, rfl, hn1, hb1⟩
  · have h0' : ((rs.length : Int) == 0) = false := beq_eq_false_iff_ne.2 (by omega)
    have HE : Hid (partV (ng, rs) s = if ng then lessF s (normL rs) else bothF s (normL rs)) := by show _ = _; unfold partV; rw [if_neg h0]
    generalize partV (ng, rs) s = R at *
    go_enter Tryz.func124, Tryz.ntmps124
    go_wp2_with fail
    refine (span_Norm rs _ _ H0.out hl).mono ?_
    rintro e w1 ha1
    obtain ⟨v1, rfl, hn1, hb1⟩ := AddPost.new ha1
    have j0 := (hb1.cell (p := ⟨w.heap.size, 0, none⟩) hg0).trans k0
    have HN1 := Lib.hid (hn1.more (S' := Old w1) fun _ h => h.2)
    have HS1 := Lib.hid (HS0.out.onOld hb1)
    have hb01 := bx hb0 hb1
    clear ha1 hn1 hb1 hw0
    cases ng
    · go_wp2_with fail
      refine (span_Both s (normL rs) _ _ _ HS1.out HN1.out (by omega)).mono ?_
      rintro e w2 ha2
      obtain ⟨v2, rfl, hn2, hb2⟩ := AddPost.new ha2
      go_wp2
      go_ret
      rw [HE.out]
      exact NewPost.from hb01 ⟨v2, rfl, hn2, hb2⟩
    · go_wp2_with fail
      refine (span_Less s (normL rs) _ _ _ HS1.out HN1.out (by omega) (good_allIn HN.out.1)).mono ?_
      rintro e w2 ha2
      obtain ⟨v2, rfl, hn2, hb2⟩ := AddPost.new ha2
      go_wp2
      go_ret
      rw [HE.out]
      exact NewPost.from hb01 ⟨v2, rfl, hn2, hb2⟩

theorem area_at {cs : List CellD} {a : BoxD} {k : Nat} {c : CellD} {s : List (Int × Int)} (h : cs[k]? = some c) (h' : a[k]? = some s) : (areaL cs a)[k]? = some (partV c s) := by
  unfold areaL; rw [List.getElem?_zipWith, h, h']
theorem AreaPost.no {cs : List CellD} {a : BoxD} {w w' : World} (h : areaOk cs a = false) (hb : Below w.heap.size w w') : BothPost (areaV cs a) (areaOk cs a) w (.returned (.tuple #[.slice none 0 0, .bool false])) w' := by
  unfold areaV; rw [h]; exact ⟨_, rfl, Sl.nil, hb⟩
theorem AreaPost.yes {cs : List CellD} {a : BoxD} {w w' : World} {v : Value} (h : areaOk cs a = true) (hs : Sl Enc.rng.slice w' (From w.heap.size w') (areaL cs a) v) (hb : Below w.heap.size w w') : BothPost (areaV cs a) (areaOk cs a) w (.returned (.tuple #[v, .bool true])) w' := by
  unfold areaV; rw [h]; exact ⟨v, rfl, hs, hb⟩

set_option maxRecDepth 100000 in
set_option maxHeartbeats 1000000 in
theorem table_Area (cs : List CellD) (x : Int) (a : BoxD) (vc va : Value) (w : World) (h : Sl Enc.cell w (Old w) cs vc) (h' : Sl Enc.rng.slice w (Old w) a va) (hl : ∀ c, c ∈ cs → c.2.length * 16 ≤ 140737488355328) :
    Calls Tryz.prog 92 #[.agg #[vc, .int .i64 x], va] w (BothPost (areaV cs a) (areaOk cs a) w) := by
  have H := Lib.hid h
  have HA := Lib.hid h'
  have HL := Lib.hid hl
  clear hl
  obtain ⟨A, c, rfl, hc1, hc2, -⟩ := h
  obtain ⟨B, d, rfl, hd1, hd2, -⟩ := h'
  unfold maxLen at hc2 hd2
  have hb0 := below_alloc1 w (.cells #[.slice A cs.length c, .int .i64 x] 82)
  have HA0 := Lib.hid (HA.out.onOld hb0)
  have H0 := Lib.hid (H.out.onOld hb0)
  have k0 : (w.alloc (.cells #[.slice A cs.length c, .int .i64 x] 82)).cell? ⟨w.heap.size, 0, none⟩ = some (.slice A cs.length c) := cell_new _ _ _ _ _ rfl
  have hg0 : w.heap.size < (w.alloc (.cells #[.slice A cs.length c, .int .i64 x] 82)).heap.size := by simp
  by_cases hn : cs.length = a.length
  · have hne : ((cs.length : Int) != (a.length : Int)) = false := by simp [hn]
    have HNN := Lib.hid hn
    clear hn
    go_enter Tryz.func92, Tryz.ntmps92
    go_wp2_with fail
    refine (box_Good a _ _ _ HA0.out).mono ?_
    rintro e w1 ⟨rfl, hb1⟩
    have k1 := (hb1.cell (p := ⟨w.heap.size, 0, none⟩) hg0).trans k0
    have HA1 := Lib.hid (HA0.out.onOld hb1)
    have H1 := Lib.hid (H0.out.onOld hb1)
    have hb01 := bx hb0 hb1
    have hsz1 := hb01.size
    clear k0 hg0 hb0 hb1 HA0 H0
    cases hg : goodBox a a.length
    · have HF : Hid (areaOk cs a = false) := by show _ = _; unfold areaOk; rw [hg]; simp
      clear hg
      go_wp2
      go_ret2
      exact AreaPost.no HF.out hb01
    · have HG := Lib.hid hg
      have HGA := Lib.hid (goodBox_iff.1 hg)
      have lenA : a.length ≤ 3 := by have := HGA.out; omega
      clear hg
      have HLI : Hid ((areaL cs a).length = cs.length) := by show _ = _; rw [area_length HNN.out, HNN.out]
      go_wp2
      go_loopw [6, 26] (fun u i wr => ∃ k : Nat, k ≤ cs.length ∧ i = .int .i64 k ∧ Hid (fullB ((areaL cs a).take k) = true) ∧ OwnG Enc.rng.slice wr w1.heap.size w1.heap.size 77 u ((areaL cs a).take k) ∧ Below w1.heap.size w1 wr) (fun _ i _ => cs.length - (intOf i).toNat)
      case atStart => exact ⟨0, Nat.zero_le _, rfl, rfl, OwnG.nil, Below.refl _ _⟩
      case round =>
        obtain ⟨k, hk, rfl, hfull, hown, hbl⟩ := hrel
        have hsz := hbl.size
        by_cases hlt : k < cs.length
        · have hltb : k < a.length := by have := HNN.out; omega
          obtain ⟨b, o, ng, rs, vr, rfl, hSb, hx, c1, c2, hr⟩ := (H1.out.onOld hbl).cell_at hlt
          obtain ⟨bb, ob, t, ut, rfl, _, ht, b1, b2⟩ := (HA1.out.onOld hbl).sl_at hltb
          obtain ⟨Ar, cr, rfl, hr1, hr2⟩ := hr.form
          have hbz := below_alloc1 wr (.cells #[.bool ng, .slice Ar rs.length cr] 79)
          have HR := Lib.hid (hr.onOld hbz)
          have HT := Lib.hid (b2.onOld hbz)
          have HO := Lib.hid hown
          have HI := Lib.hid (area_at hx.out ht.out)
          have HGT := Lib.hid (set_at HGA.out.2 ht.out)
          have HRL := Lib.hid (HL.out _ (List.mem_of_getElem? hx.out))
          have q0 : (wr.alloc (.cells #[.bool ng, .slice Ar rs.length cr] 79)).cell? ⟨wr.heap.size, 0, none⟩ = some (.bool ng) := cell_new _ _ _ _ _ rfl
          have q1 : (wr.alloc (.cells #[.bool ng, .slice Ar rs.length cr] 79)).cell? ⟨wr.heap.size, 1, none⟩ = some (.slice Ar rs.length cr) := cell_new _ _ _ _ _ rfl
          have hbb : bb < wr.heap.size := World.block_lt_of_cell? wr _ b1
          have q2 := (hbz.cell (p := ⟨bb, ob + k, none⟩) hbb).trans b1
          have hkl' : (k : Int) < a.length := by omega
          have hk0' : (0 : Int) ≤ k := by omega
          clear b2 hown hr
          go_wp2_with fail
          generalize wr.alloc (.cells #[.bool ng, .slice Ar rs.length cr] 79) = w0 at *
          clear c1 c2 b1
          have hb0l := bx hbl hbz
          go_still_tail 5, (by kernel_rfl)
          go_wp2_with fail
          refine (table_part ng rs t _ _ _ (by exact HR.out) (by exact HT.out) HRL.out HGT.out).mono ?_
          rintro e w2 ⟨v2, rfl, hn2', hb2'⟩
          have hb2 : Below w0.heap.size w0 w2 := undrew hb2'
          have hn2 : Sl Enc.rng w2 (From w0.heap.size w2) (partV (ng, rs) t) v2 := hn2'
          obtain ⟨A2, c2, rfl, hA1, hA2⟩ := hn2.form
          clear hn2' hb2' q0 q1 q2
          have hbz2 := bx hbz hb2
          by_cases h0 : (partV (ng, rs) t).length = 0
          · have h0' : ((partV (ng, rs) t).length : Int) = 0 := by omega
            have HF := Lib.hid (fullB_take HI.out h0)
            have HFF : Hid (areaOk cs a = false) := by show _ = _; unfold areaOk; rw [HF.out]; simp
            clear h0
            go_wp2
            go_ret2
            exact AreaPost.no HFF.out (bx hb01 (bx hbl hbz2))
          · have h0' : (((partV (ng, rs) t).length : Int) == 0) = false := beq_eq_false_iff_ne.2 (by omega)
            have HFU : Hid (fullB ((areaL cs a).take (k + 1)) = true) := by
              show fullB _ = true
              rw [take_at HI.out]
              have h1 := hfull.out
              simp only [fullB, List.all_append, Bool.and_eq_true] at h1 ⊢
              refine ⟨h1, ?_⟩
              simp only [List.all_cons, List.all_nil, Bool.and_true, decide_eq_true_eq]; omega
            have HN : Hid (((areaL cs a).take k).length = k) := by have := HLI.out; rw [Hid, List.length_take]; omega
            have HTK := Lib.hid (take_at HI.out)
            generalize partV (ng, rs) t = C at *
            have HO1 := Lib.hid ((HO.out.next hbz2).alloc (.cells #[.slice A2 C.length c2] 77))
            have hoff : ∀ kk, From w0.heap.size (w2.alloc (.cells #[.slice A2 C.length c2] 77)) kk → Off w1.heap.size (w2.alloc (.cells #[.slice A2 C.length c2] 77)) u6 kk := fun kk hkk => off_new HO.out hsz (Nat.le_refl _) kk ⟨Nat.le_trans hbz.size hkk.1, hkk.2⟩
            have HY : Hid (Enc.rng.slice.rd (w2.alloc (.cells #[.slice A2 C.length c2] 77)) (Off w1.heap.size (w2.alloc (.cells #[.slice A2 C.length c2] 77)) u6) C [.slice A2 C.length c2]) := ⟨_, rfl, (hn2.on (below_alloc1 _ _)).more hoff⟩
            have hb3 : Below w1.heap.size w1 (w2.alloc (.cells #[.slice A2 C.length c2] 77)) := (bx hbl hbz2).alloc (Nat.le_trans hsz hbz2.size) _
            have hsz2 := hb3.size
            clear hn2 hb2 hoff
            go_wp2_with (at_builtin; refine wpList_append_one (E := Enc.rng.slice) _ rfl _ _ 63 rfl w1.heap.size w1.heap.size 77 24 (.slice none 0 0) under_box infoSet rfl (by decide) _ _ rfl HO1.out ⟨w2.heap.size, 0, none⟩ C [.slice A2 C.length c2] rfl HY.out (cell_one_new _ _ _) (by rw [HN.out]; omega) (by rw [HN.out]; unfold maxLen; omega) hsz2 ?_; intro v' w3 hown' hgrow3 _)
            refine ⟨⟨k + 1, by omega, by go_num, HFU, by rw [HTK.out]; exact hown', hb3.grown hgrow3 hsz2 (fun _ hr => (HO.out.lt _ hr).1)⟩, by simp [intOf]; omega⟩
        · go_wp2
          go_ret2
          have e : (areaL cs a).take k = areaL cs a := List.take_of_length_le (by have := HLI.out; omega)
          have hf := hfull.out
          rw [e] at hf hown
          exact AreaPost.yes (areaOk_iff.2 ⟨HNN.out, HG.out, hf⟩) ((hown.sl (Nat.le_refl _)).more fun k hk => ⟨Nat.le_trans hsz1 hk.1, hk.2⟩) (bx hb01 hbl)
  · have hne : ((cs.length : Int) != (a.length : Int)) = true := by simp; omega
    have HF : Hid (areaOk cs a = false) := by show _ = _; unfold areaOk; rw [decide_eq_false hn]; rfl
    clear hn
    go_enter Tryz.func92, Tryz.ntmps92
    go_wp2
    go_ret2
    exact AreaPost.no HF.out hb0

set_option maxHeartbeats 400000 in
theorem table_fits (t : TabD) (a : BoxD) (v va : Value) (w : World) (h : TabAt w (Old w) t v) (h' : Sl Enc.rng.slice w (Old w) a va) (hs : smallT t) :
    Calls Tryz.prog 88 #[v, va] w fun e w' => e = .returned (.bool (fitsB t a)) ∧ Below w.heap.size w w' := by
  have HS := Lib.hid hs
  have HT := Lib.hid h
  have HA := Lib.hid h'
  have HE : Hid (fitsB t a = (goodT t && goodBox a t.ins.length)) := rfl
  obtain ⟨nm, pol, comp, ins, rules⟩ := t
  obtain ⟨vi, vr, rfl, hi, hr⟩ := h
  simp only at hi hr HE
  clear hs
  obtain ⟨Ai, ci, rfl, hi1, hi2, -⟩ := hi
  obtain ⟨A, c, rfl, hc1, hc2, -⟩ := hr
  obtain ⟨B, d, rfl, hd1, hd2, -⟩ := h'
  unfold maxLen at hi2 hc2 hd2
  generalize fitsB ⟨nm, pol, comp, ins, rules⟩ a = R at *
  have hb0 := below_alloc1 w (.cells #[.string nm, .int .i64 pol, .bool comp, .slice Ai ins.length ci, .slice A rules.length c] 59)
  generalize hw0 : w.alloc (.cells #[.string nm, .int .i64 pol, .bool comp, .slice Ai ins.length ci, .slice A rules.length c] 59) = w0 at *
  have hg0 : w.heap.size < w0.heap.size := by rw [← hw0]; simp
  have k0 : w0.cell? ⟨w.heap.size, 0, none⟩ = some (.string nm) := by rw [← hw0]; exact cell_new _ _ _ _ _ rfl
  have k1 : w0.cell? ⟨w.heap.size, 1, none⟩ = some (.int .i64 pol) := by rw [← hw0]; exact cell_new _ _ _ _ _ rfl
  have k2 : w0.cell? ⟨w.heap.size, 2, none⟩ = some (.bool comp) := by rw [← hw0]; exact cell_new _ _ _ _ _ rfl
  have k3 : w0.cell? ⟨w.heap.size, 3, none⟩ = some (.slice Ai ins.length ci) := by rw [← hw0]; exact cell_new _ _ _ _ _ rfl
  have k4 : w0.cell? ⟨w.heap.size, 4, none⟩ = some (.slice A rules.length c) := by rw [← hw0]; exact cell_new _ _ _ _ _ rfl
  have HT0 := Lib.hid (HT.out.onOld hb0)
  go_enter Tryz.func88, Tryz.ntmps88
  go_wp2_with fail
  refine (table_Good _ _ _ HT0.out HS.out).mono ?_
  rintro e w1 ⟨rfl, hb1⟩
  have j3 := (hb1.cell (p := ⟨w.heap.size, 3, none⟩) hg0).trans k3
  have hb01 := bx hb0 hb1
  have HA1 := Lib.hid (HA.out.onOld hb01)
  clear k0 k1 k2 k3 k4 hw0 hb1
  cases hg : goodT ⟨nm, pol, comp, ins, rules⟩
  · have HG := Lib.hid hg
    clear hg
    go_wp2
    go_ret
    exact ⟨ret_bool (by rw [HE.out, HG.out]; rfl), hb01⟩
  · have HG := Lib.hid hg
    clear hg
    go_wp2_with fail
    refine (box_Good a _ _ _ HA1.out).mono ?_
    rintro e w2 ⟨rfl, hb2⟩
    go_wp2
    go_ret
    exact ⟨ret_bool (by rw [HE.out, HG.out]; rfl), bx hb01 hb2⟩

def overL (a : BoxD) (r s : RuleD) : BoxD := if areaOk r.1 a && areaOk s.1 (areaL r.1 a) then areaL s.1 (areaL r.1 a) else []
def overOk (a : BoxD) (r s : RuleD) : Bool := areaOk r.1 a && areaOk s.1 (areaL r.1 a)

set_option maxHeartbeats 400000 in
theorem table_overlap (r s : RuleD) (a : BoxD) (vr vs va : Value) (w : World) (hr : Sl Enc.cell w (Old w) r.1 vr) (hs : Sl Enc.cell w (Old w) s.1 vs) (ha : Sl Enc.rng.slice w (Old w) a va)
    (hlr : ∀ c, c ∈ r.1 → c.2.length * 16 ≤ 140737488355328) (hls : ∀ c, c ∈ s.1 → c.2.length * 16 ≤ 140737488355328) :
    Calls Tryz.prog 90 #[.agg #[vr, .int .i64 r.2], .agg #[vs, .int .i64 s.2], va] w (BothPost (overL a r s) (overOk a r s) w) := by
  obtain ⟨cr, xr⟩ := r
  obtain ⟨cs, xs⟩ := s
  simp only at hr hs hlr hls ⊢
  have HR := Lib.hid hr
  have HS := Lib.hid hs
  have HA := Lib.hid ha
  have HLR := Lib.hid hlr
  have HLS := Lib.hid hls
  clear hlr hls
  have HE1 : Hid (overL a (cr, xr) (cs, xs) = if areaOk cr a && areaOk cs (areaL cr a) then areaL cs (areaL cr a) else []) := rfl
  have HE2 : Hid (overOk a (cr, xr) (cs, xs) = (areaOk cr a && areaOk cs (areaL cr a))) := rfl
  generalize overL a (cr, xr) (cs, xs) = R1 at *
  generalize overOk a (cr, xr) (cs, xs) = R2 at *
  obtain ⟨A, c, rfl, hc1, hc2, -⟩ := hr
  obtain ⟨B, d, rfl, hd1, hd2, -⟩ := hs
  obtain ⟨C, f, rfl, hf1, hf2, -⟩ := ha
  unfold maxLen at hc2 hd2 hf2
  have hb0 := below_alloc1 w (.cells #[.slice A cr.length c, .int .i64 xr] 82)
  have q0 : (w.alloc (.cells #[.slice A cr.length c, .int .i64 xr] 82)).cell? ⟨w.heap.size, 0, none⟩ = some (.slice A cr.length c) := cell_new _ _ _ _ _ rfl
  have q1 : (w.alloc (.cells #[.slice A cr.length c, .int .i64 xr] 82)).cell? ⟨w.heap.size, 1, none⟩ = some (.int .i64 xr) := cell_new _ _ _ _ _ rfl
  have hg0 : w.heap.size < (w.alloc (.cells #[.slice A cr.length c, .int .i64 xr] 82)).heap.size := by simp
  have hs0 : (w.alloc (.cells #[.slice A cr.length c, .int .i64 xr] 82)).heap.size = w.heap.size + 1 := by simp
  generalize hw0 : w.alloc (.cells #[.slice A cr.length c, .int .i64 xr] 82) = w0 at *
  have hbz := below_alloc1 w0 (.cells #[.slice B cs.length d, .int .i64 xs] 82)
  have q2 : (w0.alloc (.cells #[.slice B cs.length d, .int .i64 xs] 82)).cell? ⟨w.heap.size + 1, 0, none⟩ = some (.slice B cs.length d) := by rw [← hs0]; exact cell_new _ _ _ _ _ rfl
  have q3 : (w0.alloc (.cells #[.slice B cs.length d, .int .i64 xs] 82)).cell? ⟨w.heap.size + 1, 1, none⟩ = some (.int .i64 xs) := by rw [← hs0]; exact cell_new _ _ _ _ _ rfl
  have hg1 : w.heap.size + 1 < (w0.alloc (.cells #[.slice B cs.length d, .int .i64 xs] 82)).heap.size := by simp; omega
  generalize hw1 : w0.alloc (.cells #[.slice B cs.length d, .int .i64 xs] 82) = w1 at *
  have p0 := (hbz.cell (p := ⟨w.heap.size, 0, none⟩) hg0).trans q0
  have p1 := (hbz.cell (p := ⟨w.heap.size, 1, none⟩) hg0).trans q1
  have hb01 := bx hb0 hbz
  have HR1 := Lib.hid (HR.out.onOld hb01)
  have HS1 := Lib.hid (HS.out.onOld hb01)
  have HA1 := Lib.hid (HA.out.onOld hb01)
  go_enter Tryz.func90, Tryz.ntmps90
  go_wp2_with fail
  refine (table_Area cr xr a _ _ _ HR1.out HA1.out HLR.out).mono ?_
  rintro e w2 ⟨v2, rfl, hn2, hb2⟩
  obtain ⟨A2, c2, rfl, -, -⟩ := hn2.form
  have j2 := (hb2.cell (p := ⟨w.heap.size + 1, 0, none⟩) hg1).trans q2
  have j3 := (hb2.cell (p := ⟨w.heap.size + 1, 1, none⟩) hg1).trans q3
  have hb02 := bx hb01 hb2
  have HS2 := Lib.hid (HS1.out.onOld hb2)
  have HN2 := Lib.hid (hn2.more (S' := Old w2) fun _ h => h.2)
  clear hn2 hw0 hw1 q0 q1 q2 q3 p0 p1
  cases hok : areaOk cr a
  · have HV1 : Hid (R1 = []) := by show _ = _; rw [HE1.out, hok]; rfl
    have HV2 : Hid (R2 = false) := by show _ = _; rw [HE2.out, hok]; rfl
    clear hok
    go_wp2
    go_ret2
    rw [HV1.out, HV2.out]
    exact ⟨_, rfl, Sl.nil, hb02⟩
  · have HK := Lib.hid hok
    have eV : areaV cr a = areaL cr a := by unfold areaV; rw [hok]; rfl
    rw [eV] at HN2 ⊢
    clear hok eV
    go_wp2_with fail
    refine (table_Area cs xs (areaL cr a) _ _ _ HS2.out HN2.out HLS.out).mono ?_
    rintro e w3 ⟨v3, rfl, hn3, hb3⟩
    go_wp2
    go_ret2
    have e1 : areaV cs (areaL cr a) = R1 := by rw [HE1.out, HK.out]; unfold areaV; rfl
    have e2 : areaOk cs (areaL cr a) = R2 := by rw [HE2.out, HK.out]; rfl
    rw [e1] at hn3
    rw [e2]
    exact ⟨v3, rfl, hn3.more fun k hk => ⟨Nat.le_trans hb02.size hk.1, hk.2⟩, bx hb02 hb3⟩

theorem cmpL_at {a b : List Int} {k : Nat} {x y : Int} (h : a[k]? = some x) (h' : b[k]? = some y) : cmpL (a.drop k) (b.drop k) = if x < y then -1 else if y < x then 1 else cmpL (a.drop (k + 1)) (b.drop (k + 1)) := by
  rw [drop_at h, drop_at h']; rfl

set_option maxHeartbeats 400000 in
theorem slices_Compare (a b : List Int) (va vb : Value) (w : World) (ha : Sl Enc.int w (Old w) a va) (hb : Sl Enc.int w (Old w) b vb) :
    Calls Tryz.prog 123 #[va, vb] w fun e w' => e = .returned (.int .i64 (cmpL a b)) ∧ Below w.heap.size w w' := by
  have HA := Lib.hid ha
  have HB := Lib.hid hb
  have hcon := fun x y W' => AnyG.cmp_Compare_int Tryz.cmpInt x y W'
  change ∀ x y W', Calls Tryz.prog 168 _ _ _ at hcon
  obtain ⟨A, c, rfl, hc1, hc2, -⟩ := ha
  obtain ⟨B, d, rfl, hd1, hd2, -⟩ := hb
  unfold maxLen at hc2 hd2
  go_enter Tryz.func123, Tryz.ntmps123
  go_wp2
  go_loopw [11] (fun i wr => ∃ k : Nat, k ≤ a.length ∧ k ≤ b.length ∧ i = .int .i64 k ∧ Hid (cmpL a b = cmpL (a.drop k) (b.drop k)) ∧ Below w.heap.size w wr) (fun i _ => a.length - (intOf i).toNat)
  case atStart => exact ⟨0, Nat.zero_le _, Nat.zero_le _, rfl, rfl, Below.refl _ _⟩
  case round =>
    obtain ⟨k, hk, hk2, rfl, hf, hbl⟩ := hrel
    by_cases hlt : k < a.length
    · obtain ⟨ba, oa, x, rfl, _, hx, c1⟩ := (HA.out.onOld hbl).num_at hlt
      by_cases hlb : k < b.length
      · obtain ⟨bb, ob, y, rfl, _, hy, c2⟩ := (HB.out.onOld hbl).num_at hlb
        have HC := Lib.hid (cmpL_at hx.out hy.out)
        by_cases h1 : x < y
        · have hcp : Lib.compareInt x y = -1 := by unfold Lib.compareInt; rw [if_pos h1]
          have HV : Hid (cmpL a b = -1) := by show _ = _; rw [hf.out, HC.out, if_pos h1]
          go_wp2_with fail
          refine (hcon x y _).mono ?_
          rintro e w1 ⟨rfl, rfl⟩
          rw [hcp]
          go_wp2
          go_ret
          exact ⟨ret_int HV.out.symm, hbl⟩
        · by_cases h2 : y < x
          · have hcp : Lib.compareInt x y = 1 := by unfold Lib.compareInt; rw [if_neg h1, if_pos h2]
            have HV : Hid (cmpL a b = 1) := by show _ = _; rw [hf.out, HC.out, if_neg h1, if_pos h2]
            go_wp2_with fail
            refine (hcon x y _).mono ?_
            rintro e w1 ⟨rfl, rfl⟩
            rw [hcp]
            go_wp2
            go_ret
            exact ⟨ret_int HV.out.symm, hbl⟩
          · have hcp : Lib.compareInt x y = 0 := by unfold Lib.compareInt; rw [if_neg h1, if_neg h2]
            have HV : Hid (cmpL a b = cmpL (a.drop (k + 1)) (b.drop (k + 1))) := by show _ = _; rw [hf.out, HC.out, if_neg h1, if_neg h2]
            go_wp2_with fail
            refine (hcon x y _).mono ?_
            rintro e w1 ⟨rfl, rfl⟩
            rw [hcp]
            go_wp2
            exact ⟨⟨k + 1, by omega, by omega, by go_num, HV, hbl⟩, by simp [intOf]; omega⟩
      · have hbl' : (b.length : Int) ≤ k := by omega
        have HV : Hid (cmpL a b = 1) := by
          show _ = _
          rw [hf.out, drop_at hx.out, List.drop_of_length_le (show b.length ≤ k by omega)]; rfl
        go_wp2
        go_ret
        exact ⟨ret_int HV.out.symm, hbl⟩
    · have hf' := hf.out
      rw [List.drop_of_length_le (by omega)] at hf'
      by_cases hlb : a.length < b.length
      · have HV : Hid (cmpL a b = -1) := by
          show _ = _
          rw [hf']
          have : k < b.length := by omega
          rw [List.drop_eq_getElem_cons this]; rfl
        have hlb' : (a.length : Int) < b.length := by omega
        clear hf'
        go_wp2
        go_ret
        exact ⟨ret_int HV.out.symm, hbl⟩
      · have HV : Hid (cmpL a b = 0) := by
          show _ = _
          rw [hf', List.drop_of_length_le (by omega)]; rfl
        have hlb' : (b.length : Int) ≤ a.length := by omega
        clear hf'
        go_wp2
        go_ret
        exact ⟨ret_int HV.out.symm, hbl⟩

end Go.Proofs.YtmdljknlbmlacabGreatDoor
namespace Go.Proofs.YtmdljknlbmlacabGreatDoor
open Go.RowKit

def PtPost (r : List Int × Bool) (w : World) (e : Ending) (w' : World) : Prop := ∃ v, e = .returned (.tuple #[v, .bool r.2]) ∧ Sl Enc.int w' (From w.heap.size w') r.1 v ∧ Below w.heap.size w w'
theorem PtPost.from {r : List Int × Bool} {w w0 w' : World} {e : Ending} (hb : Below w.heap.size w w0) (h : PtPost r w0 e w') : PtPost r w e w' := by
  obtain ⟨v, h1, h2, h3⟩ := h
  exact ⟨v, h1, h2.more fun k hk => ⟨Nat.le_trans hb.size hk.1, hk.2⟩, bx hb h3⟩

set_option maxHeartbeats 1000000 in
theorem table_smallest (l : List BoxD) (v : Value) (w : World) (h : Sl Enc.rng.slice.slice w (Old w) l v) (hl : ∀ b, b ∈ l → b.length ≤ 3) :
    Calls Tryz.prog 91 #[v] w (PtPost (smallV l) w) := by
  have H := Lib.hid h
  have HL := Lib.hid hl
  clear hl
  obtain ⟨A, c, rfl, hc1, hc2, -⟩ := h
  unfold maxLen at hc2
  by_cases h0 : l.length = 0
  · have HE : Hid (smallV l = ([], false)) := by show _ = _; rw [List.length_eq_zero_iff.1 h0]; rfl
    have h0' : (l.length : Int) = 0 := by omega
    go_enter Tryz.func91, Tryz.ntmps91
    go_wp2
    go_ret2
    rw [HE.out]
    exact ⟨_, rfl, Sl.nil, Below.refl _ _⟩
  · obtain ⟨b0, o0, x0, u0, e0, hS0, hx0, c0, hr0⟩ := H.out.sl_at (k := 0) (by omega)
    subst e0
    have c0' : w.cell? ⟨b0, o0, none⟩ = some u0 := by simpa using c0
    have HR0 := Lib.hid hr0
    have HL0 := Lib.hid (HL.out x0 (List.mem_of_getElem? hx0.out))
    have HE : Hid (smallV l = (leastL (pointL x0) (l.drop 1), true)) := by
      have := hx0.out
      cases l with
      | nil => simp at this
      | cons z l => simp at this; subst this; rfl
    have HBK := Lib.hid (H.out.back1 rfl (j := 1) (by omega))
    have HD : Hid ((l.drop 1).length = l.length - 1) := List.length_drop ..
    generalize smallV l = R at *
    clear c0 hr0 hx0
    have HM := Lib.hid (fun b (hb : b ∈ l.drop 1) => HL.out b (List.mem_of_mem_drop hb))
    generalize l.drop 1 = D at *
    generalize hN : l.length = N at *
    have HN := Lib.hid hN
    clear hN
    have hn0 : 0 < N := by omega
    have hl0 : (0 : Int) < N := by omega
    have hl1 : (1 : Int) ≤ N := by omega
    have h0' : ((N : Int) == 0) = false := beq_eq_false_iff_ne.2 (by omega)
    obtain ⟨Au, cu, rfl, hu1, hu2⟩ := HR0.out.form
    by_cases h1 : N = 1
    · subst h1
      have HDE : Hid (D = []) := List.length_eq_zero_iff.1 HD.out
      clear HBK
      have hcc : c = 1 ∨ ¬ c = 1 := by omega
      rcases hcc with hcc | hcc
      all_goals
       go_enter Tryz.func91, Tryz.ntmps91
       go_wp2_with fail
       refine (box_Point x0 _ _ HR0.out (by have := HL0.out; omega)).mono ?_
       rintro e w1 ⟨v1, rfl, ho1, hb1⟩
       have hs1 := ho1.sl (Nat.le_refl _)
       have HS1 := Lib.hid hs1
       clear ho1 hs1
       go_wp2
       go_loopw [4, 18] (fun u i wr => u = v1 ∧ i = .int .i64 0 ∧ wr = w1) (fun _ _ _ => 0)
       case atStart => exact ⟨rfl, rfl, rfl⟩
       case round =>
         obtain ⟨rfl, rfl, rfl⟩ := hrel
         go_wp2
         go_ret2
         rw [HE.out, HDE.out]
         exact ⟨_, rfl, HS1.out, hb1⟩
    · have hc1' : ¬ c = 1 := by omega
      have HB : Hid (Sl Enc.rng.slice.slice w (Old w) D (.slice (some ⟨b0, o0 + 1, none⟩) (N - 1) (c - 1))) := by
        have := HBK.out
        rw [if_neg hc1'] at this
        exact this
      clear HBK h1
      go_enter Tryz.func91, Tryz.ntmps91
      go_wp2_with fail
      refine (box_Point x0 _ _ HR0.out (by have := HL0.out; omega)).mono ?_
      rintro e w1 ⟨v1, rfl, ho1, hb1⟩
      have hs1 := ho1.sl (Nat.le_refl _)
      have HS1 := Lib.hid hs1
      clear ho1 hs1
      go_wp2
      go_loopw [4, 18] (fun u i wr => ∃ k : Nat, k ≤ N - 1 ∧ i = .int .i64 k ∧ Sl Enc.int wr (From w.heap.size wr) (leastL (pointL x0) (D.take k)) u ∧ Below w.heap.size w wr) (fun _ i _ => N - 1 - (intOf i).toNat)
      case atStart => exact ⟨0, Nat.zero_le _, rfl, HS1.out, hb1⟩
      case round =>
        obtain ⟨k, hk, rfl, hsl, hbl⟩ := hrel
        have hsz := hbl.size
        by_cases hlt : k < N - 1
        · obtain ⟨bb, ob, y, uy, eb, _, hy, c1, hry⟩ := (HB.out.onOld hbl).sl_at (k := k) (by rw [HD.out]; exact hlt)
          obtain ⟨rfl, rfl⟩ := some_addr eb
          obtain ⟨Ay, cy, rfl, hy1, hy2⟩ := hry.form
          have HRY := Lib.hid hry
          have HLY := Lib.hid (HM.out y (List.mem_of_getElem? hy.out))
          have HT := Lib.hid (leastL_take hy.out (pointL x0))
          have HS := Lib.hid hsl
          obtain ⟨Ap, cp, rfl, hp1, hp2⟩ := hsl.form
          clear hry hsl eb
          generalize leastL (pointL x0) (D.take k) = P at *
          go_wp2_with fail
          refine (box_Point y _ _ HRY.out (by have := HLY.out; omega)).mono ?_
          rintro e w2 ⟨v2, rfl, ho2, hb2⟩
          have hs2 := ho2.sl (Nat.le_refl _)
          obtain ⟨A2, c2, rfl, -, -⟩ := hs2.form
          have HS2 := Lib.hid hs2
          have HP2 := Lib.hid (HS.out.on hb2)
          clear ho2 hs2
          go_wp2_with fail
          refine (slices_Compare (pointL y) P _ _ _ (HS2.out.more fun _ h => h.2) (HP2.out.more fun _ h => h.2)).mono ?_
          rintro e w3 ⟨rfl, hb3⟩
          have HS3 := Lib.hid (HS2.out.on hb3)
          have HP3 := Lib.hid (HP2.out.on hb3)
          have hb03 := bx hbl (bx hb2 hb3)
          by_cases hcm : cmpL (pointL y) P < 0
          · have HQ : Hid (lexLt (pointL y) P = true) := decide_eq_true hcm
            go_wp2
            refine ⟨⟨k + 1, by omega, by go_num, ?_, hb03⟩, by simp [intOf]; omega⟩
            rw [HT.out, HQ.out]
            exact HS3.out.more fun kk hkk => ⟨Nat.le_trans hsz hkk.1, hkk.2⟩
          · have HQ : Hid (lexLt (pointL y) P = false) := decide_eq_false hcm
            have hcm' : 0 ≤ cmpL (pointL y) P := by omega
            go_wp2
            refine ⟨⟨k + 1, by omega, by go_num, ?_, hb03⟩, by simp [intOf]; omega⟩
            rw [HT.out, HQ.out]
            exact HP3.out
        · go_wp2
          go_ret2
          have e : D.take k = D := List.take_of_length_le (by rw [HD.out]; omega)
          rw [e] at hsl
          rw [HE.out]
          exact ⟨_, rfl, hsl, hbl⟩

theorem cells_small {t : TabD} (hg : goodT t = true) : ∀ r, r ∈ t.rules → ∀ c, c ∈ r.1 → c.2.length * 16 ≤ 140737488355328 := by
  intro r hr c hc
  have := (goodC_iff.1 ((goodR_iff.1 ((goodRs_iff.1 (goodT_iff.1 hg).2.2.2.2).2.2 r hr)).2.2.2 c hc)).2.1
  omega
theorem restBox_small {a : BoxD} {l : List BoxD} : ∀ b, b ∈ restBox a l → b.length ≤ 3 := by
  intro b hb
  rw [restBox_eq] at hb
  split at hb
  · rename_i hg
    obtain ⟨r1, _⟩ := restF_all hg l _ (Nat.le_refl _)
    rw [List.take_length] at r1
    have := goodBox_iff.1 (r1 b hb)
    omega
  · simp at hb

set_option maxHeartbeats 1000000 in
theorem table_Gap (t : TabD) (a : BoxD) (v va : Value) (w : World) (h : TabAt w (Old w) t v) (h' : Sl Enc.rng.slice w (Old w) a va) (hs : smallT t) :
    Calls Tryz.prog 56 #[v, va] w (PtPost (gapV t a) w) := by
  have HS := Lib.hid hs
  have HT := Lib.hid h
  have HA := Lib.hid h'
  have HCS := Lib.hid (cells_small (t := t))
  have HRL := Lib.hid (fun hg : goodT t = true => (goodRs_iff.1 (goodT_iff.1 hg).2.2.2.2).2.1)
  have HE : Hid (gapV t a = if t.pol ≠ 7 ∧ fitsB t a = true then smallV (restBox a (areasL t.rules a)) else ([], false)) := rfl
  have HFG : Hid (fitsB t a = true → goodT t = true) := fun hf => by simp only [fitsB, Bool.and_eq_true] at hf; exact hf.1
  obtain ⟨nm, pol, comp, ins, rules⟩ := t
  obtain ⟨vi, vr, rfl, hi, hr⟩ := h
  simp only at hi hr HE HCS HRL
  clear hs
  have H := Lib.hid hr
  obtain ⟨Ai, ci, rfl, hi1, hi2, -⟩ := hi
  obtain ⟨A, c, rfl, hc1, hc2, -⟩ := hr
  obtain ⟨B, d, rfl, hd1, hd2, -⟩ := h'
  unfold maxLen at hi2 hc2 hd2
  generalize gapV ⟨nm, pol, comp, ins, rules⟩ a = R at *
  have hb0 := below_alloc1 w (.cells #[.string nm, .int .i64 pol, .bool comp, .slice Ai ins.length ci, .slice A rules.length c] 59)
  generalize hw0 : w.alloc (.cells #[.string nm, .int .i64 pol, .bool comp, .slice Ai ins.length ci, .slice A rules.length c] 59) = w0 at *
  have hg0 : w.heap.size < w0.heap.size := by rw [← hw0]; simp
  have k0 : w0.cell? ⟨w.heap.size, 0, none⟩ = some (.string nm) := by rw [← hw0]; exact cell_new _ _ _ _ _ rfl
  have k1 : w0.cell? ⟨w.heap.size, 1, none⟩ = some (.int .i64 pol) := by rw [← hw0]; exact cell_new _ _ _ _ _ rfl
  have k2 : w0.cell? ⟨w.heap.size, 2, none⟩ = some (.bool comp) := by rw [← hw0]; exact cell_new _ _ _ _ _ rfl
  have k3 : w0.cell? ⟨w.heap.size, 3, none⟩ = some (.slice Ai ins.length ci) := by rw [← hw0]; exact cell_new _ _ _ _ _ rfl
  have k4 : w0.cell? ⟨w.heap.size, 4, none⟩ = some (.slice A rules.length c) := by rw [← hw0]; exact cell_new _ _ _ _ _ rfl
  have HT0 := Lib.hid (HT.out.onOld hb0)
  have HA0 := Lib.hid (HA.out.onOld hb0)
  by_cases h7 : pol = 7
  · have h7' : (pol == 7) = true := by rw [h7]; rfl
    have HV : Hid (R = ([], false)) := by show _ = _; rw [HE.out, if_neg (fun hh => hh.1 h7)]
    clear h7
    go_enter Tryz.func56, Tryz.ntmps56
    go_wp2
    go_ret2
    rw [HV.out]
    exact ⟨_, rfl, Sl.nil, hb0⟩
  · have h7' : (pol == 7) = false := beq_eq_false_iff_ne.2 h7
    have H7 := Lib.hid h7
    clear h7
    go_enter Tryz.func56, Tryz.ntmps56
    go_wp2_with fail
    refine (table_fits _ a _ _ _ HT0.out HA0.out HS.out).mono ?_
    rintro e w1 ⟨rfl, hb1⟩
    have j4 := (hb1.cell (p := ⟨w.heap.size, 4, none⟩) hg0).trans k4
    have hb01 := bx hb0 hb1
    have HA1 := Lib.hid (HA0.out.onOld hb1)
    have H1 := Lib.hid (H.out.onOld hb01)
    have hsz1 := hb01.size
    clear k0 k1 k2 k3 k4 hw0 hb1 HT0 HA0
    cases hf : fitsB ⟨nm, pol, comp, ins, rules⟩ a
    · have HV : Hid (R = ([], false)) := by show _ = _; rw [HE.out, if_neg (fun hh => by rw [hf] at hh; cases hh.2)]
      clear hf
      go_wp2
      go_ret2
      rw [HV.out]
      exact ⟨_, rfl, Sl.nil, hb01⟩
    · have HV : Hid (R = smallV (restBox a (areasL rules a))) := by show _ = _; rw [HE.out, if_pos ⟨H7.out, hf⟩]
      have hgt := HFG.out hf
      have hrl : rules.length ≤ 6 := HRL.out hgt
      have HC := Lib.hid (HCS.out hgt)
      clear hf hgt HFG HCS HRL HE
      go_wp2
      go_loopw [6, 23] (fun u i wr => ∃ k : Nat, k ≤ rules.length ∧ i = .int .i64 k ∧ OwnG Enc.rng.slice.slice wr w1.heap.size w1.heap.size 63 u (areasL (rules.take k) a) ∧ Below w1.heap.size w1 wr) (fun _ i _ => rules.length - (intOf i).toNat)
      case atStart => exact ⟨0, Nat.zero_le _, rfl, OwnG.nil, Below.refl _ _⟩
      case round =>
        obtain ⟨k, hk, rfl, hown, hbl⟩ := hrel
        have hsz := hbl.size
        by_cases hlt : k < rules.length
        · obtain ⟨b, o, cs, x, vc, rfl, _, hx, c1, c2, hr⟩ := (H1.out.onOld hbl).rule_at hlt
          obtain ⟨Ar, cr, rfl, hr1, hr2⟩ := hr.form
          have hbz := below_alloc1 wr (.cells #[.slice Ar cs.length cr, .int .i64 x] 82)
          have HR := Lib.hid (hr.onOld hbz)
          have HA2 := Lib.hid ((HA1.out.onOld hbl).onOld hbz)
          have HTK := Lib.hid (areasL_take hx.out a)
          have HO := Lib.hid hown
          have HCC := Lib.hid (HC.out _ (List.mem_of_getElem? hx.out))
          have HN : Hid ((areasL (rules.take k) a).length ≤ k) := by have := areasL_length (rules.take k) a; rw [List.length_take] at this; show _ ≤ _; omega
          clear hr hown
          go_wp2_with fail
          refine (table_Area cs x a _ _ _ HR.out HA2.out HCC.out).mono ?_
          rintro e w2 ⟨v2, rfl, hn2, hb2⟩
          have hbz2 := bx hbz hb2
          have hb02 := bx hbl hbz2
          have hsz2 := hb02.size
          obtain ⟨A2, c2', rfl, -, -⟩ := hn2.form
          cases hok : areaOk cs a
          · have HK : Hid (areasL (rules.take (k + 1)) a = areasL (rules.take k) a) := by show _ = _; rw [HTK.out, hok]; simp
            clear hok hn2
            go_wp2
            refine ⟨⟨k + 1, by omega, by go_num, ?_, hb02⟩, by simp [intOf]; omega⟩
            rw [HK.out]
            exact HO.out.next hbz2
          · have HK : Hid (areasL (rules.take (k + 1)) a = areasL (rules.take k) a ++ [areaL cs a]) := by show _ = _; rw [HTK.out, hok]; rfl
            have eV : areaV cs a = areaL cs a := by unfold areaV; rw [hok]; rfl
            rw [eV] at hn2 ⊢
            clear hok eV
            generalize areaL cs a = C at *
            have HO1 := Lib.hid ((HO.out.next hbz2).alloc (.cells #[.slice A2 C.length c2'] 63))
            have hoff : ∀ kk, From (wr.alloc (.cells #[.slice Ar cs.length cr, .int .i64 x] 82)).heap.size (w2.alloc (.cells #[.slice A2 C.length c2'] 63)) kk → Off w1.heap.size (w2.alloc (.cells #[.slice A2 C.length c2'] 63)) u6 kk := fun kk hkk => off_new HO.out hsz (Nat.le_refl _) kk ⟨Nat.le_trans hbz.size hkk.1, hkk.2⟩
            have HY : Hid (Enc.rng.slice.slice.rd (w2.alloc (.cells #[.slice A2 C.length c2'] 63)) (Off w1.heap.size (w2.alloc (.cells #[.slice A2 C.length c2'] 63)) u6) C [.slice A2 C.length c2']) := ⟨_, rfl, (hn2.on (below_alloc1 _ _)).more hoff⟩
            have hb3 : Below w1.heap.size w1 (w2.alloc (.cells #[.slice A2 C.length c2'] 63)) := hb02.alloc hsz2 _
            have hsz3 := hb3.size
            clear hn2 hb2 hoff
            go_wp2_with (at_builtin; refine wpList_append_one (E := Enc.rng.slice.slice) _ rfl _ _ 142 rfl w1.heap.size w1.heap.size 63 24 (.slice none 0 0) under_boxes infoBox rfl (by decide) _ _ rfl HO1.out ⟨w2.heap.size, 0, none⟩ C [.slice A2 C.length c2'] rfl HY.out (cell_one_new _ _ _) (by have := HN.out; omega) (by have := HN.out; unfold maxLen; omega) hsz3 ?_; intro v' w3 hown' hgrow3 _)
            refine ⟨⟨k + 1, by omega, by go_num, by rw [HK.out]; exact hown', hb3.grown hgrow3 hsz3 (fun _ hr => (HO.out.lt _ hr).1)⟩, by simp [intOf]; omega⟩
        · have e : rules.take k = rules := List.take_of_length_le (by omega)
          rw [e] at hown
          have HO := Lib.hid (hown.slOld (Nat.le_refl _))
          have HA2 := Lib.hid (HA1.out.onOld hbl)
          have hal : (areasL rules a).length ≤ 20 := by have := areasL_length rules a; omega
          clear hown e
          go_wp2_with fail
          refine (box_Rest a (areasL rules a) _ _ _ HA2.out HO.out hal).mono ?_
          rintro e w2 ⟨v2, rfl, ho2, hb2⟩
          have HO2 := Lib.hid (ho2.slOld (Nat.le_refl _))
          clear ho2
          go_wp2_with fail
          refine (table_smallest _ _ _ HO2.out restBox_small).mono ?_
          rintro e w3 ⟨v3, rfl, hn3, hb3⟩
          go_wp2
          go_ret2
          rw [HV.out]
          exact PtPost.from (bx hb01 (bx hbl hb2)) ⟨v3, rfl, hn3, hb3⟩

end Go.Proofs.YtmdljknlbmlacabGreatDoor
namespace Go.Proofs.YtmdljknlbmlacabGreatDoor
open Go.RowKit

theorem clashR_append (p : Int) (a : BoxD) (l m : List RuleD) : ∀ pre, clashR p a pre (l ++ m) = clashR p a pre l ++ clashR p a (pre ++ l) m := by
  induction l with
  | nil => intro pre; simp [clashR]
  | cons r l ih => intro pre; simp only [List.cons_append, clashR, ih, List.append_assoc, List.nil_append]
theorem clashR_take {p : Int} {a : BoxD} {l : List RuleD} {k : Nat} {r : RuleD} (h : l[k]? = some r) : clashR p a [] (l.take (k + 1)) = clashR p a [] (l.take k) ++ (l.take k).filterMap (overV p a r) := by
  rw [take_at h, clashR_append]; simp [clashR]
theorem clashR_length (p : Int) (a : BoxD) (l : List RuleD) : ∀ pre, (clashR p a pre l).length ≤ (pre.length + l.length) * l.length := by
  induction l with
  | nil => intro pre; simp [clashR]
  | cons r l ih =>
    intro pre
    have h1 := ih (pre ++ [r])
    have h2 : (pre.filterMap (overV p a r)).length ≤ pre.length := List.length_filterMap_le ..
    simp only [clashR, List.length_append, List.length_cons, List.length_nil] at h1 ⊢
    have e1 : (pre.length + (0 + 1) + l.length) * l.length = (pre.length + (l.length + 1)) * l.length := by congr 1; omega
    have e2 : (pre.length + (l.length + 1)) * (l.length + 1) = (pre.length + (l.length + 1)) * l.length + (pre.length + (l.length + 1)) := Nat.mul_succ ..
    omega
theorem over_take {p : Int} {a : BoxD} {l : List RuleD} {k : Nat} {s : RuleD} (r : RuleD) (h : l[k]? = some s) : (l.take (k + 1)).filterMap (overV p a r) = (l.take k).filterMap (overV p a r) ++ (if forbidsB p r.2 s.2 && overOk a r s then [overL a r s] else []) := by
  rw [take_at h, List.filterMap_append]
  congr 1
  simp only [List.filterMap_cons, List.filterMap_nil, overV, overOk, overL]
  by_cases h1 : forbidsB p r.2 s.2 = true
  · by_cases h2 : (areaOk r.1 a && areaOk s.1 (areaL r.1 a)) = true
    · simp [h1, h2]
    · rw [Bool.not_eq_true] at h2; simp [h1, h2]
  · rw [Bool.not_eq_true] at h1; simp [h1]
theorem clash_small {p : Int} {a : BoxD} (ha : goodBox a a.length = true) {l : List RuleD} : ∀ {pre : List RuleD} {b : BoxD}, b ∈ clashR p a pre l → b.length ≤ 3 := by
  induction l with
  | nil => intro pre b h; simp [clashR] at h
  | cons r l ih =>
    intro pre b h
    rcases List.mem_append.1 h with h | h
    · obtain ⟨s, _, he⟩ := List.mem_filterMap.1 h
      unfold overV at he
      split at he
      · rename_i hc
        injection he with he
        subst he
        simp only [Bool.and_eq_true] at hc
        have h1 := goodBox_iff.1 (area_good hc.2.1)
        have h2 := goodBox_iff.1 (area_good hc.2.2)
        have h3 := goodBox_iff.1 ha
        omega
      · cases he
    · exact ih h

set_option maxHeartbeats 2000000 in
theorem table_Clash (t : TabD) (a : BoxD) (v va : Value) (w : World) (h : TabAt w (Old w) t v) (h' : Sl Enc.rng.slice w (Old w) a va) (hs : smallT t) :
    Calls Tryz.prog 55 #[v, va] w (PtPost (clashV t a) w) := by
  have HS := Lib.hid hs
  have HT := Lib.hid h
  have HA := Lib.hid h'
  have HCS := Lib.hid (cells_small (t := t))
  have HRL := Lib.hid (fun hg : goodT t = true => (goodRs_iff.1 (goodT_iff.1 hg).2.2.2.2).2.1)
  have HE : Hid (clashV t a = if fitsB t a then smallV (clashR t.pol a [] t.rules) else ([], false)) := rfl
  have HFG : Hid (fitsB t a = true → goodT t = true) := fun hf => by simp only [fitsB, Bool.and_eq_true] at hf; exact hf.1
  have HFA : Hid (fitsB t a = true → goodBox a a.length = true) := fun hf => (fits_rules hf).1
  obtain ⟨nm, pol, comp, ins, rules⟩ := t
  obtain ⟨vi, vr, rfl, hi, hr⟩ := h
  simp only at hi hr HE HCS HRL
  clear hs
  have H := Lib.hid hr
  obtain ⟨Ai, ci, rfl, hi1, hi2, -⟩ := hi
  obtain ⟨A, c, rfl, hc1, hc2, -⟩ := hr
  obtain ⟨B, d, rfl, hd1, hd2, -⟩ := h'
  unfold maxLen at hi2 hc2 hd2
  generalize clashV ⟨nm, pol, comp, ins, rules⟩ a = R at *
  have hb0 := below_alloc1 w (.cells #[.string nm, .int .i64 pol, .bool comp, .slice Ai ins.length ci, .slice A rules.length c] 59)
  generalize hw0 : w.alloc (.cells #[.string nm, .int .i64 pol, .bool comp, .slice Ai ins.length ci, .slice A rules.length c] 59) = w0 at *
  have hg0 : w.heap.size < w0.heap.size := by rw [← hw0]; simp
  have k0 : w0.cell? ⟨w.heap.size, 0, none⟩ = some (.string nm) := by rw [← hw0]; exact cell_new _ _ _ _ _ rfl
  have k1 : w0.cell? ⟨w.heap.size, 1, none⟩ = some (.int .i64 pol) := by rw [← hw0]; exact cell_new _ _ _ _ _ rfl
  have k2 : w0.cell? ⟨w.heap.size, 2, none⟩ = some (.bool comp) := by rw [← hw0]; exact cell_new _ _ _ _ _ rfl
  have k3 : w0.cell? ⟨w.heap.size, 3, none⟩ = some (.slice Ai ins.length ci) := by rw [← hw0]; exact cell_new _ _ _ _ _ rfl
  have k4 : w0.cell? ⟨w.heap.size, 4, none⟩ = some (.slice A rules.length c) := by rw [← hw0]; exact cell_new _ _ _ _ _ rfl
  have HT0 := Lib.hid (HT.out.onOld hb0)
  have HA0 := Lib.hid (HA.out.onOld hb0)
  go_enter Tryz.func55, Tryz.ntmps55
  go_wp2_with fail
  refine (table_fits _ a _ _ _ HT0.out HA0.out HS.out).mono ?_
  rintro e w1 ⟨rfl, hb1⟩
  have j1 := (hb1.cell (p := ⟨w.heap.size, 1, none⟩) hg0).trans k1
  have j4 := (hb1.cell (p := ⟨w.heap.size, 4, none⟩) hg0).trans k4
  have hb01 := bx hb0 hb1
  have hg1 := Nat.lt_of_lt_of_le hg0 hb1.size
  have HA1 := Lib.hid (HA0.out.onOld hb1)
  have H1 := Lib.hid (H.out.onOld hb01)
  have hsz1 := hb01.size
  clear k0 k1 k2 k3 k4 hw0 hb1 HT0 HA0
  cases hf : fitsB ⟨nm, pol, comp, ins, rules⟩ a
  · have HV : Hid (R = ([], false)) := by show _ = _; rw [HE.out, hf]; rfl
    clear hf
    go_wp2
    go_ret2
    rw [HV.out]
    exact ⟨_, rfl, Sl.nil, hb01⟩
  · have HV : Hid (R = smallV (clashR pol a [] rules)) := by show _ = _; rw [HE.out, hf]; rfl
    have hgt := HFG.out hf
    have HGA := Lib.hid (HFA.out hf)
    have hrl : rules.length ≤ 6 := HRL.out hgt
    have HC := Lib.hid (HCS.out hgt)
    clear hf hgt HFG HFA HCS HRL HE
    go_wp2
    go_loopw [6, 20] (fun u i wr => ∃ k : Nat, k ≤ rules.length ∧ i = .int .i64 k ∧ OwnG Enc.rng.slice.slice wr w1.heap.size w1.heap.size 63 u (clashR pol a [] (rules.take k)) ∧ Below w1.heap.size w1 wr) (fun _ i _ => rules.length - (intOf i).toNat)
    case atStart => exact ⟨0, Nat.zero_le _, rfl, OwnG.nil, Below.refl _ _⟩
    case round =>
      rename World => wo
      obtain ⟨k, hk, rfl, hown, hbl⟩ := hrel
      have hsz := hbl.size
      by_cases hlt : k < rules.length
      · obtain ⟨b, o, cs, x, vc, rfl, hSb, hx, c1', c2', hr⟩ := H1.out.rule_at hlt
        obtain ⟨Ar, cr, rfl, hr1, hr2⟩ := hr.form
        have c1 := (hbl.cell (p := ⟨b, o + k * 2, none⟩) hSb).trans c1'
        have c2 := (hbl.cell (p := ⟨b, o + k * 2 + 1, none⟩) hSb).trans c2'
        have hbz := below_alloc1 wo (.cells #[.slice Ar cs.length cr, .int .i64 x] 82)
        have hbz1 := bx hbl hbz
        have q0 : (wo.alloc (.cells #[.slice Ar cs.length cr, .int .i64 x] 82)).cell? ⟨wo.heap.size, 0, none⟩ = some (.slice Ar cs.length cr) := cell_new _ _ _ _ _ rfl
        have q1 : (wo.alloc (.cells #[.slice Ar cs.length cr, .int .i64 x] 82)).cell? ⟨wo.heap.size, 1, none⟩ = some (.int .i64 x) := cell_new _ _ _ _ _ rfl
        have hgo : wo.heap.size < (wo.alloc (.cells #[.slice Ar cs.length cr, .int .i64 x] 82)).heap.size := by simp
        have HR := Lib.hid hr
        have HCR := Lib.hid (clashR_take (p := pol) (a := a) hx.out)
        have HO := Lib.hid (hown.alloc (.cells #[.slice Ar cs.length cr, .int .i64 x] 82))
        have HCC := Lib.hid (HC.out _ (List.mem_of_getElem? hx.out))
        have p1 := (hbz1.cell (p := ⟨w.heap.size, 1, none⟩) hg1).trans j1
        have p4 := (hbz1.cell (p := ⟨w.heap.size, 4, none⟩) hg1).trans j4
        have HNE0 : Hid (u6.ownBlock ≠ some wo.heap.size) := by
          intro e
          have := hown.lt _ e
          omega
        have HLN : Hid ((clashR pol a [] (rules.take k)).length ≤ 36) := by
          have := clashR_length pol a (rules.take k) []
          have h2 : (rules.take k).length ≤ 6 := by rw [List.length_take]; omega
          have h3 : ([] : List RuleD).length + (rules.take k).length ≤ 6 := by simpa using h2
          have h4 := Nat.mul_le_mul h3 h2
          show _ ≤ _
          omega
        have hkI : (k : Int) ≤ rules.length := by omega
        have hkI0 : (0 : Int) ≤ k := by omega
        have hkc : (k : Int) ≤ c := by omega
        generalize hwo : wo.alloc (.cells #[.slice Ar cs.length cr, .int .i64 x] 82) = wa at *
        clear hr hown c1' c2'
        go_wp2
        clear hwo
        go_loopw [6, 30] (fun u i wr => ∃ j : Nat, j ≤ k ∧ i = .int .i64 j ∧ OwnG Enc.rng.slice.slice wr w1.heap.size w1.heap.size 63 u (clashR pol a [] (rules.take k) ++ ((rules.take k).take j).filterMap (overV pol a (cs, x))) ∧ Hid (u.ownBlock ≠ some wo.heap.size) ∧ wo.heap.size < wr.heap.size ∧ wr.cell? ⟨wo.heap.size, 0, none⟩ = some (.slice Ar cs.length cr) ∧ wr.cell? ⟨wo.heap.size, 1, none⟩ = some (.int .i64 x) ∧ Below w1.heap.size w1 wr) (fun _ i _ => k - (intOf i).toNat)
        case atStart => exact ⟨0, Nat.zero_le _, rfl, by simpa using HO.out, HNE0, hgo, q0, q1, hbz1⟩
        case round =>
          clear HNE0 HO q0 q1 hgo p1 p4 c1 c2 hbz
          rename World => wi
          obtain ⟨j, hj, rfl, hown, hne, hgo, q0, q1, hb1i⟩ := hrel
          have hszi1 := hb1i.size
          by_cases hjlt : j < k
          · obtain ⟨b2, o2, cs2, x2, vc2, e2, _, hx2, d1, d2, hr2'⟩ := (H1.out.onOld hb1i).rule_at (k := j) (by omega)
            obtain ⟨rfl, rfl⟩ := some_addr e2
            obtain ⟨As, c3, rfl, hs1, hs2⟩ := hr2'.form
            have hbs := below_alloc1 wi (.cells #[.slice As cs2.length c3, .int .i64 x2] 82)
            have r0 : (wi.alloc (.cells #[.slice As cs2.length c3, .int .i64 x2] 82)).cell? ⟨wi.heap.size, 0, none⟩ = some (.slice As cs2.length c3) := cell_new _ _ _ _ _ rfl
            have r1 : (wi.alloc (.cells #[.slice As cs2.length c3, .int .i64 x2] 82)).cell? ⟨wi.heap.size, 1, none⟩ = some (.int .i64 x2) := cell_new _ _ _ _ _ rfl
            have hgi : wi.heap.size < (wi.alloc (.cells #[.slice As cs2.length c3, .int .i64 x2] 82)).heap.size := by simp
            have q0' := (hbs.cell (p := ⟨wo.heap.size, 0, none⟩) hgo).trans q0
            have q1' := (hbs.cell (p := ⟨wo.heap.size, 1, none⟩) hgo).trans q1
            have hgo' := Nat.lt_of_lt_of_le hgo hbs.size
            have hb1s := bx hb1i hbs
            have hsz1s := hb1s.size
            have p1' := (hb1s.cell (p := ⟨w.heap.size, 1, none⟩) hg1).trans j1
            have HR2 := Lib.hid (hr2'.onOld hbs)
            have HRI := Lib.hid (HR.out.onOld hb1s)
            have HAI := Lib.hid (HA1.out.onOld hb1s)
            have HOI := Lib.hid (hown.alloc (.cells #[.slice As cs2.length c3, .int .i64 x2] 82))
            have HC2 := Lib.hid (HC.out _ (List.mem_of_getElem? hx2.out))
            have hx2' : (rules.take k)[j]? = some (cs2, x2) := by rw [List.getElem?_take_of_lt hjlt]; exact hx2.out
            have HTK : Hid (((rules.take k).take (j + 1)).filterMap (overV pol a (cs, x)) = ((rules.take k).take j).filterMap (overV pol a (cs, x)) ++ (if forbidsB pol x x2 && overOk a (cs, x) (cs2, x2) then [overL a (cs, x) (cs2, x2)] else [])) := over_take (p := pol) (a := a) (cs, x) hx2'
            have HLI : Hid ((clashR pol a [] (rules.take k) ++ ((rules.take k).take j).filterMap (overV pol a (cs, x))).length ≤ 42) := by
              have h1 := HLN.out
              have h2 : (((rules.take k).take j).filterMap (overV pol a (cs, x))).length ≤ ((rules.take k).take j).length := List.length_filterMap_le ..
              have h3 : ((rules.take k).take j).length ≤ 6 := by rw [List.length_take, List.length_take]; omega
              show _ ≤ _
              rw [List.length_append]; omega
            generalize ((rules.take k).take j).filterMap (overV pol a (cs, x)) = F at *
            generalize hwi : wi.alloc (.cells #[.slice As cs2.length c3, .int .i64 x2] 82) = ws at *
            clear hown hr2' e2 hx2' q0 q1
            go_wp2_with fail
            clear hwi d1 d2
            refine (table_forbids pol x x2 _).mono ?_
            rintro e w2 ⟨rfl, hb2⟩
            have q0'' := (hb2.cell (p := ⟨wo.heap.size, 0, none⟩) hgo').trans q0'
            have q1'' := (hb2.cell (p := ⟨wo.heap.size, 1, none⟩) hgo').trans q1'
            have r0' := (hb2.cell (p := ⟨wi.heap.size, 0, none⟩) hgi).trans r0
            have r1' := (hb2.cell (p := ⟨wi.heap.size, 1, none⟩) hgi).trans r1
            have hgo2 := Nat.lt_of_lt_of_le hgo' hb2.size
            have hb12 := bx hb1s hb2
            clear q0' q1' r0 r1 p1'
            cases hfb : forbidsB pol x x2
            · have HK : Hid (((rules.take k).take (j + 1)).filterMap (overV pol a (cs, x)) = F) := by show _ = _; rw [HTK.out, hfb]; simp
              clear hfb
              go_wp2
              refine ⟨⟨j + 1, by omega, by go_num, ?_, hne, hgo2, q0'', q1'', hb12⟩, by simp [intOf]; omega⟩
              rw [HK.out]
              exact HOI.out.next hb2
            · have HR3 := Lib.hid (HR2.out.onOld hb2)
              have HR4 := Lib.hid (HRI.out.onOld hb2)
              have HA4 := Lib.hid (HAI.out.onOld hb2)
              have HFB := Lib.hid hfb
              have HO2 := Lib.hid (HOI.out.next hb2)
              clear hfb
              go_wp2_with fail
              refine (table_overlap (cs, x) (cs2, x2) a _ _ _ _ HR4.out HR3.out HA4.out HCC.out HC2.out).mono ?_
              rintro e w3 ⟨v3, rfl, hn3, hb3⟩
              obtain ⟨A3, c4, rfl, -, -⟩ := hn3.form
              have hb13 := bx hb12 hb3
              have hsz13 := hb13.size
              have q0 := (hb3.cell (p := ⟨wo.heap.size, 0, none⟩) hgo2).trans q0''
              have q1 := (hb3.cell (p := ⟨wo.heap.size, 1, none⟩) hgo2).trans q1''
              have hgo3 := Nat.lt_of_lt_of_le hgo2 hb3.size
              clear q0'' q1'' r0' r1'
              cases hok : overOk a (cs, x) (cs2, x2)
              · have HK : Hid (((rules.take k).take (j + 1)).filterMap (overV pol a (cs, x)) = F) := by show _ = _; rw [HTK.out, hok]; simp
                clear hok hn3
                go_wp2
                refine ⟨⟨j + 1, by omega, by go_num, ?_, hne, hgo3, q0, q1, hb13⟩, by simp [intOf]; omega⟩
                rw [HK.out]
                exact HO2.out.next hb3
              · have HK : Hid (((rules.take k).take (j + 1)).filterMap (overV pol a (cs, x)) = F ++ [overL a (cs, x) (cs2, x2)]) := by show _ = _; rw [HTK.out, hok, HFB.out]; rfl
                clear hok
                generalize overL a (cs, x) (cs2, x2) = C at *
                have HO1 := Lib.hid ((HO2.out.next hb3).alloc (.cells #[.slice A3 C.length c4] 63))
                have HY : Hid (Enc.rng.slice.slice.rd (w3.alloc (.cells #[.slice A3 C.length c4] 63)) (Off w1.heap.size (w3.alloc (.cells #[.slice A3 C.length c4] 63)) u6) C [.slice A3 C.length c4]) := ⟨_, rfl, (hn3.on (below_alloc1 _ _)).more (off_new HO2.out hb12.size (Nat.le_refl _))⟩
                have hb4 : Below w1.heap.size w1 (w3.alloc (.cells #[.slice A3 C.length c4] 63)) := hb13.alloc hsz13 _
                have hsz4 := hb4.size
                have hb34 := below_alloc1 w3 (.cells #[.slice A3 C.length c4] 63)
                have q0a := (hb34.cell (p := ⟨wo.heap.size, 0, none⟩) hgo3).trans q0
                have q1a := (hb34.cell (p := ⟨wo.heap.size, 1, none⟩) hgo3).trans q1
                have hgo4 := Nat.lt_of_lt_of_le hgo3 hb34.size
                clear hn3 hb34
                go_wp2_with (at_builtin; refine wpList_append_one (E := Enc.rng.slice.slice) _ rfl _ _ 142 rfl w1.heap.size w1.heap.size 63 24 (.slice none 0 0) under_boxes infoBox rfl (by decide) _ _ rfl HO1.out ⟨w3.heap.size, 0, none⟩ C [.slice A3 C.length c4] rfl HY.out (cell_one_new _ _ _) (by have := HLI.out; omega) (by have := HLI.out; unfold maxLen; omega) hsz4 ?_; intro v' w5 hown' hgrow5 hmv5)
                have hbk : w5.heap[wo.heap.size]? = (w3.alloc (.cells #[.slice A3 C.length c4] 63)).heap[wo.heap.size]? := hgrow5.block _ hgo4 (fun e => hne.out e.symm)
                refine ⟨⟨j + 1, by omega, by go_num, by rw [HK.out, ← List.append_assoc]; exact hown', ?_, Nat.lt_of_lt_of_le hgo4 hgrow5.size, (World.cell?_of_block (a := ⟨wo.heap.size, 0, none⟩) hbk).trans q0a, (World.cell?_of_block (a := ⟨wo.heap.size, 1, none⟩) hbk).trans q1a, hb4.grown hgrow5 hsz4 (fun _ hr => (HO2.out.lt _ hr).1)⟩, by simp [intOf]; omega⟩
                intro e
                rcases hmv5 _ e with h' | h'
                · exact hne.out h'
                · omega
          · go_wp2
            have e : (rules.take k).take j = rules.take k := List.take_of_length_le (by rw [List.length_take]; omega)
            rw [e, ← HCR.out] at hown
            refine ⟨⟨k + 1, by omega, by go_num, hown, hb1i⟩, by simp [intOf]; omega⟩
      · have e : rules.take k = rules := List.take_of_length_le (by omega)
        rw [e] at hown
        have HO := Lib.hid (hown.slOld (Nat.le_refl _))
        clear hown e
        go_wp2_with fail
        refine (table_smallest _ _ _ HO.out (fun b hb => clash_small HGA.out hb)).mono ?_
        rintro e w3 ⟨v3, rfl, hn3, hb3⟩
        go_wp2
        go_ret2
        rw [HV.out]
        exact PtPost.from (bx hb01 hbl) ⟨v3, rfl, hn3, hb3⟩

end Go.Proofs.YtmdljknlbmlacabGreatDoor
