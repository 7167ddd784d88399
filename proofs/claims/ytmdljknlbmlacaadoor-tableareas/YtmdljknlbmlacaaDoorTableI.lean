/- table.part, Area, fits, overlap, slices.Compare and smallest, each as a Lean function of the data that its arguments read as. Conditions: argument slices read as lists in old memory; the ranges of each cell fit into 2^47 bytes. table.smallest, Gap and Clash, each as a Lean function of the data that its arguments read as. Conditions: argument slices read as lists in old memory; names and lists fit into 2^47 bytes. table.Clash, as a Lean function of the data that its arguments read as. Conditions: argument slices read as lists in old memory; names and lists fit into 2^47 bytes. -/
import Derived.Test.YtmdljknlbmlacaaDoorTableF
import Derived.Test.YtmdljknlbmlacaaDoorTabsSays
import Derived.Test.YtmdljknlbmlacaaDoorBoxRest
namespace Go.Proofs.YtmdljknlbmlacaaDoor
open Go.RowKit

theorem AddPost.new {l : List (Int × Int)} {w w' : World} {e : Ending} (h : AddPost w.heap.size (.slice none 0 0) l w e w') : NewPost Enc.rng l w e w' := by
  obtain ⟨v, h1, h2, h3, _⟩ := h
  exact ⟨v, h1, h2.from_, below_of_grown h3 (Nat.le_refl _) (fun _ h => by cases h)⟩
/-- new for a later world is new for an earlier one -/
theorem NewPost.from {α : Type} {E : Enc α} {l : List α} {w w0 w' : World} {e : Ending} (hb : Below w.heap.size w w0) (h : NewPost E l w0 e w') : NewPost E l w e w' := by
  obtain ⟨v, h1, h2, h3⟩ := h
  exact ⟨v, h1, h2.more fun k hk => ⟨Nat.le_trans hb.size hk.1, hk.2⟩, bx hb h3⟩

set_option maxHeartbeats 400000 in
theorem table_part (ng : Bool) (rs s : List (Int × Int)) (vc vs : Value) (w : World) (h : Sl Enc.rng w (Old w) rs vc) (h' : Sl Enc.rng w (Old w) s vs) (hl : rs.length * 16 ≤ 140737488355328) (hs : goodB s = true) :
    Calls Tryd.prog 40 #[.agg #[.bool ng, vc], vs] w (NewPost Enc.rng (partV (ng, rs) s) w) := by
  have H := Lib.hid h
  have HSS := Lib.hid h'
  have ls := set_len hs
  have HN := Lib.hid (normL_good rs)
  have ln := set_len HN.out.1
  clear hs
  obtain ⟨A, c, rfl, hc1, hc2, -⟩ := h
  obtain ⟨B, d, rfl, hd1, hd2, -⟩ := h'
  unfold maxLen at hc2 hd2
  have hb0 := below_alloc1 w (.cells #[.bool ng, .slice A rs.length c] 40)
  generalize hw0 : w.alloc (.cells #[.bool ng, .slice A rs.length c] 40) = w0 at *
  have hg0 : w.heap.size < w0.heap.size := by rw [← hw0]; simp
  have k0 : w0.cell? ⟨w.heap.size, 0, none⟩ = some (.bool ng) := by rw [← hw0]; exact cell_new _ _ _ _ _ rfl
  have k1 : w0.cell? ⟨w.heap.size, 1, none⟩ = some (.slice A rs.length c) := by rw [← hw0]; exact cell_new _ _ _ _ _ rfl
  have H0 := Lib.hid (H.out.onOld hb0)
  have HS0 := Lib.hid (HSS.out.onOld hb0)
  by_cases h0 : rs.length = 0
  · have HE : Hid (partV (ng, rs) s = s) := by show _ = _; unfold partV; rw [if_pos h0]
    have h0' : ((rs.length : Int) == 0) = true := by rw [h0]; rfl
    generalize rs.length = N at *
    generalize partV (ng, rs) s = R at *
    clear h0
    go_enter Tryd.func40, Tryd.ntmps40
    go_wp2_with fail
    refine (slices_Clone s _ _ HS0.out (by omega)).mono ?_
    rintro e w1 ⟨v1, rfl, hn1, hb1⟩
    go_wp2
    go_ret
    rw [HE.out]
    exact NewPost.from hb0 ⟨v1, rfl, hn1, hb1⟩
  · have h0' : ((rs.length : Int) == 0) = false := beq_eq_false_iff_ne.2 (by omega)
    have HE : Hid (partV (ng, rs) s = if ng then lessF s (normL rs) else bothF s (normL rs)) := by show _ = _; unfold partV; rw [if_neg h0]
    generalize partV (ng, rs) s = R at *
    go_enter Tryd.func40, Tryd.ntmps40
    go_wp2_with fail
    refine (span_Norm rs _ _ H0.out hl).mono ?_
    rintro e w1 ha1
    obtain ⟨v1, rfl, hn1, hb1⟩ := AddPost.new ha1
    have j0 := (hb1.cell (p := ⟨w.heap.size, 0, none⟩) hg0).trans k0
    have HN1 := Lib.hid (hn1.more (S' := Old w1) fun _ h => h.2)
    have HS1 := Lib.hid (HS0.out.onOld hb1)
    have hb01 := bx hb0 hb1
    clear ha1 hn1 hb1 hw0
    cases ng
    · go_wp2_with fail
      refine (span_Both s (normL rs) _ _ _ HS1.out HN1.out (by omega)).mono ?_
      rintro e w2 ha2
      obtain ⟨v2, rfl, hn2, hb2⟩ := AddPost.new ha2
      go_wp2
      go_ret
      rw [HE.out]
      exact NewPost.from hb01 ⟨v2, rfl, hn2, hb2⟩
    · go_wp2_with fail
      refine (span_Less s (normL rs) _ _ _ HS1.out HN1.out (by omega) (good_allIn HN.out.1)).mono ?_
      rintro e w2 ha2
      obtain ⟨v2, rfl, hn2, hb2⟩ := AddPost.new ha2
      go_wp2
      go_ret
      rw [HE.out]
      exact NewPost.from hb01 ⟨v2, rfl, hn2, hb2⟩

theorem area_at {cs : List CellD} {a : BoxD} {k : Nat} {c : CellD} {s : List (Int × Int)} (h : cs[k]? = some c) (h' : a[k]? = some s) : (areaL cs a)[k]? = some (partV c s) := by
  unfold areaL; rw [List.getElem?_zipWith, h, h']
theorem AreaPost.no {cs : List CellD} {a : BoxD} {w w' : World} (h : areaOk cs a = false) (hb : Below w.heap.size w w') : BothPost (areaV cs a) (areaOk cs a) w (.returned (.tuple #[.slice none 0 0, .bool false])) w' := by
  unfold areaV; rw [h]; exact ⟨_, rfl, Sl.nil, hb⟩
theorem AreaPost.yes {cs : List CellD} {a : BoxD} {w w' : World} {v : Value} (h : areaOk cs a = true) (hs : Sl Enc.rng.slice w' (From w.heap.size w') (areaL cs a) v) (hb : Below w.heap.size w w') : BothPost (areaV cs a) (areaOk cs a) w (.returned (.tuple #[v, .bool true])) w' := by
  unfold areaV; rw [h]; exact ⟨v, rfl, hs, hb⟩

set_option maxRecDepth 100000 in
set_option maxHeartbeats 1000000 in
theorem table_Area (cs : List CellD) (x : Int) (a : BoxD) (vc va : Value) (w : World) (h : Sl Enc.cell w (Old w) cs vc) (h' : Sl Enc.rng.slice w (Old w) a va) (hl : ∀ c, c ∈ cs → c.2.length * 16 ≤ 140737488355328) :
    Calls Tryd.prog 21 #[.agg #[vc, .int .i64 x], va] w (BothPost (areaV cs a) (areaOk cs a) w) := by
  have H := Lib.hid h
  have HA := Lib.hid h'
  have HL := Lib.hid hl
  clear hl
  obtain ⟨A, c, rfl, hc1, hc2, -⟩ := h
  obtain ⟨B, d, rfl, hd1, hd2, -⟩ := h'
  unfold maxLen at hc2 hd2
  have hb0 := below_alloc1 w (.cells #[.slice A cs.length c, .int .i64 x] 37)
  have HA0 := Lib.hid (HA.out.onOld hb0)
  have H0 := Lib.hid (H.out.onOld hb0)
  have k0 : (w.alloc (.cells #[.slice A cs.length c, .int .i64 x] 37)).cell? ⟨w.heap.size, 0, none⟩ = some (.slice A cs.length c) := cell_new _ _ _ _ _ rfl
  have hg0 : w.heap.size < (w.alloc (.cells #[.slice A cs.length c, .int .i64 x] 37)).heap.size := by simp
  by_cases hn : cs.length = a.length
  · have hne : ((cs.length : Int) != (a.length : Int)) = false := by simp [hn]
    have HNN := Lib.hid hn
    clear hn
    go_enter Tryd.func21, Tryd.ntmps21
    go_wp2_with fail
    refine (box_Good a _ _ _ HA0.out).mono ?_
    rintro e w1 ⟨rfl, hb1⟩
    have k1 := (hb1.cell (p := ⟨w.heap.size, 0, none⟩) hg0).trans k0
    have HA1 := Lib.hid (HA0.out.onOld hb1)
    have H1 := Lib.hid (H0.out.onOld hb1)
    have hb01 := bx hb0 hb1
    have hsz1 := hb01.size
    clear k0 hg0 hb0 hb1 HA0 H0
    cases hg : goodBox a a.length
    · have HF : Hid (areaOk cs a = false) := by show _ = _; unfold areaOk; rw [hg]; simp
      clear hg
      go_wp2
      go_ret2
      exact AreaPost.no HF.out hb01
    · have HG := Lib.hid hg
      have HGA := Lib.hid (goodBox_iff.1 hg)
      have lenA : a.length ≤ 3 := by have := HGA.out; omega
      clear hg
      have HLI : Hid ((areaL cs a).length = cs.length) := by show _ = _; rw [area_length HNN.out, HNN.out]
      go_wp2
      go_loopw [6, 26] (fun u i wr => ∃ k : Nat, k ≤ cs.length ∧ i = .int .i64 k ∧ Hid (fullB ((areaL cs a).take k) = true) ∧ OwnG Enc.rng.slice wr w1.heap.size w1.heap.size 38 u ((areaL cs a).take k) ∧ Below w1.heap.size w1 wr) (fun _ i _ => cs.length - (intOf i).toNat)
      case atStart => exact ⟨0, Nat.zero_le _, rfl, rfl, OwnG.nil, Below.refl _ _⟩
      case round =>
        obtain ⟨k, hk, rfl, hfull, hown, hbl⟩ := hrel
        have hsz := hbl.size
        by_cases hlt : k < cs.length
        · have hltb : k < a.length := by have := HNN.out; omega
          obtain ⟨b, o, ng, rs, vr, rfl, hSb, hx, c1, c2, hr⟩ := (H1.out.onOld hbl).cell_at hlt
          obtain ⟨bb, ob, t, ut, rfl, _, ht, b1, b2⟩ := (HA1.out.onOld hbl).sl_at hltb
          obtain ⟨Ar, cr, rfl, hr1, hr2⟩ := hr.form
          have hbz := below_alloc1 wr (.cells #[.bool ng, .slice Ar rs.length cr] 40)
          have HR := Lib.hid (hr.onOld hbz)
          have HT := Lib.hid (b2.onOld hbz)
          have HO := Lib.hid hown
          have HI := Lib.hid (area_at hx.out ht.out)
          have HGT := Lib.hid (set_at HGA.out.2 ht.out)
          have HRL := Lib.hid (HL.out _ (List.mem_of_getElem? hx.out))
          have q0 : (wr.alloc (.cells #[.bool ng, .slice Ar rs.length cr] 40)).cell? ⟨wr.heap.size, 0, none⟩ = some (.bool ng) := cell_new _ _ _ _ _ rfl
          have q1 : (wr.alloc (.cells #[.bool ng, .slice Ar rs.length cr] 40)).cell? ⟨wr.heap.size, 1, none⟩ = some (.slice Ar rs.length cr) := cell_new _ _ _ _ _ rfl
          have hbb : bb < wr.heap.size := World.block_lt_of_cell? wr _ b1
          have q2 := (hbz.cell (p := ⟨bb, ob + k, none⟩) hbb).trans b1
          have hkl' : (k : Int) < a.length := by omega
          have hk0' : (0 : Int) ≤ k := by omega
          clear b2 hown hr
          go_wp2_with fail
          generalize wr.alloc (.cells #[.bool ng, .slice Ar rs.length cr] 40) = w0 at *
          clear c1 c2 b1
          have hb0l := bx hbl hbz
          go_still_tail 5, (by kernel_rfl)
          go_wp2_with fail
          refine (table_part ng rs t _ _ _ (by exact HR.out) (by exact HT.out) HRL.out HGT.out).mono ?_
          rintro e w2 ⟨v2, rfl, hn2', hb2'⟩
          have hb2 : Below w0.heap.size w0 w2 := undrew hb2'
          have hn2 : Sl Enc.rng w2 (From w0.heap.size w2) (partV (ng, rs) t) v2 := hn2'
          obtain ⟨A2, c2, rfl, hA1, hA2⟩ := hn2.form
          clear hn2' hb2' q0 q1 q2
          have hbz2 := bx hbz hb2
          by_cases h0 : (partV (ng, rs) t).length = 0
          · have h0' : ((partV (ng, rs) t).length : Int) = 0 := by omega
            have HF := Lib.hid (fullB_take HI.out h0)
            have HFF : Hid (areaOk cs a = false) := by show _ = _; unfold areaOk; rw [HF.out]; simp
            clear h0
            go_wp2
            go_ret2
            exact AreaPost.no HFF.out (bx hb01 (bx hbl hbz2))
          · have h0' : (((partV (ng, rs) t).length : Int) == 0) = false := beq_eq_false_iff_ne.2 (by omega)
            have HFU : Hid (fullB ((areaL cs a).take (k + 1)) = true) := by
              show fullB _ = true
              rw [take_at HI.out]
              have h1 := hfull.out
              simp only [fullB, List.all_append, Bool.and_eq_true] at h1 ⊢
              refine ⟨h1, ?_⟩
              simp only [List.all_cons, List.all_nil, Bool.and_true, decide_eq_true_eq]; omega
            have HN : Hid (((areaL cs a).take k).length = k) := by have := HLI.out; rw [Hid, List.length_take]; omega
            have HTK := Lib.hid (take_at HI.out)
            generalize partV (ng, rs) t = C at *
            have HO1 := Lib.hid ((HO.out.next hbz2).alloc (.cells #[.slice A2 C.length c2] 38))
            have hoff : ∀ kk, From w0.heap.size (w2.alloc (.cells #[.slice A2 C.length c2] 38)) kk → Off w1.heap.size (w2.alloc (.cells #[.slice A2 C.length c2] 38)) u6 kk := fun kk hkk => off_new HO.out hsz (Nat.le_refl _) kk ⟨Nat.le_trans hbz.size hkk.1, hkk.2⟩
            have HY : Hid (Enc.rng.slice.rd (w2.alloc (.cells #[.slice A2 C.length c2] 38)) (Off w1.heap.size (w2.alloc (.cells #[.slice A2 C.length c2] 38)) u6) C [.slice A2 C.length c2]) := ⟨_, rfl, (hn2.on (below_alloc1 _ _)).more hoff⟩
            have hb3 : Below w1.heap.size w1 (w2.alloc (.cells #[.slice A2 C.length c2] 38)) := (bx hbl hbz2).alloc (Nat.le_trans hsz hbz2.size) _
            have hsz2 := hb3.size
            clear hn2 hb2 hoff
            go_wp2_with (at_builtin; refine wpList_append_one (E := Enc.rng.slice) _ rfl _ _ 49 rfl w1.heap.size w1.heap.size 38 24 (.slice none 0 0) under_box infoSet rfl (by decide) _ _ rfl HO1.out ⟨w2.heap.size, 0, none⟩ C [.slice A2 C.length c2] rfl HY.out (cell_one_new _ _ _) (by rw [HN.out]; omega) (by rw [HN.out]; unfold maxLen; omega) hsz2 ?_; intro v' w3 hown' hgrow3 _)
            refine ⟨⟨k + 1, by omega, by go_num, HFU, by rw [HTK.out]; exact hown', hb3.grown hgrow3 hsz2 (fun _ hr => (HO.out.lt _ hr).1)⟩, by simp [intOf]; omega⟩
        · go_wp2
          go_ret2
          have e : (areaL cs a).take k = areaL cs a := List.take_of_length_le (by have := HLI.out; omega)
          have hf := hfull.out
          rw [e] at hf hown
          exact AreaPost.yes (areaOk_iff.2 ⟨HNN.out, HG.out, hf⟩) ((hown.sl (Nat.le_refl _)).more fun k hk => ⟨Nat.le_trans hsz1 hk.1, hk.2⟩) (bx hb01 hbl)
  · have hne : ((cs.length : Int) != (a.length : Int)) = true := by simp; omega
    have HF : Hid (areaOk cs a = false) := by show _ = _; unfold areaOk; rw [decide_eq_false hn]; rfl
    clear hn
    go_enter Tryd.func21, Tryd.ntmps21
    go_wp2
    go_ret2
    exact AreaPost.no HF.out hb0

def overL (a : BoxD) (r s : RuleD) : BoxD := if areaOk r.1 a && areaOk s.1 (areaL r.1 a) then areaL s.1 (areaL r.1 a) else []
def overOk (a : BoxD) (r s : RuleD) : Bool := areaOk r.1 a && areaOk s.1 (areaL r.1 a)

theorem cmpL_at {a b : List Int} {k : Nat} {x y : Int} (h : a[k]? = some x) (h' : b[k]? = some y) : cmpL (a.drop k) (b.drop k) = if x < y then -1 else if y < x then 1 else cmpL (a.drop (k + 1)) (b.drop (k + 1)) := by
  rw [drop_at h, drop_at h']; rfl

end Go.Proofs.YtmdljknlbmlacaaDoor
namespace Go.Proofs.YtmdljknlbmlacaaDoor
open Go.RowKit

def PtPost (r : List Int × Bool) (w : World) (e : Ending) (w' : World) : Prop := ∃ v, e = .returned (.tuple #[v, .bool r.2]) ∧ Sl Enc.int w' (From w.heap.size w') r.1 v ∧ Below w.heap.size w w'
theorem PtPost.from {r : List Int × Bool} {w w0 w' : World} {e : Ending} (hb : Below w.heap.size w w0) (h : PtPost r w0 e w') : PtPost r w e w' := by
  obtain ⟨v, h1, h2, h3⟩ := h
  exact ⟨v, h1, h2.more fun k hk => ⟨Nat.le_trans hb.size hk.1, hk.2⟩, bx hb h3⟩

theorem cells_small {t : TabD} (hg : goodT t = true) : ∀ r, r ∈ t.rules → ∀ c, c ∈ r.1 → c.2.length * 16 ≤ 140737488355328 := by
  intro r hr c hc
  have := (goodC_iff.1 ((goodR_iff.1 ((goodRs_iff.1 (goodT_iff.1 hg).2.2.2.2).2.2 r hr)).2.2.2 c hc)).2.1
  omega
theorem restBox_small {a : BoxD} {l : List BoxD} : ∀ b, b ∈ restBox a l → b.length ≤ 3 := by
  intro b hb
  rw [restBox_eq] at hb
  split at hb
  · rename_i hg
    obtain ⟨r1, _⟩ := restF_all hg l _ (Nat.le_refl _)
    rw [List.take_length] at r1
    have := goodBox_iff.1 (r1 b hb)
    omega
  · simp at hb

end Go.Proofs.YtmdljknlbmlacaaDoor
namespace Go.Proofs.YtmdljknlbmlacaaDoor
open Go.RowKit

theorem clashR_append (p : Int) (a : BoxD) (l m : List RuleD) : ∀ pre, clashR p a pre (l ++ m) = clashR p a pre l ++ clashR p a (pre ++ l) m := by
  induction l with
  | nil => intro pre; simp [clashR]
  | cons r l ih => intro pre; simp only [List.cons_append, clashR, ih, List.append_assoc, List.nil_append]
theorem clashR_take {p : Int} {a : BoxD} {l : List RuleD} {k : Nat} {r : RuleD} (h : l[k]? = some r) : clashR p a [] (l.take (k + 1)) = clashR p a [] (l.take k) ++ (l.take k).filterMap (overV p a r) := by
  rw [take_at h, clashR_append]; simp [clashR]
theorem clashR_length (p : Int) (a : BoxD) (l : List RuleD) : ∀ pre, (clashR p a pre l).length ≤ (pre.length + l.length) * l.length := by
  induction l with
  | nil => intro pre; simp [clashR]
  | cons r l ih =>
    intro pre
    have h1 := ih (pre ++ [r])
    have h2 : (pre.filterMap (overV p a r)).length ≤ pre.length := List.length_filterMap_le ..
    simp only [clashR, List.length_append, List.length_cons, List.length_nil] at h1 ⊢
    have e1 : (pre.length + (0 + 1) + l.length) * l.length = (pre.length + (l.length + 1)) * l.length := by congr 1; omega
    have e2 : (pre.length + (l.length + 1)) * (l.length + 1) = (pre.length + (l.length + 1)) * l.length + (pre.length + (l.length + 1)) := Nat.mul_succ ..
    omega
theorem over_take {p : Int} {a : BoxD} {l : List RuleD} {k : Nat} {s : RuleD} (r : RuleD) (h : l[k]? = some s) : (l.take (k + 1)).filterMap (overV p a r) = (l.take k).filterMap (overV p a r) ++ (if forbidsB p r.2 s.2 && overOk a r s then [overL a r s] else []) := by
  rw [take_at h, List.filterMap_append]
  congr 1
  simp only [List.filterMap_cons, List.filterMap_nil, overV, overOk, overL]
  by_cases h1 : forbidsB p r.2 s.2 = true
  · by_cases h2 : (areaOk r.1 a && areaOk s.1 (areaL r.1 a)) = true
    · simp [h1, h2]
    · rw [Bool.not_eq_true] at h2; simp [h1, h2]
  · rw [Bool.not_eq_true] at h1; simp [h1]
theorem clash_small {p : Int} {a : BoxD} (ha : goodBox a a.length = true) {l : List RuleD} : ∀ {pre : List RuleD} {b : BoxD}, b ∈ clashR p a pre l → b.length ≤ 3 := by
  induction l with
  | nil => intro pre b h; simp [clashR] at h
  | cons r l ih =>
    intro pre b h
    rcases List.mem_append.1 h with h | h
    · obtain ⟨s, _, he⟩ := List.mem_filterMap.1 h
      unfold overV at he
      split at he
      · rename_i hc
        injection he with he
        subst he
        simp only [Bool.and_eq_true] at hc
        have h1 := goodBox_iff.1 (area_good hc.2.1)
        have h2 := goodBox_iff.1 (area_good hc.2.2)
        have h3 := goodBox_iff.1 ha
        omega
      · cases he
    · exact ih h

end Go.Proofs.YtmdljknlbmlacaaDoor
