/- ratebookref.IsTable, as a Lean function of the data that its argument reads as. Conditions: the argument's slices read as lists in old memory; names have at most 2^47 bytes. -/
import Derived.Test.YtmdljknlbmlacabGreatDoorRefName
import Derived.Test.YtmdljknlbmlacabGreatDoorTableF
import Derived.Test.YtmdljknlbmlacabGreatDoorRefSpan
import Derived.Maps.OwnSet
import Derived.Maps.Views
import Derived.Deep.DeepCutAuto
import Derived.StringKeys
namespace Go.Proofs.YtmdljknlbmlacabGreatDoor
open Go.RowKit Go.Maps Go.WideMaps

/-- the map of names, as a datum -/
def mapD : List ByteArray → DataW Unit
  | [] => .map []
  | s :: l => (mapD l).put (.string s.data.toList) (.lit (.bool true))
theorem mapD_isMap (l : List ByteArray) : IsMap (mapD l) := by
  cases l with
  | nil => exact ⟨[], rfl⟩
  | cons s l =>
    have := mapD_isMap l
    obtain ⟨es, he⟩ := this
    unfold mapD
    rw [he]
    exact ⟨_, rfl⟩
theorem sameS_iff {s t : ByteArray} : sameS s t = true ↔ s.data.toList = t.data.toList := by
  unfold sameS; rw [ByteArray.toList_eq, ByteArray.toList_eq]; simp
theorem mapD_at (s : ByteArray) (l : List ByteArray) : (mapD l).atKey (.string s.data.toList) (.lit (.bool false)) = .lit (.bool (l.any (sameS s))) := by
  induction l with
  | nil => rfl
  | cons t l ih =>
    unfold mapD
    by_cases h : s.data.toList = t.data.toList
    · rw [h, atKey_put_same (mapD_isMap l) (by simp [WideAt.IsKeyLit])]
      have : sameS s t = true := sameS_iff.2 h
      simp [this]
    · rw [atKey_put_other (by intro hh; injection hh with hh; exact h hh), ih]
      have : sameS s t = false := by
        cases hh : sameS s t
        · rfl
        · exact absurd (sameS_iff.1 hh) h
      simp [this]
theorem plainElem_bool_inv {P : Program} {e : TypeId} (he : P.underlying e = some .bool) {v : Value} {z : DataW Unit × List MemPlace} (h : plainElem P e v = some z) : ∃ c, v = .bool c ∧ z = (.lit (.bool c), []) := by
  unfold plainElem at h
  rw [he] at h
  cases v <;> simp at h
  exact ⟨_, rfl, h.symm⟩
theorem under_seen : Tryz.prog.underlying 91 = some (.map 9 4) := by kernel_rfl
theorem zero_seen (w : World) : (zeroValue 4).run Tryz.prog w = .ok (.bool false) w := by kernel_rfl
set_option maxRecDepth 100000 in
/-- what the map says of a name -/
theorem seen_look {w : World} {b n : Nat} {l : List ByteArray} (h : w.ownsMap Tryz.prog 9 (plainElem Tryz.prog 4) b n (mapD l)) (s : ByteArray) (hs : s.size ≤ maxLen) :
    (Instr.lookup 91 (.map (some b)) (.string s) false).run Tryz.prog w = .ok (.bool (l.any (sameS s))) w := by
  obtain ⟨v, ps, hrun, hv⟩ := h.lookup (string_keyed Tryz.underlying9) under_seen (zero_seen w) (plainElem_bool Tryz.underlying4 false) (keyOf_string_mk Tryz.underlying9 hs)
  rw [mapD_at] at hv
  obtain ⟨c, rfl, hc⟩ := plainElem_bool_inv Tryz.underlying4 hv
  have hc' : l.any (sameS s) = c := by
    have := congrArg Prod.fst hc
    simp only at this
    injection this with this
    injection this
  rw [hrun, hc']

/-- the conditions of a table, in the order in which the reference asks for them -/
def okHead (nm : ByteArray) (pol : Int) (n m : Nat) : Bool := nameB nm && decide (0 < pol) && decide (pol < 8) && decide (0 < n) && decide (n < 4) && decide (0 < m) && decide (m < 7)
theorem goodT_eq (nm : ByteArray) (pol : Int) (comp : Bool) (ins : List ByteArray) (rules : List RuleD) :
    goodT ⟨nm, pol, comp, ins, rules⟩ = ((okHead nm pol ins.length rules.length && insOk [] ins) && rules.all (goodR ins.length)) := by
  unfold goodT okHead goodIns goodRs
  simp only
  have e1 : decide (1 ≤ pol) = decide (0 < pol) := by congr 1
  have e2 : decide (pol ≤ 7) = decide (pol < 8) := by congr 1; exact propext ⟨fun h => by omega, fun h => by omega⟩
  have e3 : decide (ins.length ≤ 3) = decide (ins.length < 4) := by congr 1; exact propext ⟨fun h => by omega, fun h => by omega⟩
  have e4 : decide (rules.length ≤ 6) = decide (rules.length < 7) := by congr 1; exact propext ⟨fun h => by omega, fun h => by omega⟩
  rw [e1, e2, e3, e4]
  cases nameB nm <;> cases decide (0 < pol) <;> cases decide (pol < 8) <;> cases decide (0 < ins.length) <;> cases decide (ins.length < 4) <;> cases decide (0 < rules.length) <;> cases decide (rules.length < 7) <;> cases insOk [] ins <;> simp
theorem goodR_eq (n : Int) (cs : List CellD) (x : Int) : goodR n (cs, x) = (numB x && decide ((cs.length : Int) = n) && cs.all goodC) := by
  unfold goodR numB
  simp only [Bool.and_assoc]
theorem goodC_eq (ng : Bool) (rs : List (Int × Int)) : goodC (ng, rs) = ((decide (rs.length < 5) && goodB rs) && (!ng || decide (0 < rs.length))) := by
  unfold goodC
  have e4 : decide (rs.length ≤ 4) = decide (rs.length < 5) := by congr 1; exact propext ⟨fun h => by omega, fun h => by omega⟩
  have e5 : decide (rs.length = 0) = !decide (0 < rs.length) := by
    by_cases h : rs.length = 0 <;> simp [h]; omega
  simp only
  rw [e4, e5]
  cases ng <;> cases decide (rs.length < 5) <;> cases goodB rs <;> cases decide (0 < rs.length) <;> rfl

set_option maxRecDepth 100000 in
set_option maxHeartbeats 4000000 in
theorem ref_IsTable (t : TabD) (v : Value) (w : World) (h : TabAt w (Old w) t v) (hs : smallT t) (hsi : t.ins.length * 16 ≤ 140737488355328) :
    Calls Tryz.prog 29 #[v] w fun e w' => e = .returned (.bool (goodT t)) ∧ Below w.heap.size w w' := by
  obtain ⟨nm, pol, comp, ins, rules⟩ := t
  obtain ⟨vi, vr, rfl, hi, hr⟩ := h
  obtain ⟨hs1, hs2, hs3⟩ := hs
  simp only at hi hr hs1 hs2 hs3 hsi
  have HS := Lib.hid hs2
  clear hs2
  have HI := Lib.hid hi
  have H := Lib.hid hr
  obtain ⟨A, c, rfl, hc1, hc2, -⟩ := hi
  obtain ⟨B, d, rfl, hd1, hd2, -⟩ := hr
  unfold maxLen at hc2 hd2
  have HE := Lib.hid (goodT_eq nm pol comp ins rules)
  generalize goodT ⟨nm, pol, comp, ins, rules⟩ = G at HE ⊢
  have hmm := @run_makeMap Tryz.prog
  have hb0 := below_alloc1 w (.cells #[.string nm, .int .i64 pol, .bool comp, .slice A ins.length c, .slice B rules.length d] 59)
  generalize hw0 : w.alloc (.cells #[.string nm, .int .i64 pol, .bool comp, .slice A ins.length c, .slice B rules.length d] 59) = w0 at *
  have hg0 : w.heap.size < w0.heap.size := by rw [← hw0]; simp
  have k0 : w0.cell? ⟨w.heap.size, 0, none⟩ = some (.string nm) := by rw [← hw0]; exact cell_new _ _ _ _ _ rfl
  have k1 : w0.cell? ⟨w.heap.size, 1, none⟩ = some (.int .i64 pol) := by rw [← hw0]; exact cell_new _ _ _ _ _ rfl
  have k3 : w0.cell? ⟨w.heap.size, 3, none⟩ = some (.slice A ins.length c) := by rw [← hw0]; exact cell_new _ _ _ _ _ rfl
  have k4 : w0.cell? ⟨w.heap.size, 4, none⟩ = some (.slice B rules.length d) := by rw [← hw0]; exact cell_new _ _ _ _ _ rfl
  go_enter Tryz.func29, Tryz.ntmps29
  go_upto_region 2 with fail
  go_cut [4] (fun s wc => s = .bool (okHead nm pol ins.length rules.length) ∧ Below w0.heap.size w0 wc)
  case first =>
    go_wp2_with fail
    refine (ref_IsName nm _ hs1).mono ?_
    rintro e w1 ⟨rfl, hb1⟩
    have q1 := (hb1.cell (p := ⟨w.heap.size, 1, none⟩) hg0).trans k1
    have q3 := (hb1.cell (p := ⟨w.heap.size, 3, none⟩) hg0).trans k3
    have q4 := (hb1.cell (p := ⟨w.heap.size, 4, none⟩) hg0).trans k4
    clear k0 k1 k3 k4 hw0
    cases hn : nameB nm
    · have HN := Lib.hid hn
      clear hn
      go_wp2
      go_meet
      case rel => exact ⟨congrArg Value.bool (by unfold okHead; rw [HN.out]; simp), hb1⟩
    · have HN := Lib.hid hn
      clear hn
      by_cases hp0 : 0 < pol
      · have HQ0 : Hid (decide (0 < pol) = true) := decide_eq_true hp0
        have x1 : 0 < pol := hp0
        clear hp0
        by_cases hp8 : pol < 8
        · have HQ1 : Hid (decide (pol < 8) = true) := decide_eq_true hp8
          have x2 : pol < 8 := hp8
          clear hp8
          by_cases hn0 : 0 < ins.length
          · have HQ2 : Hid (decide (0 < ins.length) = true) := decide_eq_true hn0
            have x3 : (0 : Int) < ins.length := by omega
            clear hn0
            by_cases hn4 : ins.length < 4
            · have HQ3 : Hid (decide (ins.length < 4) = true) := decide_eq_true hn4
              have x4 : (ins.length : Int) < 4 := by omega
              clear hn4
              by_cases hm0 : 0 < rules.length
              · have HQ4 : Hid (decide (0 < rules.length) = true) := decide_eq_true hm0
                have x5 : (0 : Int) < rules.length := by omega
                clear hm0
                by_cases hm7 : rules.length < 7
                · have HQ5 : Hid (decide (rules.length < 7) = true) := decide_eq_true hm7
                  have x6 : (rules.length : Int) < 7 := by omega
                  clear hm7
                  go_wp2
                  go_meet
                  case rel =>
                    refine ⟨congrArg Value.bool ?_, hb1⟩
                    unfold okHead
                    rw [HN.out, HQ0.out, HQ1.out, HQ2.out, HQ3.out, HQ4.out, HQ5.out]
                    simp <;> omega
                · have HQ5 : Hid (decide (rules.length < 7) = false) := decide_eq_false hm7
                  have x6 : 7 ≤ (rules.length : Int) := by omega
                  clear hm7
                  go_wp2
                  go_meet
                  case rel => exact ⟨congrArg Value.bool (by unfold okHead; rw [HQ5.out]; simp <;> omega), hb1⟩
              · have HQ4 : Hid (decide (0 < rules.length) = false) := decide_eq_false hm0
                have x5 : (rules.length : Int) ≤ 0 := by omega
                clear hm0
                go_wp2
                go_meet
                case rel => exact ⟨congrArg Value.bool (by unfold okHead; rw [HQ4.out]; simp), hb1⟩
            · have HQ3 : Hid (decide (ins.length < 4) = false) := decide_eq_false hn4
              have x4 : 4 ≤ (ins.length : Int) := by omega
              clear hn4
              go_wp2
              go_meet
              case rel => exact ⟨congrArg Value.bool (by unfold okHead; rw [HQ3.out]; simp), hb1⟩
          · have HQ2 : Hid (decide (0 < ins.length) = false) := decide_eq_false hn0
            have x3 : (ins.length : Int) ≤ 0 := by omega
            clear hn0
            go_wp2
            go_meet
            case rel => exact ⟨congrArg Value.bool (by unfold okHead; rw [HQ2.out]; simp), hb1⟩
        · have HQ1 : Hid (decide (pol < 8) = false) := decide_eq_false hp8
          have x2 : 8 ≤ pol := by omega
          clear hp8
          go_wp2
          go_meet
          case rel => exact ⟨congrArg Value.bool (by unfold okHead; rw [HQ1.out]; simp), hb1⟩
      · have HQ0 : Hid (decide (0 < pol) = false) := decide_eq_false hp0
        have x1 : pol ≤ 0 := by omega
        clear hp0
        go_wp2
        go_meet
        case rel => exact ⟨congrArg Value.bool (by unfold okHead; rw [HQ0.out]; simp), hb1⟩
  case rest =>
    obtain ⟨rfl, hb1⟩ := hcut
    have q3 := (hb1.cell (p := ⟨w.heap.size, 3, none⟩) hg0).trans k3
    have q4 := (hb1.cell (p := ⟨w.heap.size, 4, none⟩) hg0).trans k4
    have hb01 := bx hb0 hb1
    have hsz1 := hb01.size
    have hg1 := Nat.lt_of_lt_of_le hg0 hb1.size
    have HI1 := Lib.hid (HI.out.onOld hb01)
    clear k0 k1 k3 k4 hw0 hs1
    generalize okHead nm pol ins.length rules.length = ok0 at *
    have m0 : (wc.alloc (.map #[] 0)).ownsMap Tryz.prog 9 (plainElem Tryz.prog 4) wc.heap.size 0 (mapD []) := World.ownsMap_made _ _ _ _
    have hbm := below_alloc1 wc (.map #[] 0)
    have M0 := Lib.hid m0
    have q3' := (hbm.cell (p := ⟨w.heap.size, 3, none⟩) hg1).trans q3
    have q4' := (hbm.cell (p := ⟨w.heap.size, 4, none⟩) hg1).trans q4
    clear m0
    go_wp2
    go_loopw [4, 52] (fun s i wr => ∃ (k : Nat) (okk : Bool), k ≤ ins.length ∧ i = .int .i64 k ∧ s = .bool okk ∧ Hid ((ok0 && insOk [] ins) = (okk && insOk (ins.take k) (ins.drop k))) ∧ Hid (wr.ownsMap Tryz.prog 9 (plainElem Tryz.prog 4) wc.heap.size k (mapD (ins.take k).reverse)) ∧ wc.heap.size < wr.heap.size ∧ wr.cell? ⟨w.heap.size, 4, none⟩ = some (.slice B rules.length d) ∧ Below w.heap.size w wr) (fun _ i _ => ins.length - (intOf i).toNat)
    case atStart => exact ⟨0, ok0, Nat.zero_le _, rfl, rfl, rfl, M0, by simp, q4', bx hb01 hbm⟩
    case round =>
      clear q3 q4 q3' q4' M0 hmm
      obtain ⟨k, okk, hk, rfl, rfl, hf, hown, hmlt, c4, hb⟩ := hrel
      have hsz := hb.size
      have hwlt : w.heap.size < wr.heap.size := by omega
      by_cases hlt : k < ins.length
      · obtain ⟨b, o, x, rfl, _, hx, c1⟩ := (HI.out.onOld hb).str_at hlt
        have HX := Lib.hid (insOk_at hx.out)
        have HN := Lib.hid (HS.out x (List.mem_of_getElem? hx.out))
        have HKEY := Lib.hid (keyOf_string_mk (P := Tryz.prog) (k := 9) Tryz.underlying9 (s := x) (by unfold maxLen; have := HN.out; omega))
        have HTK : Hid (mapD (ins.take (k + 1)).reverse = (mapD (ins.take k).reverse).put (.string x.data.toList) (.lit (.bool true))) := by show _ = _; rw [take_at hx.out, List.reverse_append]; rfl
        cases okk
        · go_wp2_with (at_mapUpdate; refine wpList_mapUpdate_own _ rfl _ _ _ 91 rfl 9 4 (string_keyed Tryz.underlying9) under_seen _ wc.heap.size k _ rfl hown.out (by unfold maxLen; omega) _ _ _ rfl rfl HKEY.out _ [] (plainElem_bool Tryz.underlying4 true) ?_; intro w4 hown4 hgrow4)
          have hbk : w4.heap[w.heap.size]? = wr.heap[w.heap.size]? := hgrow4.block _ hwlt (by simp; omega)
          refine ⟨⟨k + 1, false, by omega, by go_num, rfl, ?_, ?_, Nat.lt_of_lt_of_le hmlt hgrow4.size, (World.cell?_of_block (a := ⟨w.heap.size, 4, none⟩) hbk).trans c4, (hb).grown hgrow4 (hb).size (fun _ hj => by injection hj with hj; omega)⟩, by simp [intOf]; omega⟩
          · show (ok0 && insOk [] ins) = _
            rw [hf.out, HX.out]; simp
          · show w4.ownsMap _ _ _ _ _ _
            rw [HTK.out]
            exact hown4
        · go_wp2_with fail
          refine (ref_IsName x _ HN.out).mono ?_
          rintro e w1 ⟨rfl, hb1⟩
          have HO1 := Lib.hid (hown.out.kept (grown_of_below (row := none) hb1) (by simp))
          have c4' := (hb1.cell (p := ⟨w.heap.size, 4, none⟩) hwlt).trans c4
          have hwlt' := Nat.lt_of_lt_of_le hwlt hb1.size
          have hmlt' := Nat.lt_of_lt_of_le hmlt hb1.size
          have hb11 := bx hb hb1
          cases hn : nameB x
          · have HM := Lib.hid hn
            clear hn
            go_wp2_with (at_mapUpdate; refine wpList_mapUpdate_own _ rfl _ _ _ 91 rfl 9 4 (string_keyed Tryz.underlying9) under_seen _ wc.heap.size k _ rfl HO1.out (by unfold maxLen; omega) _ _ _ rfl rfl HKEY.out _ [] (plainElem_bool Tryz.underlying4 true) ?_; intro w4 hown4 hgrow4)
            have hbk : w4.heap[w.heap.size]? = w1.heap[w.heap.size]? := hgrow4.block _ hwlt' (by simp; omega)
            refine ⟨⟨k + 1, false, by omega, by go_num, rfl, ?_, ?_, Nat.lt_of_lt_of_le hmlt' hgrow4.size, (World.cell?_of_block (a := ⟨w.heap.size, 4, none⟩) hbk).trans c4', (hb11).grown hgrow4 (hb11).size (fun _ hj => by injection hj with hj; omega)⟩, by simp [intOf]; omega⟩
            · show (ok0 && insOk [] ins) = _
              rw [hf.out, HX.out, HM.out]; simp
            · show w4.ownsMap _ _ _ _ _ _
              rw [HTK.out]
              exact hown4
          · have HM := Lib.hid hn
            have hrun := seen_look HO1.out x (by unfold maxLen; have := HN.out; omega)
            have HAN : Hid ((ins.take k).reverse.any (sameS x) = (ins.take k).any (sameS x)) := List.any_reverse
            clear hn
            generalize hcc : (ins.take k).reverse.any (sameS x) = cc at hrun
            have HCC := Lib.hid hcc
            clear hcc
            go_wp2_with (at_mapUpdate; refine wpList_mapUpdate_own _ rfl _ _ _ 91 rfl 9 4 (string_keyed Tryz.underlying9) under_seen _ wc.heap.size k _ rfl HO1.out (by unfold maxLen; omega) _ _ _ rfl rfl HKEY.out _ [] (plainElem_bool Tryz.underlying4 true) ?_; intro w4 hown4 hgrow4)
            have hbk : w4.heap[w.heap.size]? = w1.heap[w.heap.size]? := hgrow4.block _ hwlt' (by simp; omega)
            refine ⟨⟨k + 1, !cc, by omega, by go_num, rfl, ?_, ?_, Nat.lt_of_lt_of_le hmlt' hgrow4.size, (World.cell?_of_block (a := ⟨w.heap.size, 4, none⟩) hbk).trans c4', (hb11).grown hgrow4 (hb11).size (fun _ hj => by injection hj with hj; omega)⟩, by simp [intOf]; omega⟩
            · show (ok0 && insOk [] ins) = _
              rw [hf.out, HX.out, HM.out, ← HAN.out, HCC.out]; simp
            · show w4.ownsMap _ _ _ _ _ _
              rw [HTK.out]
              exact hown4
      · have hf' := hf.out
        rw [List.drop_of_length_le (by omega)] at hf'
        have HOK : Hid ((ok0 && insOk [] ins) = okk) := by show _ = _; rw [hf']; simp [insOk]
        clear hf hf' hown
        go_wp2
        go_loopw [4, 73] (fun s i wr => ∃ (kr : Nat) (okr : Bool), kr ≤ rules.length ∧ i = .int .i64 kr ∧ s = .bool okr ∧ Hid ((okk && rules.all (goodR ins.length)) = (okr && (rules.drop kr).all (goodR ins.length))) ∧ Below w.heap.size w wr) (fun _ i _ => rules.length - (intOf i).toNat)
        case atStart => exact ⟨0, okk, Nat.zero_le _, rfl, rfl, rfl, hb⟩
        case round =>
          clear hsz hwlt hmlt c4 hb
          rename World => wo
          obtain ⟨kr, okr, hkr, rfl, rfl, hfr, hbo⟩ := hrel
          have hszo := hbo.size
          by_cases hrlt : kr < rules.length
          · obtain ⟨b, o, cs, x, vc, rfl, hSb, hx, c1', c2', hr⟩ := H.out.rule_at hrlt
            have c1 := (hbo.cell (p := ⟨b, o + kr * 2, none⟩) hSb).trans c1'
            have c2 := (hbo.cell (p := ⟨b, o + kr * 2 + 1, none⟩) hSb).trans c2'
            obtain ⟨Ar, cr, rfl, hr1, hr2⟩ := hr.form
            have HC := Lib.hid hr
            have hcm : cs.length ≤ cr := hr1
            have hcr : cr ≤ 2 ^ 63 - 1 := hr2
            have hbz := below_alloc1 wo (.cells #[.slice Ar cs.length cr, .int .i64 x] 82)
            have f0 : (wo.alloc (.cells #[.slice Ar cs.length cr, .int .i64 x] 82)).cell? ⟨wo.heap.size, 0, none⟩ = some (.slice Ar cs.length cr) := cell_new _ _ _ _ _ rfl
            have f1 : (wo.alloc (.cells #[.slice Ar cs.length cr, .int .i64 x] 82)).cell? ⟨wo.heap.size, 1, none⟩ = some (.int .i64 x) := cell_new _ _ _ _ _ rfl
            have hgo : wo.heap.size < (wo.alloc (.cells #[.slice Ar cs.length cr, .int .i64 x] 82)).heap.size := by simp
            have HXR := Lib.hid (all_at (f := goodR ins.length) hx.out)
            have HGR := Lib.hid (goodR_eq ins.length cs x)
            have hbzo := bx hbo hbz
            clear hr c1' c2'
            generalize hwo : wo.alloc (.cells #[.slice Ar cs.length cr, .int .i64 x] 82) = wp at *
            cases okr
            · have HROW : Hid ((false && goodR ins.length (cs, x)) = (false && cs.all goodC)) := rfl
              go_wp2
              go_loopw [4, 93] (fun s i wi => ∃ (j : Nat) (okj : Bool), j ≤ cs.length ∧ i = .int .i64 j ∧ s = .bool okj ∧ Hid ((false && cs.all goodC) = (okj && (cs.drop j).all goodC)) ∧ Below w.heap.size w wi) (fun _ i _ => cs.length - (intOf i).toNat)
              case atStart => exact ⟨0, false, Nat.zero_le _, rfl, rfl, rfl, hbzo⟩
              case round =>
                rename World => wi
                obtain ⟨j, okj, hj, rfl, rfl, hfj, hbi⟩ := hrel
                have hszi := hbi.size
                by_cases hjl : j < cs.length
                · obtain ⟨b2, o2, ng, rs, vr2, rfl, _, hx2, d1, d2, hr2⟩ := (HC.out.onOld hbi).cell_at hjl
                  obtain ⟨Ar2, cr2, rfl, hr21, hr22⟩ := hr2.form
                  have hbz2 := below_alloc1 wi (.cells #[.bool ng, .slice Ar2 rs.length cr2] 79)
                  have e0 : (wi.alloc (.cells #[.bool ng, .slice Ar2 rs.length cr2] 79)).cell? ⟨wi.heap.size, 0, none⟩ = some (.bool ng) := cell_new _ _ _ _ _ rfl
                  have e1 : (wi.alloc (.cells #[.bool ng, .slice Ar2 rs.length cr2] 79)).cell? ⟨wi.heap.size, 1, none⟩ = some (.slice Ar2 rs.length cr2) := cell_new _ _ _ _ _ rfl
                  have hgi : wi.heap.size < (wi.alloc (.cells #[.bool ng, .slice Ar2 rs.length cr2] 79)).heap.size := by simp
                  have HR2 := Lib.hid (hr2.onOld hbz2)
                  have HX2 := Lib.hid (all_at (f := goodC) hx2.out)
                  have HGC := Lib.hid (goodC_eq ng rs)
                  have hb2i := bx hbi hbz2
                  clear hr2
                  generalize hwi : wi.alloc (.cells #[.bool ng, .slice Ar2 rs.length cr2] 79) = wj at *
                  cases okj
                  · go_wp2
                    refine ⟨⟨j + 1, false, by omega, by go_num, rfl, ?_, hb2i⟩, by simp [intOf]; omega⟩
                    show (false && cs.all goodC) = _
                    rw [hfj.out]; simp
                  · by_cases h5 : rs.length < 5
                    · have h5' : (rs.length : Int) < 5 := by omega
                      go_wp2_with fail
                      clear hwi
                      refine (ref_IsSet rs _ _ HR2.out).mono ?_
                      rintro e w5 ⟨rfl, hb5⟩
                      have e0' := (hb5.cell (p := ⟨wi.heap.size, 0, none⟩) hgi).trans e0
                      have e1' := (hb5.cell (p := ⟨wi.heap.size, 1, none⟩) hgi).trans e1
                      cases hgs : goodB rs
                      · have HGS := Lib.hid hgs
                        clear hgs
                        go_wp2
                        refine ⟨⟨j + 1, false, by omega, by go_num, rfl, ?_, bx hb2i hb5⟩, by simp [intOf]; omega⟩
                        show (false && cs.all goodC) = _
                        rw [hfj.out, HX2.out, HGC.out, HGS.out]; simp
                      · have HGS := Lib.hid hgs
                        clear hgs
                        cases ng
                        · go_wp2
                          refine ⟨⟨j + 1, true, by omega, by go_num, rfl, ?_, bx hb2i hb5⟩, by simp [intOf]; omega⟩
                          show (false && cs.all goodC) = _
                          rw [hfj.out, HX2.out, HGC.out, HGS.out, decide_eq_true h5]; simp
                        · go_wp2
                          refine ⟨⟨j + 1, decide (0 < rs.length), by omega, by go_num, rfl, ?_, bx hb2i hb5⟩, by simp [intOf]; omega⟩
                          show (false && cs.all goodC) = _
                          rw [hfj.out, HX2.out, HGC.out, HGS.out, decide_eq_true h5]; simp
                    · have h5' : 5 ≤ (rs.length : Int) := by omega
                      go_wp2
                      refine ⟨⟨j + 1, false, by omega, by go_num, rfl, ?_, hb2i⟩, by simp [intOf]; omega⟩
                      show (false && cs.all goodC) = _
                      rw [hfj.out, HX2.out, HGC.out, decide_eq_false h5]; simp
                · go_wp2
                  refine ⟨⟨kr + 1, okj, by omega, by go_num, rfl, ?_, hbi⟩, by simp [intOf]; omega⟩
                  have hfj' := hfj.out
                  rw [List.drop_of_length_le (by omega)] at hfj'
                  show (okk && rules.all (goodR ins.length)) = _
                  rw [hfr.out, HXR.out, ← Bool.and_assoc, HROW.out, hfj']; simp
            · go_wp2_with fail
              clear hwo
              refine (ref_isNumber x _).mono ?_
              rintro e w4 ⟨rfl, hw4⟩
              have hb4 : Below wp.heap.size wp w4 := by rw [hw4]; exact Below.refl _ _
              clear hw4
              have f0' := (hb4.cell (p := ⟨wo.heap.size, 0, none⟩) hgo).trans f0
              have f1' := (hb4.cell (p := ⟨wo.heap.size, 1, none⟩) hgo).trans f1
              have hb4o := bx hbzo hb4
              clear f0 f1
              cases hnx : numB x
              · have HROW : Hid ((true && goodR ins.length (cs, x)) = (false && cs.all goodC)) := by show _ = _; rw [HGR.out, hnx]; rfl
                clear hnx
                go_wp2
                go_loopw [4, 93] (fun s i wi => ∃ (j : Nat) (okj : Bool), j ≤ cs.length ∧ i = .int .i64 j ∧ s = .bool okj ∧ Hid ((false && cs.all goodC) = (okj && (cs.drop j).all goodC)) ∧ Below w.heap.size w wi) (fun _ i _ => cs.length - (intOf i).toNat)
                case atStart => exact ⟨0, false, Nat.zero_le _, rfl, rfl, rfl, hb4o⟩
                case round =>
                  rename World => wi
                  obtain ⟨j, okj, hj, rfl, rfl, hfj, hbi⟩ := hrel
                  have hszi := hbi.size
                  by_cases hjl : j < cs.length
                  · obtain ⟨b2, o2, ng, rs, vr2, rfl, _, hx2, d1, d2, hr2⟩ := (HC.out.onOld hbi).cell_at hjl
                    obtain ⟨Ar2, cr2, rfl, hr21, hr22⟩ := hr2.form
                    have hbz2 := below_alloc1 wi (.cells #[.bool ng, .slice Ar2 rs.length cr2] 79)
                    have e0 : (wi.alloc (.cells #[.bool ng, .slice Ar2 rs.length cr2] 79)).cell? ⟨wi.heap.size, 0, none⟩ = some (.bool ng) := cell_new _ _ _ _ _ rfl
                    have e1 : (wi.alloc (.cells #[.bool ng, .slice Ar2 rs.length cr2] 79)).cell? ⟨wi.heap.size, 1, none⟩ = some (.slice Ar2 rs.length cr2) := cell_new _ _ _ _ _ rfl
                    have hgi : wi.heap.size < (wi.alloc (.cells #[.bool ng, .slice Ar2 rs.length cr2] 79)).heap.size := by simp
                    have HR2 := Lib.hid (hr2.onOld hbz2)
                    have HX2 := Lib.hid (all_at (f := goodC) hx2.out)
                    have HGC := Lib.hid (goodC_eq ng rs)
                    have hb2i := bx hbi hbz2
                    clear hr2
                    generalize hwi : wi.alloc (.cells #[.bool ng, .slice Ar2 rs.length cr2] 79) = wj at *
                    cases okj
                    · go_wp2
                      refine ⟨⟨j + 1, false, by omega, by go_num, rfl, ?_, hb2i⟩, by simp [intOf]; omega⟩
                      show (false && cs.all goodC) = _
                      rw [hfj.out]; simp
                    · by_cases h5 : rs.length < 5
                      · have h5' : (rs.length : Int) < 5 := by omega
                        go_wp2_with fail
                        clear hwi
                        refine (ref_IsSet rs _ _ HR2.out).mono ?_
                        rintro e w5 ⟨rfl, hb5⟩
                        have e0' := (hb5.cell (p := ⟨wi.heap.size, 0, none⟩) hgi).trans e0
                        have e1' := (hb5.cell (p := ⟨wi.heap.size, 1, none⟩) hgi).trans e1
                        cases hgs : goodB rs
                        · have HGS := Lib.hid hgs
                          clear hgs
                          go_wp2
                          refine ⟨⟨j + 1, false, by omega, by go_num, rfl, ?_, bx hb2i hb5⟩, by simp [intOf]; omega⟩
                          show (false && cs.all goodC) = _
                          rw [hfj.out, HX2.out, HGC.out, HGS.out]; simp
                        · have HGS := Lib.hid hgs
                          clear hgs
                          cases ng
                          · go_wp2
                            refine ⟨⟨j + 1, true, by omega, by go_num, rfl, ?_, bx hb2i hb5⟩, by simp [intOf]; omega⟩
                            show (false && cs.all goodC) = _
                            rw [hfj.out, HX2.out, HGC.out, HGS.out, decide_eq_true h5]; simp
                          · go_wp2
                            refine ⟨⟨j + 1, decide (0 < rs.length), by omega, by go_num, rfl, ?_, bx hb2i hb5⟩, by simp [intOf]; omega⟩
                            show (false && cs.all goodC) = _
                            rw [hfj.out, HX2.out, HGC.out, HGS.out, decide_eq_true h5]; simp
                      · have h5' : 5 ≤ (rs.length : Int) := by omega
                        go_wp2
                        refine ⟨⟨j + 1, false, by omega, by go_num, rfl, ?_, hb2i⟩, by simp [intOf]; omega⟩
                        show (false && cs.all goodC) = _
                        rw [hfj.out, HX2.out, HGC.out, decide_eq_false h5]; simp
                  · go_wp2
                    refine ⟨⟨kr + 1, okj, by omega, by go_num, rfl, ?_, hbi⟩, by simp [intOf]; omega⟩
                    have hfj' := hfj.out
                    rw [List.drop_of_length_le (by omega)] at hfj'
                    show (okk && rules.all (goodR ins.length)) = _
                    rw [hfr.out, HXR.out, ← Bool.and_assoc, HROW.out, hfj']; simp
              · have HNX := Lib.hid hnx
                clear hnx
                by_cases hln : (cs.length : Int) = (ins.length : Int)
                · have HROW : Hid ((true && goodR ins.length (cs, x)) = (true && cs.all goodC)) := by show _ = _; rw [HGR.out, HNX.out, decide_eq_true hln]; rfl
                  have hlq : ((cs.length : Int) == (ins.length : Int)) = true := by rw [hln]; simp
                  clear hln
                  go_wp2
                  go_loopw [4, 93] (fun s i wi => ∃ (j : Nat) (okj : Bool), j ≤ cs.length ∧ i = .int .i64 j ∧ s = .bool okj ∧ Hid ((true && cs.all goodC) = (okj && (cs.drop j).all goodC)) ∧ Below w.heap.size w wi) (fun _ i _ => cs.length - (intOf i).toNat)
                  case atStart => exact ⟨0, true, Nat.zero_le _, rfl, rfl, rfl, hb4o⟩
                  case round =>
                    rename World => wi
                    obtain ⟨j, okj, hj, rfl, rfl, hfj, hbi⟩ := hrel
                    have hszi := hbi.size
                    by_cases hjl : j < cs.length
                    · obtain ⟨b2, o2, ng, rs, vr2, rfl, _, hx2, d1, d2, hr2⟩ := (HC.out.onOld hbi).cell_at hjl
                      obtain ⟨Ar2, cr2, rfl, hr21, hr22⟩ := hr2.form
                      have hbz2 := below_alloc1 wi (.cells #[.bool ng, .slice Ar2 rs.length cr2] 79)
                      have e0 : (wi.alloc (.cells #[.bool ng, .slice Ar2 rs.length cr2] 79)).cell? ⟨wi.heap.size, 0, none⟩ = some (.bool ng) := cell_new _ _ _ _ _ rfl
                      have e1 : (wi.alloc (.cells #[.bool ng, .slice Ar2 rs.length cr2] 79)).cell? ⟨wi.heap.size, 1, none⟩ = some (.slice Ar2 rs.length cr2) := cell_new _ _ _ _ _ rfl
                      have hgi : wi.heap.size < (wi.alloc (.cells #[.bool ng, .slice Ar2 rs.length cr2] 79)).heap.size := by simp
                      have HR2 := Lib.hid (hr2.onOld hbz2)
                      have HX2 := Lib.hid (all_at (f := goodC) hx2.out)
                      have HGC := Lib.hid (goodC_eq ng rs)
                      have hb2i := bx hbi hbz2
                      clear hr2
                      generalize hwi : wi.alloc (.cells #[.bool ng, .slice Ar2 rs.length cr2] 79) = wj at *
                      cases okj
                      · go_wp2
                        refine ⟨⟨j + 1, false, by omega, by go_num, rfl, ?_, hb2i⟩, by simp [intOf]; omega⟩
                        show (true && cs.all goodC) = _
                        rw [hfj.out]; simp
                      · by_cases h5 : rs.length < 5
                        · have h5' : (rs.length : Int) < 5 := by omega
                          go_wp2_with fail
                          clear hwi
                          refine (ref_IsSet rs _ _ HR2.out).mono ?_
                          rintro e w5 ⟨rfl, hb5⟩
                          have e0' := (hb5.cell (p := ⟨wi.heap.size, 0, none⟩) hgi).trans e0
                          have e1' := (hb5.cell (p := ⟨wi.heap.size, 1, none⟩) hgi).trans e1
                          cases hgs : goodB rs
                          · have HGS := Lib.hid hgs
                            clear hgs
                            go_wp2
                            refine ⟨⟨j + 1, false, by omega, by go_num, rfl, ?_, bx hb2i hb5⟩, by simp [intOf]; omega⟩
                            show (true && cs.all goodC) = _
                            rw [hfj.out, HX2.out, HGC.out, HGS.out]; simp
                          · have HGS := Lib.hid hgs
                            clear hgs
                            cases ng
                            · go_wp2
                              refine ⟨⟨j + 1, true, by omega, by go_num, rfl, ?_, bx hb2i hb5⟩, by simp [intOf]; omega⟩
                              show (true && cs.all goodC) = _
                              rw [hfj.out, HX2.out, HGC.out, HGS.out, decide_eq_true h5]; simp
                            · go_wp2
                              refine ⟨⟨j + 1, decide (0 < rs.length), by omega, by go_num, rfl, ?_, bx hb2i hb5⟩, by simp [intOf]; omega⟩
                              show (true && cs.all goodC) = _
                              rw [hfj.out, HX2.out, HGC.out, HGS.out, decide_eq_true h5]; simp
                        · have h5' : 5 ≤ (rs.length : Int) := by omega
                          go_wp2
                          refine ⟨⟨j + 1, false, by omega, by go_num, rfl, ?_, hb2i⟩, by simp [intOf]; omega⟩
                          show (true && cs.all goodC) = _
                          rw [hfj.out, HX2.out, HGC.out, decide_eq_false h5]; simp
                    · go_wp2
                      refine ⟨⟨kr + 1, okj, by omega, by go_num, rfl, ?_, hbi⟩, by simp [intOf]; omega⟩
                      have hfj' := hfj.out
                      rw [List.drop_of_length_le (by omega)] at hfj'
                      show (okk && rules.all (goodR ins.length)) = _
                      rw [hfr.out, HXR.out, ← Bool.and_assoc, HROW.out, hfj']; simp
                · have HROW : Hid ((true && goodR ins.length (cs, x)) = (false && cs.all goodC)) := by show _ = _; rw [HGR.out, decide_eq_false hln]; simp
                  have hlq : ((cs.length : Int) == (ins.length : Int)) = false := beq_eq_false_iff_ne.2 hln
                  clear hln
                  go_wp2
                  go_loopw [4, 93] (fun s i wi => ∃ (j : Nat) (okj : Bool), j ≤ cs.length ∧ i = .int .i64 j ∧ s = .bool okj ∧ Hid ((false && cs.all goodC) = (okj && (cs.drop j).all goodC)) ∧ Below w.heap.size w wi) (fun _ i _ => cs.length - (intOf i).toNat)
                  case atStart => exact ⟨0, false, Nat.zero_le _, rfl, rfl, rfl, hb4o⟩
                  case round =>
                    rename World => wi
                    obtain ⟨j, okj, hj, rfl, rfl, hfj, hbi⟩ := hrel
                    have hszi := hbi.size
                    by_cases hjl : j < cs.length
                    · obtain ⟨b2, o2, ng, rs, vr2, rfl, _, hx2, d1, d2, hr2⟩ := (HC.out.onOld hbi).cell_at hjl
                      obtain ⟨Ar2, cr2, rfl, hr21, hr22⟩ := hr2.form
                      have hbz2 := below_alloc1 wi (.cells #[.bool ng, .slice Ar2 rs.length cr2] 79)
                      have e0 : (wi.alloc (.cells #[.bool ng, .slice Ar2 rs.length cr2] 79)).cell? ⟨wi.heap.size, 0, none⟩ = some (.bool ng) := cell_new _ _ _ _ _ rfl
                      have e1 : (wi.alloc (.cells #[.bool ng, .slice Ar2 rs.length cr2] 79)).cell? ⟨wi.heap.size, 1, none⟩ = some (.slice Ar2 rs.length cr2) := cell_new _ _ _ _ _ rfl
                      have hgi : wi.heap.size < (wi.alloc (.cells #[.bool ng, .slice Ar2 rs.length cr2] 79)).heap.size := by simp
                      have HR2 := Lib.hid (hr2.onOld hbz2)
                      have HX2 := Lib.hid (all_at (f := goodC) hx2.out)
                      have HGC := Lib.hid (goodC_eq ng rs)
                      have hb2i := bx hbi hbz2
                      clear hr2
                      generalize hwi : wi.alloc (.cells #[.bool ng, .slice Ar2 rs.length cr2] 79) = wj at *
                      cases okj
                      · go_wp2
                        refine ⟨⟨j + 1, false, by omega, by go_num, rfl, ?_, hb2i⟩, by simp [intOf]; omega⟩
                        show (false && cs.all goodC) = _
                        rw [hfj.out]; simp
                      · by_cases h5 : rs.length < 5
                        · have h5' : (rs.length : Int) < 5 := by omega
                          go_wp2_with fail
                          clear hwi
                          refine (ref_IsSet rs _ _ HR2.out).mono ?_
                          rintro e w5 ⟨rfl, hb5⟩
                          have e0' := (hb5.cell (p := ⟨wi.heap.size, 0, none⟩) hgi).trans e0
                          have e1' := (hb5.cell (p := ⟨wi.heap.size, 1, none⟩) hgi).trans e1
                          cases hgs : goodB rs
                          · have HGS := Lib.hid hgs
                            clear hgs
                            go_wp2
                            refine ⟨⟨j + 1, false, by omega, by go_num, rfl, ?_, bx hb2i hb5⟩, by simp [intOf]; omega⟩
                            show (false && cs.all goodC) = _
                            rw [hfj.out, HX2.out, HGC.out, HGS.out]; simp
                          · have HGS := Lib.hid hgs
                            clear hgs
                            cases ng
                            · go_wp2
                              refine ⟨⟨j + 1, true, by omega, by go_num, rfl, ?_, bx hb2i hb5⟩, by simp [intOf]; omega⟩
                              show (false && cs.all goodC) = _
                              rw [hfj.out, HX2.out, HGC.out, HGS.out, decide_eq_true h5]; simp
                            · go_wp2
                              refine ⟨⟨j + 1, decide (0 < rs.length), by omega, by go_num, rfl, ?_, bx hb2i hb5⟩, by simp [intOf]; omega⟩
                              show (false && cs.all goodC) = _
                              rw [hfj.out, HX2.out, HGC.out, HGS.out, decide_eq_true h5]; simp
                        · have h5' : 5 ≤ (rs.length : Int) := by omega
                          go_wp2
                          refine ⟨⟨j + 1, false, by omega, by go_num, rfl, ?_, hb2i⟩, by simp [intOf]; omega⟩
                          show (false && cs.all goodC) = _
                          rw [hfj.out, HX2.out, HGC.out, decide_eq_false h5]; simp
                    · go_wp2
                      refine ⟨⟨kr + 1, okj, by omega, by go_num, rfl, ?_, hbi⟩, by simp [intOf]; omega⟩
                      have hfj' := hfj.out
                      rw [List.drop_of_length_le (by omega)] at hfj'
                      show (okk && rules.all (goodR ins.length)) = _
                      rw [hfr.out, HXR.out, ← Bool.and_assoc, HROW.out, hfj']; simp
          · go_wp2
            go_ret
            have hfr' := hfr.out
            rw [List.drop_of_length_le (by omega)] at hfr'
            exact ⟨ret_bool (by rw [HE.out, HOK.out, hfr']; simp), hbo⟩

end Go.Proofs.YtmdljknlbmlacabGreatDoor
