/- text.twoEnds, rangeText and cellText, as Lean functions of what their arguments read as. Conditions: argument slices read as lists in old memory; the numbers are those of good tables; the package variables that strconv reads are as their initialisers lay them. -/
import Derived.Test.YtmdljknlbmlacabDoorTxtC
import Derived.Shelf.Strings.OnBuilder
import Derived.Deep.RegionHeld3
namespace Go.Proofs.YtmdljknlbmlacabDoor
open Go.RowKit Go.Shelf

theorem bs_append (a b : Bs) : bs a ++ bs b = bs (a ++ b) := by
  have : (bs a ++ bs b).data.toList = (bs (a ++ b)).data.toList := by
    rw [ByteArray.data_append, Array.toList_append, bs_data, bs_data, bs_data]
  rw [← bs_of (bs a ++ bs b), ← bs_of (bs (a ++ b)), this]
theorem lib_Join (sep : Bs) (xs : List ByteArray) (v : Value) (w : World) (h : Sl Enc.str w (Old w) xs v) (hN : xs.length ≤ 140737488355328) (hlen : (Lib.join (xs.map (·.data.toList)) sep).length ≤ 140737488355328) :
    Calls Tryd.prog 14 #[v, .string (bs sep)] w fun e w' => e = .returned (.string (bs (Lib.join (xs.map (·.data.toList)) sep))) ∧ Below w.heap.size w w' := by
  have H := Lib.hid h
  obtain ⟨A, c, rfl, hc1, hc2, hn, h4⟩ := h
  by_cases h0 : xs.length = 0
  · obtain rfl : xs = [] := List.length_eq_zero_iff.1 h0
    exact (Any.strings_Join_none Tryd.join Tryd.joinX A c (bs sep) w).mono fun e w' ⟨he, hw⟩ => ⟨he, hw ▸ Below.refl _ _⟩
  · obtain ⟨b, o, rfl, hb, _⟩ := h4 (by omega)
    have := Any.strings_Join Tryd.join Tryd.joinX b o c xs (bs sep) w (fun j x hx => ?_) hb hN hc1 (by rw [bs_data]; exact hlen)
    · rw [bs_data] at this
      exact this
    have hj : j < xs.length := (List.getElem?_eq_some_iff.1 hx).1
    obtain ⟨b', o', y, e, _, hy, hcell⟩ := H.out.str_at hj
    injection e with e
    injection e with e1 e2
    subst e1 e2
    have : y = x := Option.some.inj (hy.out.symm.trans hx)
    subst this
    exact hcell

set_option maxRecDepth 100000 in
set_option maxHeartbeats 1000000 in
theorem text_twoEnds (a b : Int) (w : World) (hv : VarsOk w) (ha : inB a) (hb : inB b) :
    Calls Tryd.prog 21 #[.int .i64 a, .int .i64 b] w fun e w' => e = .returned (.string (bs (endsT a b))) ∧ Below w.heap.size w w' := by
  have HV := Lib.hid hv
  have l1 := itoa_len ha
  have l2 := itoa_len hb
  obtain ⟨a1, a2⟩ := ha
  obtain ⟨b1, b2⟩ := hb
  go_enter Tryd.func21, Tryd.ntmps21
  go_wp2_with fail
  refine (lib_Itoa a (by omega) (by omega) _ HV.out).mono ?_
  rintro e w1 ⟨rfl, hb1⟩
  have HV1 := Lib.hid (HV.out.next hb1)
  have s1 := bs_size (Lib.itoa a)
  have s2 := bs_size (Lib.itoa b)
  go_wp2_with fail
  refine (lib_Itoa b (by omega) (by omega) _ HV1.out).mono ?_
  rintro e w2 ⟨rfl, hb2⟩
  go_wp2
  go_ret
  refine ⟨?_, bx hb1 hb2⟩
  show Ending.returned (.string (bs (Lib.itoa a) ++ bs [46, 46] ++ bs (Lib.itoa b))) = _
  rw [bs_append, bs_append]; rfl

set_option maxRecDepth 100000 in
set_option maxHeartbeats 1000000 in
theorem text_rangeText (x y : Int) (w : World) (hv : VarsOk w) (hx : inB x) (hy : inB y) :
    Calls Tryd.prog 41 #[.agg #[.int .i64 x, .int .i64 y]] w fun e w' => e = .returned (.string (bs (rangeT (x, y)))) ∧ Below w.heap.size w w' := by
  have hw0 := below_alloc1 w (.cells #[.int .i64 x, .int .i64 y] 77)
  have HV := Lib.hid (hv.next hw0)
  have C0 := Cs.new w [.int .i64 x, .int .i64 y] 77
  have c0 := C0.at 0 rfl
  have c1 := C0.at 1 rfl
  clear C0
  by_cases h : x < y
  · have HE : Hid (rangeT (x, y) = endsT x y) := by show _ = _; unfold rangeT; rw [if_pos h]
    go_enter Tryd.func41, Tryd.ntmps41
    go_wp2_with fail
    refine (text_twoEnds x y _ HV.out hx hy).mono ?_
    rintro e w1 ⟨rfl, hb1⟩
    go_wp2
    go_ret
    exact ⟨by rw [HE.out]; rfl, bx hw0 hb1⟩
  · have HE : Hid (rangeT (x, y) = Lib.itoa x) := by show _ = _; unfold rangeT; rw [if_neg h]
    have h' : y ≤ x := by omega
    obtain ⟨a1, a2⟩ := hx
    go_enter Tryd.func41, Tryd.ntmps41
    go_wp2_with fail
    refine (lib_Itoa x (by omega) (by omega) _ HV.out).mono ?_
    rintro e w1 ⟨rfl, hb1⟩
    go_wp2
    go_ret
    exact ⟨by rw [HE.out]; rfl, bx hw0 hb1⟩

theorem mapt {α β : Type} (f : α → β) {l : List α} {k : Nat} {x : α} (h : l[k]? = some x) : (l.take (k + 1)).map f = (l.take k).map f ++ [f x] := by
  rw [List.take_add_one, h]; simp
def rangeB (r : Int × Int) : ByteArray := bs (rangeT r)
def cellB (c : CellD) : ByteArray := bs (cellT c)
theorem rangeB_data (l : List (Int × Int)) : (l.map rangeB).map (·.data.toList) = l.map rangeT := by
  rw [List.map_map]
  exact List.map_congr_left fun r _ => bs_data _
theorem cellB_data (l : List CellD) : (l.map cellB).map (·.data.toList) = l.map cellT := by
  rw [List.map_map]
  exact List.map_congr_left fun r _ => bs_data _

set_option maxRecDepth 100000 in
set_option maxHeartbeats 400000 in
theorem text_cellText (ng : Bool) (rs : List (Int × Int)) (v : Value) (w : World) (hv : VarsOk w) (h : Sl Enc.rng w (Old w) rs v) (hl : rs.length ≤ 4) (hr : ∀ r ∈ rs, okRange r) :
    Calls Tryd.prog 25 #[.agg #[.bool ng, v]] w fun e w' => e = .returned (.string (bs (cellT (ng, rs)))) ∧ Below w.heap.size w w' := by
  obtain ⟨A, c, rfl, hc1, hc2⟩ := h.form
  unfold maxLen at hc2
  have hw0 := below_alloc1 w (.cells #[.bool ng, .slice A rs.length c] 55)
  have HV := Lib.hid (hv.next hw0)
  have H := Lib.hid (h.onOld hw0)
  have C0 := Lib.hid (Cs.new w [.bool ng, .slice A rs.length c] 55)
  have c0 := C0.out.at 0 rfl
  have c1 := C0.out.at 1 rfl
  clear h
  change Hid (Cs (w.alloc (.cells #[.bool ng, .slice A rs.length c] 55)) w.heap.size [.bool ng, .slice A rs.length c]) at C0
  have HR := Lib.hid hr
  clear hr
  by_cases h0 : rs.length = 0
  · obtain rfl : rs = [] := List.length_eq_zero_iff.1 h0
    go_enter Tryd.func25, Tryd.ntmps25
    go_wp2
    go_ret
    exact ⟨rfl, hw0⟩
  · have h0' : ((rs.length : Int) == 0) = false := beq_eq_false_iff_ne.2 (by omega)
    have HE : Hid (cellT (ng, rs) = (if ng then [110, 111, 116, 32] else []) ++ Lib.join (rs.map rangeT) [124]) := by show _ = _; unfold cellT; rw [if_neg h0]
    go_enter Tryd.func25, Tryd.ntmps25
    go_wp2
    generalize w.alloc (.cells #[.bool ng, .slice A rs.length c] 55) = w0 at *
    go_loopw [3, 14] (fun u i wr => ∃ k : Nat, k ≤ rs.length ∧ i = .int .i64 k ∧ Hid (OwnG Enc.str wr w0.heap.size w0.heap.size 9 u ((rs.take k).map rangeB)) ∧ Hid (Below w0.heap.size w0 wr)) (fun _ i _ => rs.length - (intOf i).toNat)
    case atStart => exact ⟨0, Nat.zero_le _, rfl, OwnG.nil, Below.refl _ _⟩
    case round =>
      obtain ⟨k, hk, rfl, HO, HB⟩ := hrel
      have hsz := HB.out.size
      by_cases hlt : k < rs.length
      · obtain ⟨b, o, x, y, rfl, _, hx, d1, d2⟩ := (H.out.onOld HB.out).rng_at hlt
        have HT := Lib.hid (mapt rangeB hx.out)
        have hN : ((rs.take k).map rangeB).length = k := by rw [List.length_map, List.length_take]; omega
        have HN := Lib.hid hN
        obtain ⟨q1, q2, _⟩ := HR.out _ (List.mem_of_getElem? hx.out)
        simp only at q1 q2
        have hw1 := below_alloc1 wr (.cells #[.int .i64 x, .int .i64 y] 77)
        have e0 : (wr.alloc (.cells #[.int .i64 x, .int .i64 y] 77)).cell? ⟨wr.heap.size, 0, none⟩ = some (.int .i64 x) := cell_new _ _ _ _ _ rfl
        have e1 : (wr.alloc (.cells #[.int .i64 x, .int .i64 y] 77)).cell? ⟨wr.heap.size, 1, none⟩ = some (.int .i64 y) := cell_new _ _ _ _ _ rfl
        have O1 := Lib.hid (HO.out.next hw1)
        have B1 := Lib.hid (bx HB.out hw1)
        clear hN
        go_wp2_with fail
        refine (text_rangeText x y _ (HV.out.next B1.out) q1 q2).mono ?_
        rintro e w2 ⟨rfl, hb2⟩
        have O2 := Lib.hid ((O1.out.next hb2).alloc (.cells #[.string (bs (rangeT (x, y)))] 9))
        have hz2 : w0.heap.size ≤ (w2.alloc (.cells #[.string (bs (rangeT (x, y)))] 9)).heap.size := Nat.le_trans hsz (Nat.le_trans hw1.size (Nat.le_trans hb2.size (below_alloc1 w2 _).size))
        have B2 := Lib.hid (bx (bx B1.out hb2) (below_alloc1 w2 (.cells #[.string (bs (rangeT (x, y)))] 9)))
        clear hb2 hw1 e0 e1
        go_wp2_with (at_builtin; refine wpList_append_one (E := Enc.str) _ rfl _ _ 22 rfl w0.heap.size w0.heap.size 9 16 (.string ⟨#[]⟩) x_under_ss x_info_s rfl (by decide) _ _ rfl O2.out ⟨w2.heap.size, 0, none⟩ (rangeB (x, y)) [.string (bs (rangeT (x, y)))] rfl rfl (cellx_new w2 _ _) (by rw [HN.out]; omega) (by rw [HN.out]; unfold maxLen; omega) hz2 ?_; intro v' w3 hown' hgrow3 _)
        have hbel := below_of_grown hgrow3 hz2 (fun k hk => (O2.out.lt k hk).1)
        exact ⟨⟨k + 1, by omega, by go_num, by show OwnG _ _ _ _ _ _ _; rw [HT.out]; exact hown', B2.out.trans hbel⟩, by simp [intOf]; omega⟩
      · have e : rs.take k = rs := List.take_of_length_le (by omega)
        have HO' := HO.out
        rw [e] at HO'
        obtain ⟨Au, cu, eu, -, -, -⟩ := HO'.form
        rw [List.length_map] at eu
        subst eu
        have HSL := Lib.hid (HO'.slOld (Nat.le_refl _))
        have hjl := join_len (m := 18) (c := 124) (xs := rs.map rangeT) (fun x hx => by
          obtain ⟨r, hr, rfl⟩ := List.mem_map.1 hx
          exact rangeT_len (HR.out r hr))
        rw [List.length_map] at hjl
        have hjj := lib_Join [124] (rs.map rangeB) _ wr HSL.out (by rw [List.length_map]; omega) (by rw [rangeB_data]; omega)
        rw [rangeB_data] at hjj
        generalize Lib.join (rs.map rangeT) [124] = J at *
        have hJ := bs_size J
        clear HO HO'
        go_wp2_with fail
        refine hjj.mono ?_
        rintro e w2 ⟨rfl, hb2⟩
        have B2 := Lib.hid (bx HB.out hb2)
        have f0 := (C0.out.next B2.out).at 0 rfl
        cases ng
        · go_wp2
          go_ret
          refine ⟨?_, bx hw0 B2.out⟩
          rw [HE.out]; rfl
        · go_wp2
          go_ret
          refine ⟨?_, bx hw0 B2.out⟩
          rw [HE.out]
          show Ending.returned (.string (bs [110, 111, 116, 32] ++ bs J)) = _
          rw [bs_append]; rfl

theorem goodC_ranges {c : CellD} (h : goodC c = true) : c.2.length ≤ 4 ∧ ∀ r ∈ c.2, okRange r := by
  simp only [goodC, Bool.and_eq_true, decide_eq_true_eq] at h
  exact ⟨h.1.2, goodFrom_ok _ _ h.2⟩

set_option maxRecDepth 100000 in
set_option maxHeartbeats 1000000 in
theorem text_ruleText (cs : List CellD) (out : Int) (v : Value) (w : World) (hv : VarsOk w) (h : Sl Enc.cell w (Old w) cs v) (hl : cs.length ≤ 3) (hr : ∀ c ∈ cs, goodC c = true) (ho : inB out) :
    Calls Tryd.prog 12 #[.agg #[v, .int .i64 out]] w fun e w' => e = .returned (.string (bs (ruleT (cs, out)))) ∧ Below w.heap.size w w' := by
  obtain ⟨A, c, rfl, hc1, hc2⟩ := h.form
  unfold maxLen at hc2
  have hw0 := below_alloc1 w (.cells #[.slice A cs.length c, .int .i64 out] 42)
  have HV := Lib.hid (hv.next hw0)
  have H := Lib.hid (h.onOld hw0)
  have C0 := Lib.hid (Cs.new w [.slice A cs.length c, .int .i64 out] 42)
  have c0 := C0.out.at 0 rfl
  have c1 := C0.out.at 1 rfl
  clear h
  change Hid (Cs (w.alloc (.cells #[.slice A cs.length c, .int .i64 out] 42)) w.heap.size [.slice A cs.length c, .int .i64 out]) at C0
  have HR := Lib.hid hr
  clear hr
  have HE : Hid (ruleT (cs, out) = Lib.join (cs.map cellT) [44] ++ [32, 61, 62, 32] ++ Lib.itoa out) := rfl
  have lo := itoa_len ho
  obtain ⟨o1, o2⟩ := ho
  go_enter Tryd.func12, Tryd.ntmps12
  go_wp2
  generalize w.alloc (.cells #[.slice A cs.length c, .int .i64 out] 42) = w0 at *
  go_loopw [3, 9] (fun u i wr => ∃ k : Nat, k ≤ cs.length ∧ i = .int .i64 k ∧ Hid (OwnG Enc.str wr w0.heap.size w0.heap.size 9 u ((cs.take k).map cellB)) ∧ Hid (Below w0.heap.size w0 wr)) (fun _ i _ => cs.length - (intOf i).toNat)
  case atStart => exact ⟨0, Nat.zero_le _, rfl, OwnG.nil, Below.refl _ _⟩
  case round =>
    obtain ⟨k, hk, rfl, HO, HB⟩ := hrel
    have hsz := HB.out.size
    by_cases hlt : k < cs.length
    · obtain ⟨b, o, ng, rs, vv, rfl, _, hx, d1, d2, hrs⟩ := (H.out.onOld HB.out).cell_at hlt
      obtain ⟨Ar, cr, rfl, hr1, hr2⟩ := hrs.form
      have HT := Lib.hid (mapt cellB hx.out)
      have hN : ((cs.take k).map cellB).length = k := by rw [List.length_map, List.length_take]; omega
      have HN := Lib.hid hN
      obtain ⟨q1, q2⟩ := goodC_ranges (HR.out _ (List.mem_of_getElem? hx.out))
      simp only at q1 q2
      have Q2 := Lib.hid q2
      clear q2
      have hw1 := below_alloc1 wr (.cells #[.bool ng, .slice Ar rs.length cr] 55)
      have e0 : (wr.alloc (.cells #[.bool ng, .slice Ar rs.length cr] 55)).cell? ⟨wr.heap.size, 0, none⟩ = some (.bool ng) := cell_new _ _ _ _ _ rfl
      have e1 : (wr.alloc (.cells #[.bool ng, .slice Ar rs.length cr] 55)).cell? ⟨wr.heap.size, 1, none⟩ = some (.slice Ar rs.length cr) := cell_new _ _ _ _ _ rfl
      have HS := Lib.hid (hrs.onOld hw1)
      have O1 := Lib.hid (HO.out.next hw1)
      have B1 := Lib.hid (bx HB.out hw1)
      clear hN hrs
      go_wp2_with fail
      refine (text_cellText ng rs _ _ (HV.out.next B1.out) HS.out q1 Q2.out).mono ?_
      rintro e w2 ⟨rfl, hb2⟩
      have O2 := Lib.hid ((O1.out.next hb2).alloc (.cells #[.string (bs (cellT (ng, rs)))] 9))
      have hz2 : w0.heap.size ≤ (w2.alloc (.cells #[.string (bs (cellT (ng, rs)))] 9)).heap.size := Nat.le_trans hsz (Nat.le_trans hw1.size (Nat.le_trans hb2.size (below_alloc1 w2 _).size))
      have B2 := Lib.hid (bx (bx B1.out hb2) (below_alloc1 w2 (.cells #[.string (bs (cellT (ng, rs)))] 9)))
      clear hb2 hw1 e0 e1
      go_wp2_with (at_builtin; refine wpList_append_one (E := Enc.str) _ rfl _ _ 22 rfl w0.heap.size w0.heap.size 9 16 (.string ⟨#[]⟩) x_under_ss x_info_s rfl (by decide) _ _ rfl O2.out ⟨w2.heap.size, 0, none⟩ (cellB (ng, rs)) [.string (bs (cellT (ng, rs)))] rfl rfl (cellx_new w2 _ _) (by rw [HN.out]; omega) (by rw [HN.out]; unfold maxLen; omega) hz2 ?_; intro v' w3 hown' hgrow3 _)
      have hbel := below_of_grown hgrow3 hz2 (fun k hk => (O2.out.lt k hk).1)
      exact ⟨⟨k + 1, by omega, by go_num, by show OwnG _ _ _ _ _ _ _; rw [HT.out]; exact hown', B2.out.trans hbel⟩, by simp [intOf]; omega⟩
    · have e : cs.take k = cs := List.take_of_length_le (by omega)
      have HO' := HO.out
      rw [e] at HO'
      obtain ⟨Au, cu, eu, -, -, -⟩ := HO'.form
      rw [List.length_map] at eu
      subst eu
      have HSL := Lib.hid (HO'.slOld (Nat.le_refl _))
      have hjl := join_len (m := 80) (c := 44) (xs := cs.map cellT) (fun x hx => by
        obtain ⟨r, hr, rfl⟩ := List.mem_map.1 hx
        exact cellT_len (HR.out r hr))
      rw [List.length_map] at hjl
      have hjj : Hid (∀ W, Below wr.heap.size wr W → Calls Tryd.prog 14 #[.slice Au cs.length cu, .string (bs [44])] W fun e w' => e = .returned (.string (bs (Lib.join (cs.map cellT) [44]))) ∧ Below W.heap.size W w') := by
        intro W hW
        have := lib_Join [44] (cs.map cellB) _ W (HSL.out.onOld hW) (by rw [List.length_map]; omega) (by rw [cellB_data]; omega)
        rw [cellB_data] at this
        exact this
      have hit : Hid (∀ W, Below wr.heap.size wr W → Calls Tryd.prog 26 #[.int .i64 out] W fun e w' => e = .returned (.string (bs (Lib.itoa out))) ∧ Below W.heap.size W w') :=
        fun W hW => lib_Itoa out (by omega) (by omega) W ((HV.out.next HB.out).next hW)
      generalize Lib.join (cs.map cellT) [44] = J at *
      have hJ := bs_size J
      have hI := bs_size (Lib.itoa out)
      have f1 := (C0.out.next HB.out).at 1 rfl
      have hg1 : w.heap.size < wr.heap.size := (C0.out.next HB.out).1
      clear HO HO' c0 c1
      have f1' : wr.drew.cell? ⟨w.heap.size, 1, none⟩ = some (.int .i64 out) := f1
      have a1 : ∀ W, (Op.stringOp .add (bs J) (⟨#[32, 61, 62, 32]⟩ : ByteArray)).run Tryd.prog W = .ok (.string (bs (J ++ [32, 61, 62, 32]))) W := fun W => by
        rw [run_string_add_sum W (bs J) ⟨#[32, 61, 62, 32]⟩ (by rw [hJ]; show J.length + 4 ≤ _; omega)]
        show _ = Result.ok (Value.string (bs (J ++ [32, 61, 62, 32]))) W
        rw [← bs_append]; rfl
      have a2 : ∀ W, (Op.stringOp .add (bs (J ++ [32, 61, 62, 32])) (bs (Lib.itoa out))).run Tryd.prog W = .ok (.string (bs (ruleT (cs, out)))) W := fun W => by
        rw [run_string_add_sum W _ _ (by rw [hI, bs_size, List.length_append]; simp only [List.length_cons, List.length_nil]; omega), bs_append, HE.out]
      clear hJ hI hjl
      generalize hRB : bs (ruleT (cs, out)) = RB at *
      have HRB := Lib.hid hRB
      clear hRB
      generalize bs (J ++ [32, 61, 62, 32]) = J4 at *
      generalize bs J = JB at *
      generalize bs (Lib.itoa out) = IB at *
      go_wp2_with fail
      go_region_held3 (fun w' => w'.cell? ⟨w.heap.size, 1, none⟩ = some (.int .i64 out)) (first | exact f1 | exact f1' | exact k1 | exact k2)
        (first
         | (go_at_call 14; refine (hjj.out _ ?_).mono ?_; exact (Below.refl _ _).drew; rintro e w2 ⟨rfl, hb2⟩; have b2 : Below wr.heap.size wr w2 := (Below.refl _ _).drew.trans hb2; have k1 := (b2.cell (p := ⟨w.heap.size, 1, none⟩) hg1).trans f1; clear hb2)
         | (go_at_call 26; refine (hit.out _ ?_).mono ?_; exact b2; rintro e w3 ⟨rfl, hb3⟩; have b3 : Below wr.heap.size wr w3 := bx b2 hb3; have k2 := (b3.cell (p := ⟨w.heap.size, 1, none⟩) hg1).trans f1; clear hb3))
      go_wp2
      go_ret
      exact ⟨by rw [HRB.out]; rfl, bx hw0 (bx HB.out b3)⟩

end Go.Proofs.YtmdljknlbmlacabDoor
