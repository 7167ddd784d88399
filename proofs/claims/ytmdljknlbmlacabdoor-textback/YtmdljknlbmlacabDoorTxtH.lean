/- text.limited, Domain, head and Table, as Lean functions of what their arguments read as. Conditions: argument slices read as lists in old memory; texts have at most 2^47 bytes; the package variables that strconv and the policies read are as their initialisers lay them. -/
import Derived.Test.YtmdljknlbmlacabDoorTxtG
import Derived.Test.YtmdljknlbmlacabDoorTxtF
namespace Go.Proofs.YtmdljknlbmlacabDoor
open Go.RowKit Go.Shelf

set_option maxHeartbeats 400000 in
theorem text_limited (l : Bs) (w : World) (h : l.length ≤ 2000) :
    Calls Tryd.prog 13 #[.string (bs l)] w fun e w' => e = .returned (.tuple #[.string (bs l), .int .i64 0]) ∧ w' = w := by
  have hsz : (bs l).size = l.length := bs_size l
  have h' : (l.length : Int) ≤ 2000 := by omega
  go_enter Tryd.func13, Tryd.ntmps13
  go_wp2
  go_ret2
  exact ⟨rfl, rfl⟩

theorem add_bs {a b : ByteArray} {x y : Bs} (ha : a = bs x) (hb : b = bs y) (h : x.length + y.length ≤ 4000) (W : World) : (Op.stringOp .add a b).run Tryd.prog W = .ok (.string (bs (x ++ y))) W := by
  subst ha hb
  rw [run_string_add_sum W _ _ (by rw [bs_size, bs_size]; omega), bs_append]

set_option maxRecDepth 100000 in
set_option maxHeartbeats 1000000 in
theorem text_Domain (nm : ByteArray) (lo hi : Int) (w : World) (hv : VarsOk w) (hs : nm.size ≤ 140737488355328) :
    Calls Tryd.prog 8 #[.agg #[.string nm, .int .i64 lo, .int .i64 hi]] w fun e w' => e = .returned (if goodD (nm, lo, hi) then .tuple #[.string (bs (domT (nm, lo, hi))), .int .i64 0] else .tuple #[.string ⟨#[]⟩, .int .i64 1]) ∧ Below w.heap.size w w' := by
  have hw0 := below_alloc1 w (.cells #[.string nm, .int .i64 lo, .int .i64 hi] 27)
  have C0 := Lib.hid (Cs.new w [.string nm, .int .i64 lo, .int .i64 hi] 27)
  change Hid (Cs (w.alloc (.cells #[.string nm, .int .i64 lo, .int .i64 hi] 27)) w.heap.size [.string nm, .int .i64 lo, .int .i64 hi]) at C0
  have c0 := C0.out.at 0 rfl
  have c1 := C0.out.at 1 rfl
  have c2 := C0.out.at 2 rfl
  have HV := Lib.hid (hv.next hw0)
  cases hG : goodD (nm, lo, hi)
  · have HG := Lib.hid hG
    clear hG
    go_enter Tryd.func8, Tryd.ntmps8
    go_wp2_with fail
    generalize w.alloc (.cells #[.string nm, .int .i64 lo, .int .i64 hi] 27) = w0 at *
    refine (text_GoodDomain nm lo hi _ hs).mono ?_
    rintro e w1 ⟨rfl, hb1⟩
    rw [HG.out]
    go_wp2
    go_ret2
    exact ⟨rfl, bx hw0 hb1⟩
  · have HG := Lib.hid hG
    obtain ⟨g1, g2, g3⟩ := goodD_parts hG
    simp only at g1 g2 g3
    obtain ⟨n1, n2, n3⟩ := nameB_parts g1
    have l1 := itoa_len g2
    have l2 := itoa_len g3
    have hends : (endsT lo hi).length ≤ 18 := by simp only [endsT, List.length_append, List.length_cons, List.length_nil]; omega
    have a1 := add_bs (a := ⟨#[100, 111, 109, 97, 105, 110, 32]⟩) (b := nm) (x := domainW ++ [32]) (y := nm.data.toList) rfl (bs_of nm).symm (by simp only [domainW, List.length_append, List.length_cons, List.length_nil]; omega)
    have a2 := add_bs (a := bs (domainW ++ [32] ++ nm.data.toList)) (b := ⟨#[32]⟩) (y := [32]) rfl rfl (by simp only [domainW, List.length_append, List.length_cons, List.length_nil]; omega)
    have a3 := add_bs (a := bs (domainW ++ [32] ++ nm.data.toList ++ [32])) (b := bs (endsT lo hi)) rfl rfl (by simp only [domainW, List.length_append, List.length_cons, List.length_nil]; omega)
    have a4 := add_bs (a := bs (domainW ++ [32] ++ nm.data.toList ++ [32] ++ endsT lo hi)) (b := ⟨#[10]⟩) (y := [10]) rfl rfl (by simp only [domainW, List.length_append, List.length_cons, List.length_nil]; omega)
    have HE : Hid (bs (domainW ++ [32] ++ nm.data.toList ++ [32] ++ endsT lo hi ++ [10]) = bs (domT (nm, lo, hi))) := rfl
    have htw : Hid (∀ W, VarsOk W → Calls Tryd.prog 21 #[.int .i64 lo, .int .i64 hi] W fun e w' => e = .returned (.string (bs (endsT lo hi))) ∧ Below W.heap.size W w') := fun W hW => text_twoEnds lo hi W hW g2 g3
    clear hG g1 n1 n2 n3 l1 l2 hends
    generalize bs (domainW ++ [32] ++ nm.data.toList ++ [32] ++ endsT lo hi ++ [10]) = S4 at *
    generalize bs (domainW ++ [32] ++ nm.data.toList ++ [32] ++ endsT lo hi) = S3 at *
    generalize bs (domainW ++ [32] ++ nm.data.toList ++ [32]) = S2 at *
    generalize bs (domainW ++ [32] ++ nm.data.toList) = S1 at *
    generalize bs (endsT lo hi) = EB at *
    simp only [if_true]
    go_enter Tryd.func8, Tryd.ntmps8
    go_wp2_with fail
    generalize w.alloc (.cells #[.string nm, .int .i64 lo, .int .i64 hi] 27) = w0 at *
    refine (text_GoodDomain nm lo hi _ hs).mono ?_
    rintro e w1 ⟨rfl, hb1⟩
    rw [HG.out]
    have C1 := Lib.hid (C0.out.next hb1)
    have d0 := C1.out.at 0 rfl
    have d1 := C1.out.at 1 rfl
    have d2 := C1.out.at 2 rfl
    have HV1 := Lib.hid (HV.out.next hb1)
    have hgz := C1.out.1
    have B1 := Lib.hid (bx hw0 hb1)
    clear c0 c1 c2 hb1
    go_wp2_with fail
    go_region_held3 (fun w' => w'.cell? ⟨w.heap.size, 0, none⟩ = some (.string nm) ∧ w'.cell? ⟨w.heap.size, 1, none⟩ = some (.int .i64 lo) ∧ w'.cell? ⟨w.heap.size, 2, none⟩ = some (.int .i64 hi)) (first | exact ⟨d0, d1, d2⟩ | exact ⟨k0, k1, k2⟩)
      (first
       | (go_at_call 21; refine (htw.out _ ?_).mono ?_; exact HV1.out.next (Below.refl _ _).drew; rintro e w2 ⟨rfl, hb2⟩; have b2 : Below w1.heap.size w1 w2 := (Below.refl _ _).drew.trans hb2; have k0 := (b2.cell (p := ⟨w.heap.size, 0, none⟩) hgz).trans d0; have k1 := (b2.cell (p := ⟨w.heap.size, 1, none⟩) hgz).trans d1; have k2 := (b2.cell (p := ⟨w.heap.size, 2, none⟩) hgz).trans d2; clear hb2))
    go_wp2
    go_ret2
    exact ⟨by rw [← HE.out]; rfl, bx B1.out b2⟩

theorem headT_len {t : TabD} (h : goodT t = true) : (headT t).length ≤ 1700 := by
  have a := tabTx_len h
  have e : ∀ (x : Bs) (l : List Bs), Lib.join (x :: l) [] = x ++ l.flatten := by
    intro x l
    rw [Lib.join_cons]
    simp [Lib.joinTail]
  unfold tabTx at a
  rw [List.cons_append, List.nil_append, List.cons_append, e, List.length_append] at a
  omega
theorem insJ_len {t : TabD} (h : goodT t = true) : t.ins.length ≤ 3 ∧ (Lib.join (t.ins.map (·.data.toList)) [44]).length ≤ 27 := by
  have hok := goodT_ok h
  simp only [goodT, Bool.and_eq_true, decide_eq_true_eq, goodIns] at h
  have b := join_len (m := 8) (c := 44) (xs := t.ins.map (·.data.toList)) (fun x hx => by
    obtain ⟨s, hs, rfl⟩ := List.mem_map.1 hx
    exact (nameB_parts (hok.2.2.1.2 s hs)).2.1)
  rw [List.length_map] at b
  have hl : t.ins.length ≤ 3 := by omega
  have b2 : t.ins.length * 9 ≤ 3 * 9 := Nat.mul_le_mul_right _ hl
  exact ⟨hl, by omega⟩
theorem polL_T {k : Nat} (h1 : 1 ≤ k) : polL.getD k [] = polT (k : Int) := by
  obtain ⟨m, rfl⟩ : ∃ m, k = m + 1 := ⟨k - 1, by omega⟩
  show _ = polW.getD (((m + 1 : Nat) : Int).toNat - 1) []
  simp [polL]

set_option maxRecDepth 100000 in
set_option maxHeartbeats 1000000 in
theorem text_head (t : TabD) (v : Value) (w : World) (hv : VarsOk w) (h : TabAt w (Old w) t v) (hg : goodT t = true) :
    Calls Tryd.prog 11 #[v] w fun e w' => e = .returned (.string (bs (headT t))) ∧ Below w.heap.size w w' := by
  have hhl := headT_len hg
  obtain ⟨hil, hij⟩ := insJ_len hg
  obtain ⟨q1, ⟨q2, q3⟩, -, -⟩ := goodT_ok hg
  have HEt : Hid ((([bs tableW, t.name, bs (polT t.pol)] ++ [bs compW] ++ [bs ([40] ++ Lib.join (t.ins.map (·.data.toList)) [44] ++ [41]), ⟨#[123, 10]⟩]).map (·.data.toList)) = [tableW, t.name.data.toList, polT t.pol] ++ [[99, 111, 109, 112, 108, 101, 116, 101]] ++ [[40] ++ Lib.join (t.ins.map (·.data.toList)) [44] ++ [41], [123, 10]]) := by
    show _ = _
    simp only [List.map_append, List.map_cons, List.map_nil, bs_data]
    try rfl
  have HEf : Hid ((([bs tableW, t.name, bs (polT t.pol)] ++ [bs ([40] ++ Lib.join (t.ins.map (·.data.toList)) [44] ++ [41]), ⟨#[123, 10]⟩]).map (·.data.toList)) = [tableW, t.name.data.toList, polT t.pol] ++ [[40] ++ Lib.join (t.ins.map (·.data.toList)) [44] ++ [41], [123, 10]]) := by
    show _ = _
    simp only [List.map_append, List.map_cons, List.map_nil, bs_data]
    try rfl
  have HH : Hid (headT t = Lib.join ([tableW, t.name.data.toList, polT t.pol] ++ (if t.comp then [[99, 111, 109, 112, 108, 101, 116, 101]] else []) ++ [[40] ++ Lib.join (t.ins.map (·.data.toList)) [44] ++ [41], [123, 10]]) [32]) := rfl
  obtain ⟨nm, pol, comp, ins, rules⟩ := t
  obtain ⟨vi, vr, rfl, hi, hr⟩ := h
  simp only at hi hr q1 q2 q3 HEt HEf HH hil hij
  obtain ⟨Ai, ci, rfl, hc1, hc2⟩ := hi.form
  obtain ⟨Ar, cr, rfl, hd1, hd2⟩ := hr.form
  obtain ⟨k, rfl⟩ : ∃ k : Nat, pol = k := ⟨pol.toNat, by omega⟩
  have hw0 := below_alloc1 w (.cells #[.string nm, .int .i64 k, .bool comp, .slice Ai ins.length ci, .slice Ar rules.length cr] 25)
  have C0 := Lib.hid (Cs.new w [.string nm, .int .i64 k, .bool comp, .slice Ai ins.length ci, .slice Ar rules.length cr] 25)
  change Hid (Cs (w.alloc (.cells #[.string nm, .int .i64 k, .bool comp, .slice Ai ins.length ci, .slice Ar rules.length cr] 25)) w.heap.size [.string nm, .int .i64 k, .bool comp, .slice Ai ins.length ci, .slice Ar rules.length cr]) at C0
  have HV := Lib.hid (hv.next hw0)
  have HI := Lib.hid (hi.onOld hw0)
  have hcell := polL_at (k := k) (G := 0) (by kernel_rfl) HV.out (by omega)
  rw [polL_T (by omega)] at hcell
  have a1 := add_bs (a := ⟨#[40]⟩) (b := bs (Lib.join (ins.map (·.data.toList)) [44])) (x := [40]) rfl rfl (by simp only [List.length_cons, List.length_nil]; omega)
  have a2 := add_bs (a := bs ([40] ++ Lib.join (ins.map (·.data.toList)) [44])) (b := ⟨#[41]⟩) (y := [41]) rfl rfl (by simp only [List.length_append, List.length_cons, List.length_nil]; omega)
  generalize hSI : bs ([40] ++ Lib.join (ins.map (·.data.toList)) [44] ++ [41]) = SI at *
  generalize bs ([40] ++ Lib.join (ins.map (·.data.toList)) [44]) = SI0 at *
  generalize hPT : bs (polT (k : Int)) = PT at *
  clear hi hr hv
  generalize hwe : w.alloc (.cells #[.string nm, .int .i64 k, .bool comp, .slice Ai ins.length ci, .slice Ar rules.length cr] 25) = w0 at *
  have c0 : w0.drew.cell? ⟨w.heap.size, 0, none⟩ = some (.string nm) := C0.out.at 0 rfl
  have c1 : w0.drew.cell? ⟨w.heap.size, 1, none⟩ = some (.int .i64 k) := C0.out.at 1 rfl
  have hcd : w0.drew.cell? ⟨0, k, none⟩ = some (.string PT) := hcell
  have hk0 : (0 : Int) ≤ k := by omega
  have hk8 : (k : Int) < 8 := by omega
  have hk8n : k < 8 := by omega
  go_enter Tryd.func11, Tryd.ntmps11
  go_wp2_with fail
  clear hwe
  go_region
  have O1 : Hid (OwnG Enc.str (w0.alloc (.cells #[.string ⟨#[116, 97, 98, 108, 101]⟩, .string nm, .string PT] 9)) w0.heap.size w0.heap.size 9 (.slice (some ⟨w0.heap.size, 0, none⟩) 3 3) [bs tableW, nm, PT]) := by
    refine OwnG.lit (E := Enc.str) w0 [bs tableW, nm, PT] #[.string ⟨#[116, 97, 98, 108, 101]⟩, .string nm, .string PT] (Nat.le_refl _) (by unfold maxLen; simp) rfl (fun i x hx => ?_)
    match i with
    | 0 => simp at hx; subst hx; exact ⟨[_], rfl, fun j u hu => by match j with | 0 => exact hu | j + 1 => simp at hu⟩
    | 1 => simp at hx; subst hx; exact ⟨[_], rfl, fun j u hu => by match j with | 0 => exact hu | j + 1 => simp at hu⟩
    | 2 => simp at hx; subst hx; exact ⟨[_], rfl, fun j u hu => by match j with | 0 => exact hu | j + 1 => simp at hu⟩
    | i + 3 => simp at hx
  have hw1 : Below w0.heap.size w0 (w0.alloc (.cells #[.string ⟨#[116, 97, 98, 108, 101]⟩, .string nm, .string PT] 9)).drew := (below_alloc1 _ _).drew
  have O1' := Lib.hid O1.out.drewO
  clear O1 c0 c1 hcd hcell
  generalize (w0.alloc (.cells #[.string ⟨#[116, 97, 98, 108, 101]⟩, .string nm, .string PT] 9)).drew = w1 at *
  have f2 := (C0.out.next hw1).at 2 rfl
  cases comp
  · have HE : Hid (Lib.join ((([bs tableW, nm, PT]) ++ [SI, ⟨#[123, 10]⟩]).map (·.data.toList)) [32] = headT ⟨nm, k, false, ins, rules⟩) := by
      show _ = _
      rw [HEf.out, HH.out]; rfl
    clear HEt HEf HH
    have Oq := O1'
    have Bq := Lib.hid hw1
    have HI1 := Lib.hid (HI.out.onOld Bq.out)
    have f3 := (C0.out.next Bq.out).at 3 rfl
    have hj := lib_Join [44] ins _ w1 HI1.out (by omega) (by omega)
    go_wp2_with fail
    refine hj.mono ?_
    rintro e w5 ⟨rfl, hb5⟩
    have O5 := Lib.hid ((Oq.out.next hb5).alloc (.cells #[.string SI, .string ⟨#[123, 10]⟩] 9))
    have B5 := Lib.hid (bx (bx Bq.out hb5) (below_alloc1 w5 (.cells #[.string SI, .string ⟨#[123, 10]⟩] 9)))
    have M5 : Hid (Sl Enc.str (w5.alloc (.cells #[.string SI, .string ⟨#[123, 10]⟩] 9)) (Old (w5.alloc (.cells #[.string SI, .string ⟨#[123, 10]⟩] 9))) [SI, ⟨#[123, 10]⟩] (.slice (some ⟨w5.heap.size, 0, none⟩) 2 2)) := (OwnG.lit (E := Enc.str) w5 (base := w5.heap.size) (lo := w5.heap.size) (e := 9) [SI, ⟨#[123, 10]⟩] #[.string SI, .string ⟨#[123, 10]⟩] (Nat.le_refl _) (by unfold maxLen; simp) rfl (fun i x hx => by
      match i with
      | 0 => simp at hx; subst hx; exact ⟨[_], rfl, fun j u hu => by match j with | 0 => exact hu | j + 1 => simp at hu⟩
      | 1 => simp at hx; subst hx; exact ⟨[_], rfl, fun j u hu => by match j with | 0 => exact hu | j + 1 => simp at hu⟩
      | i + 2 => simp at hx)).slOld (Nat.le_refl _)
    have hz5 : w0.heap.size ≤ (w5.alloc (.cells #[.string SI, .string ⟨#[123, 10]⟩] 9)).heap.size := B5.out.size
    clear hb5 f3 hj
    go_wp2_with (at_builtin; refine wpList_append_all (E := Enc.str) _ rfl _ _ 22 rfl w0.heap.size w0.heap.size 9 16 (.string ⟨#[]⟩) x_under_ss x_info_s rfl (by decide) _ _ rfl O5.out _ [SI, ⟨#[123, 10]⟩] rfl _ M5.out (fun _ _ h => h) (by show (5) * 16 ≤ 140737488355328; omega) (by show 5 ≤ maxLen; unfold maxLen; omega) hz5 ?_; intro v6 w6 hown6 hgrow6 _)
    have hbel6 := below_of_grown hgrow6 hz5 (fun k hk => (O5.out.lt k hk).1)
    have B6 := Lib.hid (B5.out.trans hbel6)
    obtain ⟨A6, c6, e6, -, -, -⟩ := hown6.form
    replace e6 : v6 = .slice A6 (5) c6 := e6
    subst e6
    have hj6 := lib_Join [32] ([bs tableW, nm, PT] ++ [SI, ⟨#[123, 10]⟩]) _ w6 (hown6.slOld (Nat.le_refl _)) (by show 5 ≤ _; omega) (by rw [HE.out]; omega)
    rw [HE.out] at hj6
    clear hown6 hgrow6 hbel6
    go_wp2_with fail
    refine hj6.mono ?_
    rintro e w7 ⟨rfl, hb7⟩
    go_wp2
    go_ret
    exact ⟨rfl, bx hw0 (bx B6.out hb7)⟩
  · have HE : Hid (Lib.join ((([bs tableW, nm, PT] ++ [bs compW]) ++ [SI, ⟨#[123, 10]⟩]).map (·.data.toList)) [32] = headT ⟨nm, k, true, ins, rules⟩) := by
      show _ = _
      rw [HEt.out, HH.out]; rfl
    clear HEt HEf HH
    have O2 := Lib.hid (O1'.out.alloc (.cells #[.string ⟨#[99, 111, 109, 112, 108, 101, 116, 101]⟩] 9))
    have B2 := Lib.hid (bx hw1 (below_alloc1 w1 (.cells #[.string ⟨#[99, 111, 109, 112, 108, 101, 116, 101]⟩] 9)))
    have hz2 : w0.heap.size ≤ (w1.alloc (.cells #[.string ⟨#[99, 111, 109, 112, 108, 101, 116, 101]⟩] 9)).heap.size := B2.out.size
    go_wp2_with (at_builtin; refine wpList_append_one (E := Enc.str) _ rfl _ _ 22 rfl w0.heap.size w0.heap.size 9 16 (.string ⟨#[]⟩) x_under_ss x_info_s rfl (by decide) _ _ rfl O2.out ⟨w1.heap.size, 0, none⟩ (bs compW) [.string ⟨#[99, 111, 109, 112, 108, 101, 116, 101]⟩] rfl rfl (cellx_new w1 _ _) (by show 4 * 16 ≤ 140737488355328; omega) (by show 4 ≤ maxLen; unfold maxLen; omega) hz2 ?_; intro v3 w3 hown3 hgrow3 _; have hbel3 := below_of_grown hgrow3 hz2 (fun k hk => (O2.out.lt k hk).1); obtain ⟨A3, c3, e3, -, -, -⟩ := hown3.form; replace e3 : v3 = .slice A3 4 c3 := e3; subst e3; have Oq := Lib.hid hown3; have Bq := Lib.hid (B2.out.trans hbel3); have f3 := (C0.out.next Bq.out).at 3 rfl)
    clear hown3 hgrow3 hbel3 f2
    have HI1 := Lib.hid (HI.out.onOld Bq.out)
    have f3 := (C0.out.next Bq.out).at 3 rfl
    have hj := lib_Join [44] ins _ w3 HI1.out (by omega) (by omega)
    go_wp2_with fail
    refine hj.mono ?_
    rintro e w5 ⟨rfl, hb5⟩
    have O5 := Lib.hid ((Oq.out.next hb5).alloc (.cells #[.string SI, .string ⟨#[123, 10]⟩] 9))
    have B5 := Lib.hid (bx (bx Bq.out hb5) (below_alloc1 w5 (.cells #[.string SI, .string ⟨#[123, 10]⟩] 9)))
    have M5 : Hid (Sl Enc.str (w5.alloc (.cells #[.string SI, .string ⟨#[123, 10]⟩] 9)) (Old (w5.alloc (.cells #[.string SI, .string ⟨#[123, 10]⟩] 9))) [SI, ⟨#[123, 10]⟩] (.slice (some ⟨w5.heap.size, 0, none⟩) 2 2)) := (OwnG.lit (E := Enc.str) w5 (base := w5.heap.size) (lo := w5.heap.size) (e := 9) [SI, ⟨#[123, 10]⟩] #[.string SI, .string ⟨#[123, 10]⟩] (Nat.le_refl _) (by unfold maxLen; simp) rfl (fun i x hx => by
      match i with
      | 0 => simp at hx; subst hx; exact ⟨[_], rfl, fun j u hu => by match j with | 0 => exact hu | j + 1 => simp at hu⟩
      | 1 => simp at hx; subst hx; exact ⟨[_], rfl, fun j u hu => by match j with | 0 => exact hu | j + 1 => simp at hu⟩
      | i + 2 => simp at hx)).slOld (Nat.le_refl _)
    have hz5 : w0.heap.size ≤ (w5.alloc (.cells #[.string SI, .string ⟨#[123, 10]⟩] 9)).heap.size := B5.out.size
    clear hb5 f3 hj
    go_wp2_with (at_builtin; refine wpList_append_all (E := Enc.str) _ rfl _ _ 22 rfl w0.heap.size w0.heap.size 9 16 (.string ⟨#[]⟩) x_under_ss x_info_s rfl (by decide) _ _ rfl O5.out _ [SI, ⟨#[123, 10]⟩] rfl _ M5.out (fun _ _ h => h) (by show (6) * 16 ≤ 140737488355328; omega) (by show 6 ≤ maxLen; unfold maxLen; omega) hz5 ?_; intro v6 w6 hown6 hgrow6 _)
    have hbel6 := below_of_grown hgrow6 hz5 (fun k hk => (O5.out.lt k hk).1)
    have B6 := Lib.hid (B5.out.trans hbel6)
    obtain ⟨A6, c6, e6, -, -, -⟩ := hown6.form
    replace e6 : v6 = .slice A6 (6) c6 := e6
    subst e6
    have hj6 := lib_Join [32] (([bs tableW, nm, PT] ++ [bs compW]) ++ [SI, ⟨#[123, 10]⟩]) _ w6 (hown6.slOld (Nat.le_refl _)) (by show 6 ≤ _; omega) (by rw [HE.out]; omega)
    rw [HE.out] at hj6
    clear hown6 hgrow6 hbel6
    go_wp2_with fail
    refine hj6.mono ?_
    rintro e w7 ⟨rfl, hb7⟩
    go_wp2
    go_ret
    exact ⟨rfl, bx hw0 (bx B6.out hb7)⟩

def lineB (r : RuleD) : ByteArray := bs (lineT r)
theorem goodR_parts {t : TabD} (h : goodT t = true) : t.rules.length ≤ 6 ∧ ∀ r ∈ t.rules, r.1.length ≤ 3 ∧ (∀ c ∈ r.1, goodC c = true) ∧ inB r.2 ∧ (ruleT r).length ≤ 255 := by
  have h' := h
  simp only [goodT, Bool.and_eq_true, decide_eq_true_eq, goodIns, goodRs, List.all_eq_true] at h
  obtain ⟨⟨⟨⟨h1, h2⟩, h3⟩, ⟨h4, h5⟩, h6⟩, ⟨h7, h8⟩, h9⟩ := h
  refine ⟨h8, fun r hr => ?_⟩
  have hr' := h9 r hr
  have hl := lineT_len (n := t.ins.length) (by omega) hr'
  simp only [goodR, Bool.and_eq_true, decide_eq_true_eq, List.all_eq_true] at hr'
  obtain ⟨⟨⟨q1, q2⟩, q3⟩, q4⟩ := hr'
  refine ⟨by omega, q4, ⟨q1, q2⟩, ?_⟩
  simp only [lineT, List.length_append, List.length_cons, List.length_nil] at hl
  omega
theorem tabTx_join (t : TabD) : Lib.join ((([bs (headT t)] ++ t.rules.map lineB) ++ [(⟨#[125, 10]⟩ : ByteArray)]).map (·.data.toList)) [] = tabTx t := by
  have e : ((([bs (headT t)] ++ t.rules.map lineB) ++ [(⟨#[125, 10]⟩ : ByteArray)]).map (·.data.toList)) = [headT t] ++ (t.rules.map fun r => [32, 32] ++ ruleT r ++ [59, 10]) ++ [[125, 10]] := by
    simp only [List.map_append, List.map_cons, List.map_nil, bs_data, List.map_map]
    congr 2
  rw [e]; rfl

set_option maxRecDepth 100000 in
set_option maxHeartbeats 1000000 in
theorem text_Table (t : TabD) (v : Value) (w : World) (hv : VarsOk w) (h : TabAt w (Old w) t v) (hs : smallT t) :
    Calls Tryd.prog 5 #[v] w fun e w' => e = .returned (if goodT t then .tuple #[.string (bs (tabTx t)), .int .i64 0] else .tuple #[.string ⟨#[]⟩, .int .i64 1]) ∧ Below w.heap.size w w' := by
  have H0 := Lib.hid h
  have HS := Lib.hid hs
  have HJ := Lib.hid (tabTx_join t)
  have hG0 : goodT t = true → Hid ((t.rules.length ≤ 6 ∧ ∀ r ∈ t.rules, r.1.length ≤ 3 ∧ (∀ c ∈ r.1, goodC c = true) ∧ inB r.2 ∧ (ruleT r).length ≤ 255) ∧ (tabTx t).length ≤ 1700) := fun hg => ⟨goodR_parts hg, tabTx_len hg⟩
  obtain ⟨nm, pol, comp, ins, rules⟩ := t
  obtain ⟨vi, vr, rfl, hi, hr⟩ := h
  simp only at hi hr HJ
  obtain ⟨Ai, ci, rfl, hc1, hc2⟩ := hi.form
  obtain ⟨Ar, cr, rfl, hd1, hd2⟩ := hr.form
  unfold maxLen at hd2
  have hw0 := below_alloc1 w (.cells #[.string nm, .int .i64 pol, .bool comp, .slice Ai ins.length ci, .slice Ar rules.length cr] 25)
  have C0 := Lib.hid (Cs.new w [.string nm, .int .i64 pol, .bool comp, .slice Ai ins.length ci, .slice Ar rules.length cr] 25)
  change Hid (Cs (w.alloc (.cells #[.string nm, .int .i64 pol, .bool comp, .slice Ai ins.length ci, .slice Ar rules.length cr] 25)) w.heap.size [.string nm, .int .i64 pol, .bool comp, .slice Ai ins.length ci, .slice Ar rules.length cr]) at C0
  have HV := Lib.hid (hv.next hw0)
  have H1 := Lib.hid (H0.out.onOld hw0)
  have HR := Lib.hid (hr.onOld hw0)
  have c0 := C0.out.at 0 rfl
  have c1 := C0.out.at 1 rfl
  have c2 := C0.out.at 2 rfl
  have c3 := C0.out.at 3 rfl
  have c4 := C0.out.at 4 rfl
  clear hi hr hs hv H0
  cases hG : goodT ⟨nm, pol, comp, ins, rules⟩
  · have HG := Lib.hid hG
    clear hG hG0
    go_enter Tryd.func5, Tryd.ntmps5
    go_wp2_with fail
    generalize w.alloc (.cells #[.string nm, .int .i64 pol, .bool comp, .slice Ai ins.length ci, .slice Ar rules.length cr] 25) = w0 at *
    refine (table_Good _ _ _ H1.out HS.out).mono ?_
    rintro e w1 ⟨rfl, hb1⟩
    rw [HG.out]
    go_wp2
    go_ret2
    exact ⟨rfl, bx hw0 hb1⟩
  · have HG := Lib.hid hG
    obtain ⟨⟨hrl, hrr⟩, hlen⟩ := (hG0 hG).out
    simp only at hrl hrr
    have HRR := Lib.hid hrr
    clear hG hG0 hrr
    simp only [if_true]
    go_enter Tryd.func5, Tryd.ntmps5
    go_wp2_with fail
    generalize w.alloc (.cells #[.string nm, .int .i64 pol, .bool comp, .slice Ai ins.length ci, .slice Ar rules.length cr] 25) = w0 at *
    refine (table_Good _ _ _ H1.out HS.out).mono ?_
    rintro e w1 ⟨rfl, hb1⟩
    rw [HG.out]
    have C1 := Lib.hid (C0.out.next hb1)
    have HV1 := Lib.hid (HV.out.next hb1)
    have T1 := Lib.hid (H1.out.onOld hb1)
    have HR1 := Lib.hid (HR.out.onOld hb1)
    have d0 := C1.out.at 0 rfl
    have d1 := C1.out.at 1 rfl
    have d2 := C1.out.at 2 rfl
    have d3 := C1.out.at 3 rfl
    have d4 := C1.out.at 4 rfl
    have B1 := Lib.hid (bx hw0 hb1)
    clear c0 c1 c2 c3 c4 hb1 hw0
    go_wp2_with fail
    refine (text_head _ _ _ HV1.out T1.out HG.out).mono ?_
    rintro e w2 ⟨rfl, hb2⟩
    have C2 := Lib.hid (C1.out.next hb2)
    have HV2 := Lib.hid (HV1.out.next hb2)
    have HR2 := Lib.hid (HR1.out.onOld hb2)
    have B2 := Lib.hid (bx B1.out hb2)
    generalize bs (headT ⟨nm, pol, comp, ins, rules⟩) = HD at *
    have hw3 := below_alloc1 w2 (.cells #[.string HD] 9)
    have O3 : Hid (OwnG Enc.str (w2.alloc (.cells #[.string HD] 9)) w2.heap.size w2.heap.size 9 (.slice (some ⟨w2.heap.size, 0, none⟩) 1 1) [HD]) := OwnG.lit (E := Enc.str) w2 [HD] #[.string HD] (Nat.le_refl _) (by unfold maxLen; simp) rfl (Elems.one rfl)
    have f4 := (C2.out.next hw3).at 4 rfl
    clear d0 d1 d2 d3 d4 hb2
    go_wp2
    generalize w2.alloc (.cells #[.string HD] 9) = w3 at *
    go_loopw [4, 16] (fun u i wr => ∃ k : Nat, k ≤ rules.length ∧ i = .int .i64 k ∧ Hid (OwnG Enc.str wr w2.heap.size w2.heap.size 9 u ([HD] ++ (rules.take k).map lineB)) ∧ Hid (Below w2.heap.size w2 wr)) (fun _ i _ => rules.length - (intOf i).toNat)
    case atStart => exact ⟨0, Nat.zero_le _, rfl, O3, hw3⟩
    case round =>
      obtain ⟨k, hk, rfl, HO, HB⟩ := hrel
      have hsz := HB.out.size
      by_cases hlt : k < rules.length
      · obtain ⟨b, o, cs, x, vv, rfl, _, hx, e1, e2, hcs⟩ := (HR2.out.onOld HB.out).rule_at hlt
        obtain ⟨Ac, cc, rfl, hr1, hr2⟩ := hcs.form
        have HT := Lib.hid (mapt lineB hx.out)
        have hN : ([HD] ++ (rules.take k).map lineB).length = k + 1 := by simp only [List.length_append, List.length_map, List.length_take, List.length_cons, List.length_nil]; omega
        have HN := Lib.hid hN
        obtain ⟨q1, q2, q3, q4⟩ := HRR.out _ (List.mem_of_getElem? hx.out)
        simp only at q1 q2 q3
        have Q2 := Lib.hid q2
        have Q3 := Lib.hid q3
        have a1 := add_bs (a := ⟨#[32, 32]⟩) (b := bs (ruleT (cs, x))) (x := [32, 32]) rfl rfl (by simp only [List.length_cons, List.length_nil]; omega)
        have a2 := add_bs (a := bs ([32, 32] ++ ruleT (cs, x))) (b := ⟨#[59, 10]⟩) (y := [59, 10]) rfl rfl (by simp only [List.length_append, List.length_cons, List.length_nil]; omega)
        have HLB : Hid (bs ([32, 32] ++ ruleT (cs, x) ++ [59, 10]) = lineB (cs, x)) := rfl
        clear q2 q3 q4 hN
        have hw4 := below_alloc1 wr (.cells #[.slice Ac cs.length cc, .int .i64 x] 42)
        have g0 : (wr.alloc (.cells #[.slice Ac cs.length cc, .int .i64 x] 42)).cell? ⟨wr.heap.size, 0, none⟩ = some (.slice Ac cs.length cc) := cell_new _ _ _ _ _ rfl
        have g1 : (wr.alloc (.cells #[.slice Ac cs.length cc, .int .i64 x] 42)).cell? ⟨wr.heap.size, 1, none⟩ = some (.int .i64 x) := cell_new _ _ _ _ _ rfl
        have HC := Lib.hid (hcs.onOld hw4)
        have O4 := Lib.hid (HO.out.next hw4)
        have B4 := Lib.hid (bx HB.out hw4)
        clear hcs
        go_wp2_with fail
        refine (text_ruleText cs x _ _ (HV2.out.next B4.out) HC.out q1 Q2.out Q3.out).mono ?_
        rintro e w5 ⟨rfl, hb5⟩
        generalize bs ([32, 32] ++ ruleT (cs, x) ++ [59, 10]) = LB at *
        generalize bs ([32, 32] ++ ruleT (cs, x)) = LA at *
        generalize bs (ruleT (cs, x)) = LR at *
        have O5 := Lib.hid ((O4.out.next hb5).alloc (.cells #[.string LB] 9))
        have hz5 : w2.heap.size ≤ (w5.alloc (.cells #[.string LB] 9)).heap.size := Nat.le_trans hsz (Nat.le_trans hw4.size (Nat.le_trans hb5.size (below_alloc1 w5 _).size))
        have B5 := Lib.hid (bx (bx B4.out hb5) (below_alloc1 w5 (.cells #[.string LB] 9)))
        clear hb5 hw4 g0 g1
        go_wp2_with (at_builtin; refine wpList_append_one (E := Enc.str) _ rfl _ _ 22 rfl w2.heap.size w2.heap.size 9 16 (.string ⟨#[]⟩) x_under_ss x_info_s rfl (by decide) _ _ rfl O5.out ⟨w5.heap.size, 0, none⟩ LB [.string LB] rfl rfl (cellx_new w5 _ _) (by rw [HN.out]; omega) (by rw [HN.out]; unfold maxLen; omega) hz5 ?_; intro v' w6 hown' hgrow6 _)
        have hbel := below_of_grown hgrow6 hz5 (fun k hk => (O5.out.lt k hk).1)
        refine ⟨⟨k + 1, by omega, by go_num, ?_, B5.out.trans hbel⟩, by simp [intOf]; omega⟩
        show OwnG _ _ _ _ _ _ _
        rw [HT.out, ← HLB.out, ← List.append_assoc]
        exact hown'
      · have e : rules.take k = rules := List.take_of_length_le (by omega)
        have HO' := HO.out
        rw [e] at HO'
        obtain ⟨Au, cu, eu, -, -, -⟩ := HO'.form
        have hN : ([HD] ++ rules.map lineB).length = rules.length + 1 := by simp only [List.length_append, List.length_map, List.length_cons, List.length_nil]; omega
        have HN := Lib.hid hN
        rw [hN] at eu
        subst eu
        have O7 := Lib.hid (HO'.alloc (.cells #[.string ⟨#[125, 10]⟩] 9))
        have B7 := Lib.hid (bx HB.out (below_alloc1 wr (.cells #[.string ⟨#[125, 10]⟩] 9)))
        have hz7 : w2.heap.size ≤ (wr.alloc (.cells #[.string ⟨#[125, 10]⟩] 9)).heap.size := B7.out.size
        clear HO HO' hN
        go_wp2_with (at_builtin; refine wpList_append_one (E := Enc.str) _ rfl _ _ 22 rfl w2.heap.size w2.heap.size 9 16 (.string ⟨#[]⟩) x_under_ss x_info_s rfl (by decide) _ _ rfl O7.out ⟨wr.heap.size, 0, none⟩ ⟨#[125, 10]⟩ [.string ⟨#[125, 10]⟩] rfl rfl (cellx_new wr _ _) (by rw [HN.out]; omega) (by rw [HN.out]; unfold maxLen; omega) hz7 ?_; intro v8 w8 hown8 hgrow8 _)
        have hbel := below_of_grown hgrow8 hz7 (fun k hk => (O7.out.lt k hk).1)
        have B8 := Lib.hid (B7.out.trans hbel)
        obtain ⟨A8, c8, e8, -, -, -⟩ := hown8.form
        rw [List.length_append, HN.out] at e8
        replace e8 : v8 = .slice A8 (rules.length + 1 + 1) c8 := e8
        subst e8
        have hj := lib_Join [] (([HD] ++ rules.map lineB) ++ [⟨#[125, 10]⟩]) _ w8 (hown8.slOld (Nat.le_refl _)) (by rw [List.length_append, HN.out]; show rules.length + 1 + 1 ≤ _; omega) (by rw [HJ.out]; omega)
        rw [HJ.out] at hj
        clear hown8 hgrow8 hbel
        go_wp2_with fail
        refine hj.mono ?_
        rintro e w9 ⟨rfl, hb9⟩
        go_wp2_with fail
        refine (text_limited _ _ (by omega)).mono ?_
        rintro e w10 ⟨rfl, rfl⟩
        go_wp2
        go_ret2
        exact ⟨rfl, bx B2.out (bx B8.out hb9)⟩

end Go.Proofs.YtmdljknlbmlacabDoor
