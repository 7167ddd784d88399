/- table.sums, extremes and Span, as Lean functions of the data that their arguments read as. Conditions: argument slices read as lists in old memory; numbers that are added are bounded as those of good tables are. -/
import Derived.Test.YthnfkghgaagaiabTableE
namespace Go.Proofs.Ythnfkghgaagaiab
open Go.RowKit

def lowS (l : List RuleD) : Int := (l.map fun r => min r.2 0).sum
def highS (l : List RuleD) : Int := (l.map fun r => max r.2 0).sum
theorem lowS_take {l : List RuleD} {k : Nat} {cs : List CellD} {x : Int} (h : l[k]? = some (cs, x)) : lowS (l.take (k + 1)) = lowS (l.take k) + min x 0 := by
  unfold lowS; rw [map_take _ h]; simp
theorem highS_take {l : List RuleD} {k : Nat} {cs : List CellD} {x : Int} (h : l[k]? = some (cs, x)) : highS (l.take (k + 1)) = highS (l.take k) + max x 0 := by
  unfold highS; rw [map_take _ h]; simp
theorem sums_bound {l : List RuleD} (hb : ∀ r, r ∈ l → -1000000 ≤ r.2 ∧ r.2 ≤ 1000000) (k : Nat) : (-1000000 * (k : Int) ≤ lowS (l.take k) ∧ lowS (l.take k) ≤ 0) ∧ 0 ≤ highS (l.take k) ∧ highS (l.take k) ≤ 1000000 * (k : Int) := by
  induction k with
  | zero => simp [lowS, highS]
  | succ k ih =>
    by_cases hk : k < l.length
    · have hx : l[k]? = some l[k] := List.getElem?_eq_getElem hk
      have hm := hb _ (List.getElem_mem hk)
      generalize l[k] = r at hx hm
      obtain ⟨cs, x⟩ := r
      rw [lowS_take hx, highS_take hx]
      simp only at hm
      push_cast
      omega
    · rw [List.take_of_length_le (by omega)]
      rw [List.take_of_length_le (by omega)] at ih
      push_cast
      omega
def RngPost (r : Int × Int) (w : World) (e : Ending) (w' : World) : Prop := e = .returned (.agg #[.int .i64 r.1, .int .i64 r.2]) ∧ Below w.heap.size w w'

theorem heap_old {w : World} {g : Nat} (h : g < w.heap.size) (o : Obj) : (w.alloc o).heap[g]? = w.heap[g]? := (below_alloc1 w o).block g h
/-- a struct of two ints of the call's own, at the block g -/
def Two (w : World) (g : Nat) (x y : Int) : Prop := g < w.heap.size ∧ w.cell? ⟨g, 0, none⟩ = some (.int .i64 x) ∧ w.cell? ⟨g, 1, none⟩ = some (.int .i64 y) ∧ w.frozen? ⟨g, 0, none⟩ = false ∧ w.frozen? ⟨g, 1, none⟩ = false
theorem Two.new (w : World) (x y : Int) (e : Nat) : Two (w.alloc (.cells #[.int .i64 x, .int .i64 y] e)) w.heap.size x y := ⟨by simp, cell_new _ _ _ _ _ rfl, cell_new _ _ _ _ _ rfl, by simp, by simp⟩
theorem Two.alloc {w : World} {g : Nat} {x y : Int} (h : Two w g x y) (o : Obj) : Two (w.alloc o) g x y := by
  obtain ⟨h0, h1, h2, h3, h4⟩ := h
  refine ⟨by simp; omega, (World.cell?_alloc_lt _ _ _ h0).trans h1, (World.cell?_alloc_lt _ _ _ h0).trans h2, ?_, ?_⟩
  · exact (World.frozen?_of_block (heap_old h0 o)).trans h3
  · exact (World.frozen?_of_block (heap_old h0 o)).trans h4
theorem Two.next {w w' : World} {g : Nat} {x y : Int} (h : Two w g x y) (hb : Below w.heap.size w w') : Two w' g x y := by
  obtain ⟨h0, h1, h2, h3, h4⟩ := h
  exact ⟨Nat.lt_of_lt_of_le h0 hb.size, (hb.cell (p := ⟨g, 0, none⟩) h0).trans h1, (hb.cell (p := ⟨g, 1, none⟩) h0).trans h2, (World.frozen?_of_block (hb.block g h0)).trans h3, (World.frozen?_of_block (hb.block g h0)).trans h4⟩
theorem Two.set0 {w : World} {g : Nat} {x y : Int} (h : Two w g x y) (z : Int) : Two (w.setCell ⟨g, 0, none⟩ (.int .i64 z)) g z y := by
  obtain ⟨h0, h1, h2, h3, h4⟩ := h
  exact ⟨by simpa [World.setCell] using h0, World.cell?_setCell_same w _ _ h1, (World.cell?_setCell_other w _ _ _ (by simp)).trans h2, by simpa using h3, by simpa using h4⟩
theorem Two.set1 {w : World} {g : Nat} {x y : Int} (h : Two w g x y) (z : Int) : Two (w.setCell ⟨g, 1, none⟩ (.int .i64 z)) g x z := by
  obtain ⟨h0, h1, h2, h3, h4⟩ := h
  exact ⟨by simpa [World.setCell] using h0, (World.cell?_setCell_other w _ _ _ (by simp)).trans h1, World.cell?_setCell_same w _ _ h2, by simpa using h3, by simpa using h4⟩
theorem Two.other {w : World} {g g' o : Nat} {x y : Int} (h : Two w g x y) (hne : g' ≠ g) (v : Value) : Two (w.setCell ⟨g', o, none⟩ v) g x y := by
  obtain ⟨h0, h1, h2, h3, h4⟩ := h
  exact ⟨by simpa [World.setCell] using h0, (World.cell?_setCell_other w _ _ _ (by simp)).trans h1, (World.cell?_setCell_other w _ _ _ (by simp)).trans h2, by simpa using h3, by simpa using h4⟩

/-- such a struct is handed back -/
theorem ret_two {fn : Func} {p : Tmp} {tmps : Array Value} {W : World} {g : Nat} {x y : Int} (h : fn.results = #[.cell p 75]) (hp : tmps.getD p undef = .pointer (some ⟨g, 0, none⟩)) (ht : Two W g x y) :
    (results fn tmps).run Try.prog W = .ok (.agg #[.int .i64 x, .int .i64 y]) W := by
  obtain ⟨_, q0, q1, _, _⟩ := ht
  have hp' : tmps[p]?.getD undef = .pointer (some ⟨g, 0, none⟩) := by simpa using hp
  simp [results, h, hp', go_sem, q0, q1]

set_option maxHeartbeats 1000000 in
theorem table_sums (l : List RuleD) (v : Value) (w : World) (h : Sl Enc.rule w (Old w) l v) (hb : ∀ r, r ∈ l → -1000000 ≤ r.2 ∧ r.2 ≤ 1000000) (hl : l.length ≤ 6) :
    Calls Try.prog 82 #[v] w (RngPost (lowS l, highS l) w) := by
  have H := Lib.hid h
  have HB := Lib.hid hb
  clear hb
  obtain ⟨A, c, rfl, hc1, hc2, -⟩ := h
  unfold maxLen at hc2
  go_enter Try.func82, Try.ntmps82
  go_wp2
  go_loopw [8] (fun i wr => ∃ k : Nat, k ≤ l.length ∧ i = .int .i64 k ∧ Two wr (w.heap.size + 1) (lowS (l.take k)) (highS (l.take k)) ∧ Two wr w.heap.size 0 0 ∧ Below w.heap.size w wr) (fun i _ => l.length - (intOf i).toNat)
  case atStart =>
    have e := Two.new (w.alloc (.cells #[.int .i64 0, .int .i64 0] 75)) 0 0 75
    exact ⟨0, Nat.zero_le _, rfl, by simpa [lowS, highS] using e, (Two.new w 0 0 _).alloc _, ((Below.refl _ _).alloc (Nat.le_refl _) _).alloc (by simp) _⟩
  case round =>
    obtain ⟨k, hk, rfl, ht1, ht2, hbl⟩ := hrel
    have HT1' := Lib.hid ht1
    have HT2' := Lib.hid ht2
    obtain ⟨hgl, r0, r1, f0, f1⟩ := ht1
    obtain ⟨_, s0, s1, g0, g1⟩ := ht2
    by_cases hlt : k < l.length
    · obtain ⟨b, o, cs, x, vc, rfl, hS, hx, c1, c2, hr⟩ := (H.out.below (fun _ h => h) hbl).rule_at hlt
      have hb0 : b < w.heap.size := hS
      obtain ⟨Ar, cr, rfl, hr1, hr2⟩ := hr.form
      obtain ⟨⟨q1, q2⟩, q3, q4⟩ := sums_bound HB.out k
      have q5 := HB.out _ (List.mem_of_getElem? hx.out)
      have HT1 := Lib.hid (lowS_take hx.out)
      have HT2 := Lib.hid (highS_take hx.out)
      generalize lowS (l.take k) = T1 at *
      generalize highS (l.take k) = T2 at *
      simp only at q5
      clear hr
      have w1 : IntKind.i64.wrap (T1 + min x 0) = T1 + min x 0 := IntWalk.i64_in _ (by omega)
      have w2 : IntKind.i64.wrap (T2 + max x 0) = T2 + max x 0 := IntWalk.i64_in _ (by omega)
      go_wp2
      clear w1 w2
      refine ⟨⟨k + 1, by omega, by go_num, ?_, ?_, ?_⟩, by simp [intOf]; omega⟩
      · rw [HT1.out, HT2.out, show min x 0 = (if 0 < x then 0 else x) from by split <;> omega, show max x 0 = (if x < 0 then 0 else x) from by split <;> omega]
        exact ((HT1'.out.set0 _).set1 _).alloc _
      · exact ((HT2'.out.other (by omega) _).other (by omega) _).alloc _
      · exact ((hbl.setCell (by simp) _).setCell (by simp) _).alloc (by simpa [World.setCell] using hbl.size) _
    · have e : l.take k = l := List.take_of_length_le (by omega)
      rw [e] at r0 r1
      go_wp2
      (try simp only [Exit.inBlock, Exit.then])
      exact bodyPost_ret (ret_two Try.results82 rfl ((HT2'.out.set0 _).set1 _)) rfl ⟨rfl, (hbl.setCell (by simp) _).setCell (by simp) _⟩

set_option maxHeartbeats 1000000 in
theorem table_extremes (l : List RuleD) (v : Value) (w : World) (h : Sl Enc.rule w (Old w) l v) (h0 : 0 < l.length) :
    Calls Try.prog 83 #[v] w (RngPost (minL (l.map (·.2)), maxL (l.map (·.2))) w) := by
  have H := Lib.hid h
  obtain ⟨A, c, rfl, hc1, hc2, -⟩ := h
  unfold maxLen at hc2
  obtain ⟨b0, o0, cs0, x0, v0, e0, hS0, hx0, c10, c20, hr0⟩ := H.out.rule_at (k := 0) h0
  subst e0
  have c2' : w.cell? ⟨b0, o0 + 1, none⟩ = some (.int .i64 x0) := by simpa using c20
  have HX0 := Lib.hid hx0.out
  clear c10 c20 hr0 hx0
  have hb0 : b0 < w.heap.size := hS0
  have HE1 : Hid ((l.map (·.2)).foldl min x0 = minL (l.map (·.2))) := by
    have := HX0.out
    cases l with
    | nil => simp at this
    | cons z l => simp at this; subst this; simp [minL, Hid]
  have HE2 : Hid ((l.map (·.2)).foldl max x0 = maxL (l.map (·.2))) := by
    have := HX0.out
    cases l with
    | nil => simp at this
    | cons z l => simp at this; subst this; simp [maxL, Hid]
  generalize minL (l.map (·.2)) = R1 at *
  generalize maxL (l.map (·.2)) = R2 at *
  generalize hN : l.length = N at *
  have HN := Lib.hid hN
  clear hN
  have hl0 : (0 : Int) < N := by omega
  have hn1 : ¬ N = 0 := by omega
  have k0 := ((below_alloc1 w (.cells #[.int .i64 0, .int .i64 0] 75)).cell (p := ⟨b0, o0 + 1, none⟩) hb0).trans c2'
  go_enter Try.func83, Try.ntmps83
  go_wp2_with fail
  go_region
  go_wp2
  go_loopw [17] (fun i wr => ∃ k : Nat, k ≤ N ∧ i = .int .i64 k ∧ Two wr (w.heap.size + 1) (((l.take k).map (·.2)).foldl min x0) (((l.take k).map (·.2)).foldl max x0) ∧ Two wr w.heap.size 0 0 ∧ Below w.heap.size w wr) (fun i _ => N - (intOf i).toNat)
  case atStart =>
    have e := Two.new (w.alloc (.cells #[.int .i64 0, .int .i64 0] 75)) x0 x0 75
    rw [show (w.alloc (.cells #[.int .i64 0, .int .i64 0] 75)).heap.size = w.heap.size + 1 from by simp] at e
    exact ⟨0, Nat.zero_le _, rfl, e, (Two.new w 0 0 _).alloc _, (((Below.refl _ _).alloc (Nat.le_refl _) _).alloc (by simp) _).drew⟩
  case round =>
    clear k0
    obtain ⟨k, hk, rfl, ht1, ht2, hbl⟩ := hrel
    have HT1' := Lib.hid ht1
    have HT2' := Lib.hid ht2
    obtain ⟨hgl, r0, r1, f0, f1⟩ := ht1
    obtain ⟨_, s0, s1, g0, g1⟩ := ht2
    by_cases hlt : k < N
    · obtain ⟨b, o, cs, x, vc, eb, hS, hx, c1, c2, hr⟩ := (H.out.below (fun _ h => h) hbl).rule_at (show k < l.length by rw [HN.out]; exact hlt)
      obtain ⟨rfl, rfl⟩ := some_addr eb
      obtain ⟨Ar, cr, rfl, hr1, hr2⟩ := hr.form
      have HT1 : Hid (((l.take (k + 1)).map (·.2)).foldl min x0 = min (((l.take k).map (·.2)).foldl min x0) x) := by show _ = _; rw [map_take _ hx.out, List.foldl_append]; rfl
      have HT2 : Hid (((l.take (k + 1)).map (·.2)).foldl max x0 = max (((l.take k).map (·.2)).foldl max x0) x) := by show _ = _; rw [map_take _ hx.out, List.foldl_append]; rfl
      generalize ((l.take k).map (·.2)).foldl min x0 = T1 at *
      generalize ((l.take k).map (·.2)).foldl max x0 = T2 at *
      clear hr eb
      go_wp2
      refine ⟨⟨k + 1, by omega, by go_num, ?_, ?_, ?_⟩, by simp [intOf]; omega⟩
      · rw [HT1.out, HT2.out, show min T1 x = (if x < T1 then x else T1) from by split <;> omega, show max T2 x = (if T2 < x then x else T2) from by split <;> omega]
        exact ((HT1'.out.set0 _).set1 _).alloc _
      · exact ((HT2'.out.other (by omega) _).other (by omega) _).alloc _
      · exact ((hbl.setCell (by simp) _).setCell (by simp) _).alloc (by simpa [World.setCell] using hbl.size) _
    · have e : l.take k = l := List.take_of_length_le (by rw [HN.out]; omega)
      rw [e, HE1.out] at r0
      rw [e, HE2.out] at r1
      go_wp2
      (try simp only [Exit.inBlock, Exit.then])
      exact bodyPost_ret (ret_two Try.results83 rfl ((HT2'.out.set0 _).set1 _)) rfl ⟨rfl, (hbl.setCell (by simp) _).setCell (by simp) _⟩

set_option maxHeartbeats 1000000 in
theorem table_Span (t : TabD) (v : Value) (w : World) (h : TabAt w (Old w) t v) (hs : smallT t) :
    Calls Try.prog 71 #[v] w (RngPost (spanV t) w) := by
  have HS := Lib.hid hs
  have HT := Lib.hid h
  have HRS := Lib.hid (fun hg : goodT t = true => goodRs_iff.1 (goodT_iff.1 hg).2.2.2.2)
  have HVE : Hid (spanV t = if goodT t then (if t.pol = 7 then (0, (t.rules.length : Int)) else if t.pol = 6 then (lowS t.rules, highS t.rules) else (minL (t.rules.map (·.2)), maxL (t.rules.map (·.2)))) else (0, 0)) := rfl
  obtain ⟨nm, pol, comp, ins, rules⟩ := t
  obtain ⟨vi, vr, rfl, hi, hr⟩ := h
  simp only at hi hr HRS HVE
  clear hs
  have H := Lib.hid hr
  obtain ⟨Ai, ci, rfl, hi1, hi2, -⟩ := hi
  obtain ⟨A, c, rfl, hc1, hc2, -⟩ := hr
  unfold maxLen at hi2 hc2
  generalize spanV ⟨nm, pol, comp, ins, rules⟩ = R at *
  have hb0 := below_alloc1 w (.cells #[.string nm, .int .i64 pol, .bool comp, .slice Ai ins.length ci, .slice A rules.length c] 25)
  generalize hw0 : w.alloc (.cells #[.string nm, .int .i64 pol, .bool comp, .slice Ai ins.length ci, .slice A rules.length c] 25) = w0 at *
  have hg0 : w.heap.size < w0.heap.size := by rw [← hw0]; simp
  have hs0 : w0.heap.size = w.heap.size + 1 := by rw [← hw0]; simp
  have k0 : w0.cell? ⟨w.heap.size, 0, none⟩ = some (.string nm) := by rw [← hw0]; exact cell_new _ _ _ _ _ rfl
  have k1 : w0.cell? ⟨w.heap.size, 1, none⟩ = some (.int .i64 pol) := by rw [← hw0]; exact cell_new _ _ _ _ _ rfl
  have k2 : w0.cell? ⟨w.heap.size, 2, none⟩ = some (.bool comp) := by rw [← hw0]; exact cell_new _ _ _ _ _ rfl
  have k3 : w0.cell? ⟨w.heap.size, 3, none⟩ = some (.slice Ai ins.length ci) := by rw [← hw0]; exact cell_new _ _ _ _ _ rfl
  have k4 : w0.cell? ⟨w.heap.size, 4, none⟩ = some (.slice A rules.length c) := by rw [← hw0]; exact cell_new _ _ _ _ _ rfl
  have hb0' := below_alloc1 w0 (.cells #[.int .i64 0, .int .i64 0] 75)
  have TW := Two.new w0 0 0 75
  rw [hs0] at TW
  generalize hw1 : w0.alloc (.cells #[.int .i64 0, .int .i64 0] 75) = w1 at *
  have k0 := (hb0'.cell (p := ⟨w.heap.size, 0, none⟩) hg0).trans k0
  have k1 := (hb0'.cell (p := ⟨w.heap.size, 1, none⟩) hg0).trans k1
  have k2 := (hb0'.cell (p := ⟨w.heap.size, 2, none⟩) hg0).trans k2
  have k3 := (hb0'.cell (p := ⟨w.heap.size, 3, none⟩) hg0).trans k3
  have k4 := (hb0'.cell (p := ⟨w.heap.size, 4, none⟩) hg0).trans k4
  have hb01 := bx hb0 hb0'
  have hg1 := Nat.lt_of_lt_of_le hg0 hb0'.size
  have HT0 := Lib.hid (HT.out.onOld hb01)
  have HTW := Lib.hid TW
  clear TW
  go_enter Try.func71, Try.ntmps71
  go_wp2_with fail
  refine (table_Good _ _ _ HT0.out HS.out).mono ?_
  rintro e w2 ⟨rfl, hb2⟩
  have j1 := (hb2.cell (p := ⟨w.heap.size, 1, none⟩) hg1).trans k1
  have j4 := (hb2.cell (p := ⟨w.heap.size, 4, none⟩) hg1).trans k4
  have hg2 := Nat.lt_of_lt_of_le hg1 hb2.size
  have hb02 := bx hb01 hb2
  have hsz2 := hb02.size
  have TW2 := HTW.out.next hb2
  have HTW2 := Lib.hid TW2
  obtain ⟨hgl, r0, r1, f0, f1⟩ := TW2
  have H2 := Lib.hid (H.out.onOld hb02)
  clear hw0 hw1 hb2 hs0
  cases hg : goodT ⟨nm, pol, comp, ins, rules⟩
  · have HV : Hid (R = (0, 0)) := by show _ = _; rw [HVE.out, hg]; rfl
    clear hg
    go_wp2
    (try simp only [Exit.inBlock, Exit.then])
    exact bodyPost_ret (ret_two Try.results71 rfl ((HTW2.out.set0 _).set1 _)) rfl ⟨by rw [HV.out], (hb02.setCell (by simp) _).setCell (by simp) _⟩
  · obtain ⟨hr1, hr6, hrb⟩ := HRS.out hg
    have HRB : Hid (∀ r : RuleD, r ∈ rules → -1000000 ≤ r.2 ∧ r.2 ≤ 1000000) := fun r hr => ⟨(goodR_iff.1 (hrb r hr)).1, (goodR_iff.1 (hrb r hr)).2.1⟩
    have HV := Lib.hid (HVE.out)
    rw [hg] at HV
    clear hg hrb HVE HRS
    by_cases h7 : pol = 7
    · subst h7
      have HV' : Hid (R = (0, (rules.length : Int))) := HV.out
      go_wp2
      (try simp only [Exit.inBlock, Exit.then])
      exact bodyPost_ret (ret_two Try.results71 rfl ((HTW2.out.set0 _).set1 _)) rfl ⟨by rw [HV'.out], (hb02.setCell (by simp) _).setCell (by simp) _⟩
    · have h7' : (pol == 7) = false := beq_eq_false_iff_ne.2 h7
      by_cases h6 : pol = 6
      · subst h6
        have HV' : Hid (R = (lowS rules, highS rules)) := HV.out
        go_wp2_with fail
        refine (table_sums rules _ _ H2.out HRB.out hr6).mono ?_
        rintro e w3 ⟨rfl, hb3⟩
        have HTW3 := Lib.hid (HTW2.out.next hb3)
        obtain ⟨_, r0', r1', f0', f1'⟩ := HTW2.out.next hb3
        have hb03 := bx hb02 hb3
        clear r0 r1 f0 f1
        go_wp2
        (try simp only [Exit.inBlock, Exit.then])
        exact bodyPost_ret (ret_two Try.results71 rfl ((HTW3.out.set0 _).set1 _)) rfl ⟨by rw [HV'.out], (hb03.setCell (by simp) _).setCell (by simp) _⟩
      · have h6' : (pol == 6) = false := beq_eq_false_iff_ne.2 h6
        have HV' : Hid (R = (minL (rules.map (·.2)), maxL (rules.map (·.2)))) := by show _ = _; rw [HV.out, if_pos rfl, if_neg h7, if_neg h6]
        go_wp2_with fail
        refine (table_extremes rules _ _ H2.out hr1).mono ?_
        rintro e w3 ⟨rfl, hb3⟩
        have HTW3 := Lib.hid (HTW2.out.next hb3)
        obtain ⟨_, r0', r1', f0', f1'⟩ := HTW2.out.next hb3
        have hb03 := bx hb02 hb3
        clear r0 r1 f0 f1
        go_wp2
        (try simp only [Exit.inBlock, Exit.then])
        exact bodyPost_ret (ret_two Try.results71 rfl ((HTW3.out.set0 _).set1 _)) rfl ⟨by rw [HV'.out], (hb03.setCell (by simp) _).setCell (by simp) _⟩

end Go.Proofs.Ythnfkghgaagaiab
