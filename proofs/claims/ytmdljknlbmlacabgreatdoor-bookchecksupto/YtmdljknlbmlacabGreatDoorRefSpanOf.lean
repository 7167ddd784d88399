/- ratebookref.SpanOf, as a Lean function of the data that its argument reads as. Condition: the table is good. -/
import Derived.Test.YtmdljknlbmlacabGreatDoorRefTells
namespace Go.Proofs.YtmdljknlbmlacabGreatDoor
open Go.RowKit

theorem foldl_min_top {l : List Int} {m : Int} (h : ∀ x, x ∈ l → x ≤ m) (h0 : 0 < l.length) : l.foldl min m = minL l := by
  obtain ⟨⟨h1, h2⟩, h3⟩ := foldl_min l m
  obtain ⟨p, q⟩ := minL_spec h0
  have h4 := h2 _ p
  rcases h3 with h3 | h3
  · have := h _ p; omega
  · have := q _ h3; omega
theorem foldl_max_bot {l : List Int} {m : Int} (h : ∀ x, x ∈ l → m ≤ x) (h0 : 0 < l.length) : l.foldl max m = maxL l := by
  obtain ⟨⟨h1, h2⟩, h3⟩ := foldl_max l m
  obtain ⟨p, q⟩ := maxL_spec h0
  have h4 := h2 _ p
  rcases h3 with h3 | h3
  · have := h _ p; omega
  · have := q _ h3; omega

set_option maxHeartbeats 2000000 in
theorem ref_SpanOf (t : TabD) (v : Value) (w : World) (h : TabAt w (Old w) t v) (hg : goodT t = true) :
    Calls Tryz.prog 60 #[v] w (RngPost (spanV t) w) := by
  have hrs := goodRs_iff.1 (goodT_iff.1 hg).2.2.2.2
  have HVE : Hid (spanV t = if t.pol = 7 then (0, (t.rules.length : Int)) else if t.pol = 6 then (lowS t.rules, highS t.rules) else (minL (t.rules.map (·.2)), maxL (t.rules.map (·.2)))) := by show _ = _; unfold spanV; rw [if_pos hg]; rfl
  clear hg
  obtain ⟨nm, pol, comp, ins, rules⟩ := t
  obtain ⟨vi, vr, rfl, hi, hr⟩ := h
  simp only at hi hr hrs HVE
  obtain ⟨hr1, hr6, hrb⟩ := hrs
  have HRB : Hid (∀ r : RuleD, r ∈ rules → -1000000 ≤ r.2 ∧ r.2 ≤ 1000000) := fun r hr => ⟨(goodR_iff.1 (hrb r hr)).1, (goodR_iff.1 (hrb r hr)).2.1⟩
  have HMN : Hid ((rules.map (·.2)).foldl min 1000000 = minL (rules.map (·.2))) := foldl_min_top (fun x hx => by obtain ⟨r, hr, rfl⟩ := List.mem_map.1 hx; exact (HRB.out r hr).2) (by rw [List.length_map]; exact hr1)
  have HMX : Hid ((rules.map (·.2)).foldl max (-1000000) = maxL (rules.map (·.2))) := foldl_max_bot (fun x hx => by obtain ⟨r, hr, rfl⟩ := List.mem_map.1 hx; exact (HRB.out r hr).1) (by rw [List.length_map]; exact hr1)
  clear hrb
  have H := Lib.hid hr
  obtain ⟨Ai, ci, rfl, hi1, hi2, -⟩ := hi
  obtain ⟨A, c, rfl, hc1, hc2, -⟩ := hr
  unfold maxLen at hi2 hc2
  generalize spanV ⟨nm, pol, comp, ins, rules⟩ = R at *
  have hb0 := below_alloc1 w (.cells #[.string nm, .int .i64 pol, .bool comp, .slice Ai ins.length ci, .slice A rules.length c] 59)
  generalize hw0 : w.alloc (.cells #[.string nm, .int .i64 pol, .bool comp, .slice Ai ins.length ci, .slice A rules.length c] 59) = w0 at *
  have hg0 : w.heap.size < w0.heap.size := by rw [← hw0]; simp
  have hs0 : w0.heap.size = w.heap.size + 1 := by rw [← hw0]; simp
  have k1 : w0.cell? ⟨w.heap.size, 1, none⟩ = some (.int .i64 pol) := by rw [← hw0]; exact cell_new _ _ _ _ _ rfl
  have k4 : w0.cell? ⟨w.heap.size, 4, none⟩ = some (.slice A rules.length c) := by rw [← hw0]; exact cell_new _ _ _ _ _ rfl
  have hb0' := below_alloc1 w0 (.cells #[.int .i64 0, .int .i64 0] 107)
  have TW := Two.new w0 0 0 107
  rw [hs0] at TW
  generalize hw1 : w0.alloc (.cells #[.int .i64 0, .int .i64 0] 107) = w1 at *
  have k1 := (hb0'.cell (p := ⟨w.heap.size, 1, none⟩) hg0).trans k1
  have k4 := (hb0'.cell (p := ⟨w.heap.size, 4, none⟩) hg0).trans k4
  have hb01 := bx hb0 hb0'
  have hg1 := Nat.lt_of_lt_of_le hg0 hb0'.size
  have HTW := Lib.hid TW
  have H1 := Lib.hid (H.out.onOld hb01)
  clear TW
  go_enter Tryz.func60, Tryz.ntmps60
  go_wp2
  clear hw0 hw1 hs0
  go_loopw [3, 4, 5, 6, 12] (fun lo hi be ab i wr => ∃ k : Nat, k ≤ rules.length ∧ i = .int .i64 k ∧ lo = .int .i64 (((rules.take k).map (·.2)).foldl min 1000000) ∧ hi = .int .i64 (((rules.take k).map (·.2)).foldl max (-1000000)) ∧ be = .int .i64 (lowS (rules.take k)) ∧ ab = .int .i64 (highS (rules.take k)) ∧ Below w1.heap.size w1 wr) (fun _ _ _ _ i _ => rules.length - (intOf i).toNat)
  case atStart => exact ⟨0, Nat.zero_le _, rfl, rfl, rfl, rfl, rfl, Below.refl _ _⟩
  case round =>
    obtain ⟨k, hk, rfl, rfl, rfl, rfl, rfl, hbl⟩ := hrel
    have hsz := hbl.size
    by_cases hlt : k < rules.length
    · obtain ⟨b, o, cs, x, vc, rfl, _, hx, c1, c2, hr⟩ := (H1.out.onOld hbl).rule_at hlt
      obtain ⟨Ar, cr, rfl, hr1, hr2⟩ := hr.form
      obtain ⟨⟨q1, q2⟩, q3, q4⟩ := sums_bound HRB.out k
      have q5 := HRB.out _ (List.mem_of_getElem? hx.out)
      have HT1 := Lib.hid (lowS_take hx.out)
      have HT2 := Lib.hid (highS_take hx.out)
      have HT3 : Hid (((rules.take (k + 1)).map (·.2)).foldl min 1000000 = min (((rules.take k).map (·.2)).foldl min 1000000) x) := by show _ = _; rw [map_take _ hx.out, List.foldl_append]; rfl
      have HT4 : Hid (((rules.take (k + 1)).map (·.2)).foldl max (-1000000) = max (((rules.take k).map (·.2)).foldl max (-1000000)) x) := by show _ = _; rw [map_take _ hx.out, List.foldl_append]; rfl
      generalize lowS (rules.take k) = T1 at *
      generalize highS (rules.take k) = T2 at *
      generalize ((rules.take k).map (·.2)).foldl min 1000000 = T3 at *
      generalize ((rules.take k).map (·.2)).foldl max (-1000000) = T4 at *
      simp only at q5
      have e0 : (wr.alloc (.cells #[.slice Ar cs.length cr, .int .i64 x] 82)).cell? ⟨wr.heap.size, 1, none⟩ = some (.int .i64 x) := cell_new _ _ _ _ _ rfl
      have hbz := hbl.alloc hsz (.cells #[.slice Ar cs.length cr, .int .i64 x] 82)
      clear hr
      go_wp2_with fail
      generalize wr.alloc (.cells #[.slice Ar cs.length cr, .int .i64 x] 82) = wz at *
      clear c1 c2
      go_region
      have w1' : IntKind.i64.wrap (T1 + if 0 < x then 0 else x) = T1 + if 0 < x then 0 else x := IntWalk.i64_in _ (by split <;> omega)
      have w2' : IntKind.i64.wrap (T2 + if x < 0 then 0 else x) = T2 + if x < 0 then 0 else x := IntWalk.i64_in _ (by split <;> omega)
      have e1 : wz.drew.cell? ⟨wr.heap.size, 1, none⟩ = some (.int .i64 x) := e0
      go_wp2_with fail
      go_region
      clear w1' w2'
      go_wp2
      refine ⟨⟨k + 1, by omega, by go_num, ?_, ?_, ?_, ?_, hbz.drew.drew⟩, by simp [intOf]; omega⟩
      · rw [HT3.out]
      · rw [HT4.out]
      · rw [HT1.out]
      · rw [HT2.out]
    · have e : rules.take k = rules := List.take_of_length_le (by omega)
      rw [e, HMN.out, HMX.out]
      have j1 := (hbl.cell (p := ⟨w.heap.size, 1, none⟩) hg1).trans k1
      have j4 := (hbl.cell (p := ⟨w.heap.size, 4, none⟩) hg1).trans k4
      have HTW2 := Lib.hid (HTW.out.next hbl)
      obtain ⟨hgl, r0, r1, f0, f1⟩ := HTW.out.next hbl
      have hb0l := bx hb01 hbl
      by_cases h6 : pol = 6
      · subst h6
        have HV : Hid (R = (lowS rules, highS rules)) := HVE.out
        go_wp2
        (try simp only [Exit.inBlock, Exit.then])
        exact bodyPost_ret (ret_two Tryz.results60 rfl ((HTW2.out.set0 _).set1 _)) rfl ⟨by rw [HV.out], (hb0l.setCell (by simp) _).setCell (by simp) _⟩
      · have h6' : (pol == 6) = false := beq_eq_false_iff_ne.2 h6
        by_cases h7 : pol = 7
        · subst h7
          have HV : Hid (R = (0, (rules.length : Int))) := HVE.out
          go_wp2
          (try simp only [Exit.inBlock, Exit.then])
          exact bodyPost_ret (ret_two Tryz.results60 rfl ((HTW2.out.set0 _).set1 _)) rfl ⟨by rw [HV.out], (hb0l.setCell (by simp) _).setCell (by simp) _⟩
        · have h7' : (pol == 7) = false := beq_eq_false_iff_ne.2 h7
          have HV : Hid (R = (minL (rules.map (·.2)), maxL (rules.map (·.2)))) := by show _ = _; rw [HVE.out, if_neg h7, if_neg h6]
          go_wp2
          (try simp only [Exit.inBlock, Exit.then])
          exact bodyPost_ret (ret_two Tryz.results60 rfl ((HTW2.out.set0 _).set1 _)) rfl ⟨by rw [HV.out], (hb0l.setCell (by simp) _).setCell (by simp) _⟩

end Go.Proofs.YtmdljknlbmlacabGreatDoor
