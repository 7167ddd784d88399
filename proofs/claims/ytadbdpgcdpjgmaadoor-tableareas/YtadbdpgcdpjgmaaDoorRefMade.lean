/- ratebookref.made, over a function that reads. Conditions: the edges increase; the function returns f of its argument and keeps what was there. -/
import Derived.Test.YtadbdpgcdpjgmaaDoorRefEdges
import Derived.Test.YtadbdpgcdpjgmaaDoorSetsMade
namespace Go.Proofs.YtadbdpgcdpjgmaaDoor
open Go.RowKit

/-- a slice of numbers -/
theorem Sl.int_at {w : World} {S : Nat → Prop} {l : List Int} {A : Option Addr} {n c : Nat} (h : Sl Enc.int w S l (.slice A n c)) {k : Nat} (hk : k < l.length) :
    ∃ b o x, A = some ⟨b, o, none⟩ ∧ S b ∧ Hid (l[k]? = some x) ∧ w.cell? ⟨b, o + k, none⟩ = some (.int .i64 x) := by
  obtain ⟨A, c, e, h2, h3, _, h4⟩ := h
  injection e with e1 e2 e3
  subst e1 e2 e3
  obtain ⟨b, o, rfl, h6, h7⟩ := h4 (by omega)
  obtain ⟨cs, h8, h9⟩ := h7 k l[k] (List.getElem?_eq_getElem hk)
  have h8' : cs = [.int .i64 l[k]] := h8
  subst h8'
  refine ⟨b, o, l[k], rfl, h6, List.getElem?_eq_getElem hk, ?_⟩
  have := h9 0 _ rfl
  have es : Enc.int.size = 1 := rfl
  rw [es, Nat.mul_one, Nat.add_zero] at this
  exact this
theorem OwnI.sl {w : World} {base e : Nat} {v : Value} {l : List Int} (h : OwnI w base e v l) : Sl Enc.int w (fun k => base ≤ k ∧ k < w.heap.size) l v := by
  rcases h.form with ⟨rfl, rfl⟩ | ⟨g, c, rfl, h2, h3, h4, h5⟩
  · exact Sl.nil
  · refine ⟨_, c, rfl, h4, h5, (fun h => by cases h), fun _ => ⟨g, 0, rfl, ⟨h2, h3⟩, fun i x hx => ⟨_, rfl, fun j u hu => ?_⟩⟩⟩
    have es : Enc.int.size = 1 := rfl
    rw [es, Nat.zero_add, Nat.mul_one]
    match j with
    | 0 => simp at hu; subst hu; exact h.at_ hx
    | j + 1 => simp at hu
theorem OwnI.slOld {w : World} {base e : Nat} {v : Value} {l : List Int} (h : OwnI w base e v l) : Sl Enc.int w (Old w) l v := h.sl.more fun _ hk => hk.2

set_option maxHeartbeats 1000000 in
theorem ref_made (l : List Int) (v : Value) (fid : Nat) (cb : Array Value) (f : Int → Bool) (w : World) (h : Sl Enc.int w (Old w) l v) (hinc : Incr l)
    (eg : ∀ args w, (callFunc fid args).run Tryd.prog w = .ok (.enter fid args) w)
    (hf : ∀ (n : Int) (W : World), Below w.heap.size w W → Calls Tryd.prog fid (#[.int .i64 n] ++ cb) W fun e w' => e = .returned (.bool (f n)) ∧ Below W.heap.size W w') :
    Calls Tryd.prog 42 #[v, .func (.func fid) #[] cb] w (AddPost w.heap.size (.slice none 0 0) (madeF f [] l) w) := by
  have H := Lib.hid h
  have HF := Lib.hid hf
  have HI := Lib.hid hinc
  have HLE := hinc.length_le
  clear hf hinc
  obtain ⟨A, c, rfl, hc1, hc2, -⟩ := h
  unfold maxLen at hc2
  go_enter Tryd.func42, Tryd.ntmps42
  go_wp2
  go_loopw [5, 12] (fun u i wr => ∃ (k : Nat) (O : List (Int × Int)), k ≤ l.length ∧ i = .int .i64 k ∧ Hid (madeF f [] l = madeF f O (l.drop k)) ∧ O.length ≤ k ∧ OwnR wr w.heap.size 43 u O ∧ Below w.heap.size w wr) (fun _ i _ => l.length - (intOf i).toNat)
  case atStart => exact ⟨0, [], Nat.zero_le _, rfl, rfl, Nat.le_refl _, OwnR.nil, Below.refl _ _⟩
  case round =>
    obtain ⟨k, O, hk, rfl, hF, hO, hown, hbl⟩ := hrel
    have hsz := hbl.size
    by_cases hlt : k < l.length
    · obtain ⟨b, o, n, rfl, hbS, hx, h1⟩ := (H.out.below (fun _ h => h) hbl).int_at hlt
      obtain ⟨n1, n2⟩ := HI.out.2 n (List.mem_of_getElem? hx.out)
      have HM := Lib.hid (madeF_at (f := f) (out := O) hx.out)
      by_cases hk1 : k + 1 < l.length
      · obtain ⟨b2, o2, m, e, _, hm, h2⟩ := (H.out.below (fun _ h => h) hbl).int_at hk1
        obtain ⟨rfl, rfl⟩ := some_addr e
        clear e
        obtain ⟨m1, m2⟩ := HI.out.2 m (List.mem_of_getElem? hm.out)
        have HE := Lib.hid (endOf_some hm.out)
        go_wp2_with fail
        refine (HF.out n _ hbl).mono ?_
        rintro e w1 ⟨rfl, hb1⟩
        have hb1' : Below w.heap.size w w1 := below_next hbl hsz hb1
        have hsz1 := hb1'.size
        have HO := Lib.hid (hown.below hb1 (Nat.le_refl _))
        clear hown hb1
        cases hfn : f n
        · have HFN := Lib.hid hfn
          clear hfn
          go_wp2
          refine ⟨⟨k + 1, O, by omega, by go_num, ?_, by omega, HO.out, hb1'⟩, by simp [intOf]; omega⟩
          show madeF f [] l = _
          rw [hF.out, HM.out, HFN.out, if_neg (by simp)]
        · have HFN := Lib.hid hfn
          clear hfn
          obtain ⟨i0, hi, hz0, hz1, hz2⟩ := info_parts infoRange
          obtain ⟨Au, cu, rfl, hu1, hu2⟩ := HO.out.form'
          unfold maxLen at hu2
          by_cases h0 : 0 < O.length
          · obtain ⟨g, rfl, hg1, hg2⟩ : ∃ g, Au = some ⟨g, 0, none⟩ ∧ w.heap.size ≤ g ∧ g < w1.heap.size := by
              rcases HO.out.form with ⟨_, e⟩ | ⟨g, c', e, e2, e3, _⟩
              · subst e; simp at h0
              · injection e with e1; exact ⟨g, e1, e2, e3⟩
            obtain ⟨g', o', p, q, e, _, hq, c1, c2⟩ := (HO.out.sl).rng_at (k := O.length - 1) (by omega)
            obtain ⟨rfl, rfl⟩ := some_addr e
            have c2' : w1.cell? ⟨g, (O.length - 1) * 2 + 1, none⟩ = some (.int .i64 q) := by simpa using c2
            clear c1 c2 e
            have w3 : 0 ≤ (O.length : Int) - 1 := by omega
            have w4 : ((O.length : Int) - 1).toNat = O.length - 1 := by omega
            have w5 : (O.length : Int) - 1 < O.length := by omega
            by_cases hqn : q = n - 1
            · have hd1 : (q == n - 1) = true := by simp [hqn]
              have HQ := Lib.hid hqn
              clear hqn
              have fz : w1.frozen? ⟨g, (O.length - 1) * 2 + 1, none⟩ = false := World.ownsRow.frozenAt HO.out _
              go_wp2
              have hs := World.ownsRow.stored HO.out ((O.length - 1) * 2 + 1) (.int .i64 (m - 1))
              rw [cellsR_set O (O.length - 1) (p, q) hq.out] at hs
              refine ⟨⟨k + 1, O.set (O.length - 1) (p, (m - 1)), by omega, by go_num, ?_, by simp; omega, ?_, ?_⟩, by simp [intOf]; omega⟩
              · show madeF f [] l = _
                rw [hF.out, HM.out, HFN.out, if_pos rfl, HE.out, madeStep_in hq.out HQ.out]
              · unfold OwnR
                rw [List.length_set]
                exact hs.1
              · exact hb1'.grown hs.2 hsz1 (fun _ hr => by injection hr with hr; omega)
            · have hd1 : (q == n - 1) = false := by simp [hqn]
              go_wp2_with (at_builtin; refine wpList_append_own _ rfl _ _ 38 rfl w.heap.size 43 i0 (.agg #[.int .i64 0, .int .i64 0]) 2 16 under_rs hi hz0 hz1 hz2 rfl (by decide) _ _ _ rfl (by exact World.ownsRow.alloc HO.out _) ⟨w1.heap.size, 0, none⟩ 1 1 [.int .i64 n, .int .i64 (m - 1)] rfl rfl (cell_two_at _ _ rfl _ _ _) (fun x hx => by simp at hx; rcases hx with rfl | rfl <;> rfl) (by unfold maxLen; omega) (by omega) (by simp; omega) ?_; intro v' w3 hown' hgrow3 hnil3)
              refine ⟨⟨k + 1, O ++ [(n, (m - 1))], by omega, by go_num, ?_, by simp; omega, ?_, ?_⟩, by simp [intOf]; omega⟩
              · show madeF f [] l = _
                rw [hF.out, HM.out, HFN.out, if_pos rfl, HE.out, madeStep_off hq.out hqn]
              · unfold OwnR
                rw [cellsR_append, List.length_append]
                exact hown'
              · exact (hb1'.alloc (by omega) _).grown hgrow3 (by simp; omega) (fun _ hr => (HO.out.lt _ hr).1)
          · have HZ := Lib.hid (show O.length = 0 from by omega)
            have hd4 : decide (0 < O.length) = false := decide_eq_false h0
            go_wp2_with (at_builtin; refine wpList_append_own _ rfl _ _ 38 rfl w.heap.size 43 i0 (.agg #[.int .i64 0, .int .i64 0]) 2 16 under_rs hi hz0 hz1 hz2 rfl (by decide) _ _ _ rfl (by exact World.ownsRow.alloc HO.out _) ⟨w1.heap.size, 0, none⟩ 1 1 [.int .i64 n, .int .i64 (m - 1)] rfl rfl (cell_two_at _ _ rfl _ _ _) (fun x hx => by simp at hx; rcases hx with rfl | rfl <;> rfl) (by unfold maxLen; omega) (by omega) (by simp; omega) ?_; intro v' w3 hown' hgrow3 hnil3)
            refine ⟨⟨k + 1, O ++ [(n, (m - 1))], by omega, by go_num, ?_, by simp; omega, ?_, ?_⟩, by simp [intOf]; omega⟩
            · show madeF f [] l = _
              rw [hF.out, HM.out, HFN.out, if_pos rfl, HE.out, madeStep_none HZ.out]
            · unfold OwnR
              rw [cellsR_append, List.length_append]
              exact hown'
            · exact (hb1'.alloc (by omega) _).grown hgrow3 (by simp; omega) (fun _ hr => (HO.out.lt _ hr).1)
      · have HE := Lib.hid (endOf_none (l := l) (k := k + 1) (by omega))
        go_wp2_with fail
        refine (HF.out n _ hbl).mono ?_
        rintro e w1 ⟨rfl, hb1⟩
        have hb1' : Below w.heap.size w w1 := below_next hbl hsz hb1
        have hsz1 := hb1'.size
        have HO := Lib.hid (hown.below hb1 (Nat.le_refl _))
        clear hown hb1
        cases hfn : f n
        · have HFN := Lib.hid hfn
          clear hfn
          go_wp2
          refine ⟨⟨k + 1, O, by omega, by go_num, ?_, by omega, HO.out, hb1'⟩, by simp [intOf]; omega⟩
          show madeF f [] l = _
          rw [hF.out, HM.out, HFN.out, if_neg (by simp)]
        · have HFN := Lib.hid hfn
          clear hfn
          obtain ⟨i0, hi, hz0, hz1, hz2⟩ := info_parts infoRange
          obtain ⟨Au, cu, rfl, hu1, hu2⟩ := HO.out.form'
          unfold maxLen at hu2
          by_cases h0 : 0 < O.length
          · obtain ⟨g, rfl, hg1, hg2⟩ : ∃ g, Au = some ⟨g, 0, none⟩ ∧ w.heap.size ≤ g ∧ g < w1.heap.size := by
              rcases HO.out.form with ⟨_, e⟩ | ⟨g, c', e, e2, e3, _⟩
              · subst e; simp at h0
              · injection e with e1; exact ⟨g, e1, e2, e3⟩
            obtain ⟨g', o', p, q, e, _, hq, c1, c2⟩ := (HO.out.sl).rng_at (k := O.length - 1) (by omega)
            obtain ⟨rfl, rfl⟩ := some_addr e
            have c2' : w1.cell? ⟨g, (O.length - 1) * 2 + 1, none⟩ = some (.int .i64 q) := by simpa using c2
            clear c1 c2 e
            have w3 : 0 ≤ (O.length : Int) - 1 := by omega
            have w4 : ((O.length : Int) - 1).toNat = O.length - 1 := by omega
            have w5 : (O.length : Int) - 1 < O.length := by omega
            by_cases hqn : q = n - 1
            · have hd1 : (q == n - 1) = true := by simp [hqn]
              have HQ := Lib.hid hqn
              clear hqn
              have fz : w1.frozen? ⟨g, (O.length - 1) * 2 + 1, none⟩ = false := World.ownsRow.frozenAt HO.out _
              go_wp2
              have hs := World.ownsRow.stored HO.out ((O.length - 1) * 2 + 1) (.int .i64 1000000)
              rw [cellsR_set O (O.length - 1) (p, q) hq.out] at hs
              refine ⟨⟨k + 1, O.set (O.length - 1) (p, 1000000), by omega, by go_num, ?_, by simp; omega, ?_, ?_⟩, by simp [intOf]; omega⟩
              · show madeF f [] l = _
                rw [hF.out, HM.out, HFN.out, if_pos rfl, HE.out, madeStep_in hq.out HQ.out]
              · unfold OwnR
                rw [List.length_set]
                exact hs.1
              · exact hb1'.grown hs.2 hsz1 (fun _ hr => by injection hr with hr; omega)
            · have hd1 : (q == n - 1) = false := by simp [hqn]
              go_wp2_with (at_builtin; refine wpList_append_own _ rfl _ _ 38 rfl w.heap.size 43 i0 (.agg #[.int .i64 0, .int .i64 0]) 2 16 under_rs hi hz0 hz1 hz2 rfl (by decide) _ _ _ rfl (by exact World.ownsRow.alloc HO.out _) ⟨w1.heap.size, 0, none⟩ 1 1 [.int .i64 n, .int .i64 1000000] rfl rfl (cell_two_at _ _ rfl _ _ _) (fun x hx => by simp at hx; rcases hx with rfl | rfl <;> rfl) (by unfold maxLen; omega) (by omega) (by simp; omega) ?_; intro v' w3 hown' hgrow3 hnil3)
              refine ⟨⟨k + 1, O ++ [(n, 1000000)], by omega, by go_num, ?_, by simp; omega, ?_, ?_⟩, by simp [intOf]; omega⟩
              · show madeF f [] l = _
                rw [hF.out, HM.out, HFN.out, if_pos rfl, HE.out, madeStep_off hq.out hqn]
              · unfold OwnR
                rw [cellsR_append, List.length_append]
                exact hown'
              · exact (hb1'.alloc (by omega) _).grown hgrow3 (by simp; omega) (fun _ hr => (HO.out.lt _ hr).1)
          · have HZ := Lib.hid (show O.length = 0 from by omega)
            have hd4 : decide (0 < O.length) = false := decide_eq_false h0
            go_wp2_with (at_builtin; refine wpList_append_own _ rfl _ _ 38 rfl w.heap.size 43 i0 (.agg #[.int .i64 0, .int .i64 0]) 2 16 under_rs hi hz0 hz1 hz2 rfl (by decide) _ _ _ rfl (by exact World.ownsRow.alloc HO.out _) ⟨w1.heap.size, 0, none⟩ 1 1 [.int .i64 n, .int .i64 1000000] rfl rfl (cell_two_at _ _ rfl _ _ _) (fun x hx => by simp at hx; rcases hx with rfl | rfl <;> rfl) (by unfold maxLen; omega) (by omega) (by simp; omega) ?_; intro v' w3 hown' hgrow3 hnil3)
            refine ⟨⟨k + 1, O ++ [(n, 1000000)], by omega, by go_num, ?_, by simp; omega, ?_, ?_⟩, by simp [intOf]; omega⟩
            · show madeF f [] l = _
              rw [hF.out, HM.out, HFN.out, if_pos rfl, HE.out, madeStep_none HZ.out]
            · unfold OwnR
              rw [cellsR_append, List.length_append]
              exact hown'
            · exact (hb1'.alloc (by omega) _).grown hgrow3 (by simp; omega) (fun _ hr => (HO.out.lt _ hr).1)
    · go_wp2
      go_ret
      refine AddPost.mk ?_ hbl
      rw [hF.out, List.drop_of_length_le (by omega)]
      exact hown

end Go.Proofs.YtadbdpgcdpjgmaaDoor
