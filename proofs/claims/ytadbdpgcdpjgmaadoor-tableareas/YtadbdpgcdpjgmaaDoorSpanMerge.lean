/- span.merge: the merged ranges, in a new row. Conditions: all upper ends are within the bounds, and the argument takes at most 2^47 bytes. -/
import Derived.Test.YtadbdpgcdpjgmaaDoorSpanAdd
import Derived.Test.YtadbdpgcdpjgmaaDoorSetsMerge
namespace Go.Proofs.YtadbdpgcdpjgmaaDoor
open Go.RowKit

theorem OwnR.form' {w : World} {base e : Nat} {v : Value} {l : List (Int × Int)} (h : OwnR w base e v l) : ∃ A c, v = .slice A l.length c ∧ l.length ≤ c ∧ c ≤ maxLen := by
  rcases h.form with ⟨rfl, rfl⟩ | ⟨g, c, rfl, _, _, h4, h5⟩
  · exact ⟨none, 0, rfl, Nat.le_refl _, by unfold maxLen; omega⟩
  · exact ⟨_, c, rfl, h4, h5⟩

theorem cell_two_at (w : World) (g : Nat) (hg : g = w.heap.size) (a b : Value) (t : TypeId) : ∀ j u, [a, b][j]? = some u → (w.alloc (.cells #[a, b] t)).cell? ((⟨g, 0, none⟩ : Addr).add j) = some u := by
  subst hg; exact cell_two_new _ _ _ _

set_option maxHeartbeats 400000 in
theorem span_merge (l : List (Int × Int)) (v : Value) (w : World) (h : Sl Enc.rng w (Old w) l v) (hl : l.length * 16 ≤ 140737488355328) (hin : hiIn l) :
    Calls Tryd.prog 80 #[v] w (AddPost w.heap.size (.slice none 0 0) (mergeL l) w) := by
  have H := Lib.hid h
  have HI := Lib.hid hin
  clear hin
  obtain ⟨A, c, rfl, hc1, hc2, -⟩ := h
  unfold maxLen at hc2
  go_enter Tryd.func80, Tryd.ntmps80
  go_wp2
  go_loopw [3, 9] (fun u i wr => ∃ k : Nat, k ≤ l.length ∧ i = .int .i64 k ∧ OwnR wr w.heap.size 43 u (mergeL (l.take k)) ∧ Below w.heap.size w wr) (fun _ i _ => l.length - (intOf i).toNat)
  case atStart => exact ⟨0, Nat.zero_le _, rfl, OwnR.nil, Below.refl _ _⟩
  case round =>
    obtain ⟨k, hk, rfl, hown, hb⟩ := hrel
    have hsz := hb.size
    by_cases hlt : k < l.length
    · obtain ⟨b, o, x, y, rfl, _, hx, h1, h2⟩ := (H.out.below (fun _ h => h) hb).rng_at hlt
      have hcl := mergeL_take_length l k
      have hM := Lib.hid (mergeL_at hx.out)
      have hB := Lib.hid (mergeL_bounds HI.out k)
      have hy := hiIn_at HI.out hx.out
      obtain ⟨hy1, hy2⟩ := hy
      generalize mergeL (l.take k) = O at *
      obtain ⟨Au, cu, rfl, hu1, hu2⟩ := hown.form'
      have HO := Lib.hid hown
      clear hown
      unfold maxLen at hu2
      by_cases h0 : 0 < O.length
      · obtain ⟨g, rfl, hg1, hg2⟩ : ∃ g, Au = some ⟨g, 0, none⟩ ∧ w.heap.size ≤ g ∧ g < wr.heap.size := by
          rcases HO.out.form with ⟨_, e⟩ | ⟨g, c', e, e2, e3, _⟩
          · subst e; simp at h0
          · injection e with e1; exact ⟨g, e1, e2, e3⟩
        obtain ⟨g', o', p, q, e, _, hq, c1, c2⟩ := (HO.out.sl).rng_at (k := O.length - 1) (by omega)
        obtain ⟨rfl, rfl⟩ := some_addr e
        obtain ⟨hq1, hq2⟩ := hiIn_at hB.out hq.out
        have c1' : wr.cell? ⟨g, (O.length - 1) * 2, none⟩ = some (.int .i64 p) := by simpa using c1
        have c2' : wr.cell? ⟨g, (O.length - 1) * 2 + 1, none⟩ = some (.int .i64 q) := by simpa using c2
        clear c1 c2 e
        by_cases hm : x ≤ q + 1
        · have hd1 : decide (x ≤ q + 1) = true := decide_eq_true hm
          have w1 : IntKind.i64.wrap ((O.length : Int) - 1) = (O.length : Int) - 1 := IntWalk.i64_in _ (by omega)
          have w2 : IntKind.i64.wrap (q + 1) = q + 1 := IntWalk.i64_in _ (by omega)
          have w3 : 0 ≤ (O.length : Int) - 1 := by omega
          have w4 : ((O.length : Int) - 1).toNat = O.length - 1 := by omega
          have w5 : (O.length : Int) - 1 < O.length := by omega
          have w6 : (1 : Int) ≤ O.length := by omega
          have w7 : 1 ≤ O.length := by omega
          have fz : wr.frozen? ⟨g, (O.length - 1) * 2 + 1, none⟩ = false := World.ownsRow.frozenAt HO.out _
          go_wp2_with fail
          go_quiet (fail)
          clear w2
          go_wp2_with fail
          go_region
          clear w1 w4
          go_wp2
          have ho2 : OwnR ((wr.alloc (Obj.cells #[Value.int IntKind.i64 x, Value.int IntKind.i64 y] 43)).drewN (nq + 1)) w.heap.size 43 (.slice (some ⟨g, 0, none⟩) O.length cu) O := HO.out.alloc _
          have hs := World.ownsRow.stored ho2 ((O.length - 1) * 2 + 1) (.int .i64 (if q < y then y else q))
          rw [cellsR_set O (O.length - 1) (p, q) hq.out] at hs
          refine ⟨⟨k + 1, by omega, by go_num, ?_, ?_⟩, by simp [intOf]; omega⟩
          · rw [hM.out, mergeStep_in hq.out hm, show max q (x, y).2 = (if q < y then y else q) from by simp only [Int.max_def]; split <;> split <;> omega]
            unfold OwnR
            rw [List.length_set]
            exact hs.1
          · exact (below_drewN (hb.alloc hsz _) (nq + 1)).grown hs.2 (by simp; omega) (fun _ hr => by injection hr with hr; omega)
        · have hd1 : decide (x ≤ q + 1) = false := decide_eq_false hm
          have w1 : IntKind.i64.wrap ((O.length : Int) - 1) = (O.length : Int) - 1 := IntWalk.i64_in _ (by omega)
          have w2 : IntKind.i64.wrap (q + 1) = q + 1 := IntWalk.i64_in _ (by omega)
          have w3 : 0 ≤ (O.length : Int) - 1 := by omega
          have w4 : ((O.length : Int) - 1).toNat = O.length - 1 := by omega
          have w5 : (O.length : Int) - 1 < O.length := by omega
          have w6 : (1 : Int) ≤ O.length := by omega
          have w7 : 1 ≤ O.length := by omega
          go_wp2_with fail
          go_quiet (fail)
          clear w1 w2 w4
          obtain ⟨i0, hi, hz0, hz1, hz2⟩ := info_parts infoRange
          go_wp2_with (at_builtin; refine wpList_append_own _ rfl _ _ 38 rfl w.heap.size 43 i0 (.agg #[.int .i64 0, .int .i64 0]) 2 16 under_rs hi hz0 hz1 hz2 rfl (by decide) _ _ _ rfl (by exact World.ownsRow.alloc (World.ownsRow.alloc HO.out _) _) ⟨wr.heap.size + 1, 0, none⟩ 1 1 [.int .i64 x, .int .i64 y] rfl rfl (cell_two_at _ _ (by simp) _ _ _) (fun x hx => by simp at hx; rcases hx with rfl | rfl <;> rfl) (by unfold maxLen; omega) (by omega) (by simp; omega) ?_; intro v' w3 hown' hgrow3 hnil3)
          refine ⟨⟨k + 1, by omega, by go_num, ?_, ?_⟩, by simp [intOf]; omega⟩
          · rw [hM.out, mergeStep_off hq.out (by omega)]
            unfold OwnR
            rw [cellsR_append, List.length_append]
            exact hown'
          · exact (below_drewN (hb.alloc hsz _) nq |>.alloc (by simp; omega) _).grown hgrow3 (by simp; omega) (fun _ hr => (HO.out.lt _ hr).1)
      · have HE := Lib.hid (show O.length = 0 from by omega)
        have hd1 : decide ((0 : Int) ≤ (O.length : Int) - 1) = false := decide_eq_false (by omega)
        have hd2 : decide ((1 : Int) ≤ (O.length : Int)) = false := decide_eq_false (by omega)
        have hd3 : decide (1 ≤ O.length) = false := decide_eq_false (by omega)
        have hd4 : decide (0 < O.length) = false := decide_eq_false (by omega)
        go_wp2_with fail
        go_quiet (fail)
        obtain ⟨i0, hi, hz0, hz1, hz2⟩ := info_parts infoRange
        go_wp2_with (at_builtin; refine wpList_append_own _ rfl _ _ 38 rfl w.heap.size 43 i0 (.agg #[.int .i64 0, .int .i64 0]) 2 16 under_rs hi hz0 hz1 hz2 rfl (by decide) _ _ _ rfl (by exact World.ownsRow.alloc (World.ownsRow.alloc HO.out _) _) ⟨wr.heap.size + 1, 0, none⟩ 1 1 [.int .i64 x, .int .i64 y] rfl rfl (cell_two_at _ _ (by simp) _ _ _) (fun x hx => by simp at hx; rcases hx with rfl | rfl <;> rfl) (by unfold maxLen; omega) (by omega) (by simp; omega) ?_; intro v' w3 hown' hgrow3 hnil3)
        refine ⟨⟨k + 1, by omega, by go_num, ?_, ?_⟩, by simp [intOf]; omega⟩
        · rw [hM.out, mergeStep_none HE.out]
          unfold OwnR
          rw [cellsR_append, List.length_append]
          exact hown'
        · exact (below_drewN (hb.alloc hsz _) nq |>.alloc (by simp; omega) _).grown hgrow3 (by simp; omega) (fun _ hr => (HO.out.lt _ hr).1)
    · go_wp2
      go_ret
      rw [List.take_of_length_le (by omega)] at hown
      exact AddPost.mk hown hb

end Go.Proofs.YtadbdpgcdpjgmaaDoor
