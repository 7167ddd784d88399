/- span.Norm and span.Size. Condition: the argument takes at most 2^47 bytes. -/
import Derived.Test.YthnfkghgaagaiaaSpan
import Derived.Test.YthnfkghgaagaiaaSpanSort
import Derived.Test.YthnfkghgaagaiaaSets
namespace Go.Proofs.Ythnfkghgaagaiaa
open Go.RowKit

theorem OwnR.mono {w : World} {base base' e : Nat} {v : Value} {l : List (Int × Int)} (h : OwnR w base e v l) (hB : base' ≤ base) : OwnR w base' e v l := by
  refine ⟨h.1, ?_⟩
  rcases h.2 with h2 | ⟨g, cap, cur, h1, h2, h3⟩
  · exact .inl h2
  · exact .inr ⟨g, cap, cur, h1, Nat.le_trans hB h2, h3⟩
theorem OwnR.slOld {w : World} {base e : Nat} {v : Value} {l : List (Int × Int)} (h : OwnR w base e v l) : Sl Enc.rng w (Old w) l v := h.sl.more fun _ hk => hk.2

set_option maxHeartbeats 400000 in
theorem span_Norm (l : List (Int × Int)) (v : Value) (w : World) (h : Sl Enc.rng w (Old w) l v) (hl : l.length * 16 ≤ 140737488355328) :
    Calls Try.prog 14 #[v] w (AddPost w.heap.size (.slice none 0 0) (normL l) w) := by
  have H := Lib.hid h
  clear h
  have hcl := clipL_length l
  go_enter Try.func14, Try.ntmps14
  go_wp2_with fail
  refine (span_clipped l v _ H.out hl).mono ?_
  rintro e w1 ⟨v1, rfl, ho1, hg1, _⟩
  have hb1 : Below w.heap.size w w1 := below_of_grown hg1 (Nat.le_refl _) (fun _ h => by cases h)
  have HO1 := Lib.hid ho1
  clear ho1 hg1
  go_wp2_with fail
  refine (span_sort w.heap.size v1 (clipL l) _ HO1.out (by omega)).mono ?_
  rintro e w2 ⟨rfl, l', hp, hs, ho2, hg2⟩
  have hb2 : Below w.heap.size w w2 := hb1.grown hg2 hb1.size (fun _ hr => (HO1.out.lt _ hr).1)
  have HO2 := Lib.hid ho2
  have HE := Lib.hid (normL_eq hp hs)
  have HC := Lib.hid (clean_hiIn (fun r hr => clipL_clean l r (hp.mem_iff.1 hr)))
  have hlen := hp.length_eq
  have HLN := Lib.hid hlen
  clear hp hs ho2 hg2 hlen
  go_wp2_with fail
  refine (span_merge l' v1 _ HO2.out.slOld (by have := HLN.out; omega) HC.out).mono ?_
  rintro e w3 ⟨v3, rfl, ho3, hg3, _⟩
  have hb3 : Below w2.heap.size w2 w3 := below_of_grown hg3 (Nat.le_refl _) (fun _ h => by cases h)
  go_wp2
  go_ret
  rw [HE.out] at ho3
  exact AddPost.mk (ho3.mono hb2.size) (below_next hb2 hb2.size hb3)

set_option maxHeartbeats 400000 in
theorem span_Size (l : List (Int × Int)) (v : Value) (w : World) (h : Sl Enc.rng w (Old w) l v) (hl : l.length * 16 ≤ 140737488355328) :
    Calls Try.prog 20 #[v] w fun e w' => e = .returned (.int .i64 (sumL (normL l))) ∧ Below w.heap.size w w' := by
  have H := Lib.hid h
  clear h
  have HG := Lib.hid (normL_good l).1
  go_enter Try.func20, Try.ntmps20
  go_wp2_with fail
  refine (span_Norm l v _ H.out hl).mono ?_
  rintro e w1 ⟨v1, rfl, ho1, hg1, _⟩
  have hb1 : Below w.heap.size w w1 := below_of_grown hg1 (Nat.le_refl _) (fun _ h => by cases h)
  have HS := Lib.hid ho1.slOld
  clear hg1
  obtain ⟨A, c, rfl, hc1, hc2⟩ := ho1.form'
  clear ho1
  unfold maxLen at hc2
  generalize hN : normL l = N at *
  have HN := Lib.hid hN
  clear hN
  go_wp2
  go_loopw [3, 9] (fun n i wr => ∃ k : Nat, k ≤ N.length ∧ i = .int .i64 k ∧ n = .int .i64 (sumL (N.take k)) ∧ Below w1.heap.size w1 wr) (fun _ i _ => N.length - (intOf i).toNat)
  case atStart => exact ⟨0, Nat.zero_le _, rfl, rfl, Below.refl _ _⟩
  case round =>
    obtain ⟨k, hk, rfl, rfl, hb⟩ := hrel
    have hsz := hb.size
    by_cases hlt : k < N.length
    · obtain ⟨b, o, x, y, rfl, _, hx, h1, h2⟩ := (HS.out.below (fun _ h => h) hb).rng_at hlt
      obtain ⟨i1, i2, i3, i4⟩ := allIn_at (good_allIn HG.out) hx.out
      obtain ⟨s1, s2⟩ := sumL_bounds HG.out k
      have HX := Lib.hid (sumL_at hx.out)
      generalize sumL (N.take k) = S at *
      go_wp2
      exact ⟨⟨k + 1, by omega, by go_num, by rw [HX.out], hb.alloc hsz _⟩, by simp [intOf]; omega⟩
    · go_wp2
      go_ret
      exact ⟨ret_int (by rw [HN.out, List.take_of_length_le (by omega)]), below_next hb1 hb1.size hb⟩

end Go.Proofs.Ythnfkghgaagaiaa
