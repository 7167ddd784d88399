/- span.Norm and span.Size. Condition: the argument takes at most 2^47 bytes. -/
import Derived.Test.YthnfkghgaagaiabSpan
import Derived.Test.YthnfkghgaagaiabSpanSort
import Derived.Test.YthnfkghgaagaiabSets
namespace Go.Proofs.Ythnfkghgaagaiab
open Go.RowKit

theorem OwnR.mono {w : World} {base base' e : Nat} {v : Value} {l : List (Int × Int)} (h : OwnR w base e v l) (hB : base' ≤ base) : OwnR w base' e v l := by
  refine ⟨h.1, ?_⟩
  rcases h.2 with h2 | ⟨g, cap, cur, h1, h2, h3⟩
  · exact .inl h2
  · exact .inr ⟨g, cap, cur, h1, Nat.le_trans hB h2, h3⟩
theorem OwnR.slOld {w : World} {base e : Nat} {v : Value} {l : List (Int × Int)} (h : OwnR w base e v l) : Sl Enc.rng w (Old w) l v := h.sl.more fun _ hk => hk.2

set_option maxHeartbeats 400000 in
theorem span_Norm (l : List (Int × Int)) (v : Value) (w : World) (h : Sl Enc.rng w (Old w) l v) (hl : l.length * 16 ≤ 140737488355328) :
    Calls Try.prog 65 #[v] w (AddPost w.heap.size (.slice none 0 0) (normL l) w) := by
  have H := Lib.hid h
  clear h
  have hcl := clipL_length l
  go_enter Try.func65, Try.ntmps65
  go_wp2_with fail
  refine (span_clipped l v _ H.out hl).mono ?_
  rintro e w1 ⟨v1, rfl, ho1, hg1, _⟩
  have hb1 : Below w.heap.size w w1 := below_of_grown hg1 (Nat.le_refl _) (fun _ h => by cases h)
  have HO1 := Lib.hid ho1
  clear ho1 hg1
  go_wp2_with fail
  refine (span_sort w.heap.size v1 (clipL l) _ HO1.out (by omega)).mono ?_
  rintro e w2 ⟨rfl, l', hp, hs, ho2, hg2⟩
  have hb2 : Below w.heap.size w w2 := hb1.grown hg2 hb1.size (fun _ hr => (HO1.out.lt _ hr).1)
  have HO2 := Lib.hid ho2
  have HE := Lib.hid (normL_eq hp hs)
  have HC := Lib.hid (clean_hiIn (fun r hr => clipL_clean l r (hp.mem_iff.1 hr)))
  have hlen := hp.length_eq
  have HLN := Lib.hid hlen
  clear hp hs ho2 hg2 hlen
  go_wp2_with fail
  refine (span_merge l' v1 _ HO2.out.slOld (by have := HLN.out; omega) HC.out).mono ?_
  rintro e w3 ⟨v3, rfl, ho3, hg3, _⟩
  have hb3 : Below w2.heap.size w2 w3 := below_of_grown hg3 (Nat.le_refl _) (fun _ h => by cases h)
  go_wp2
  go_ret
  rw [HE.out] at ho3
  exact AddPost.mk (ho3.mono hb2.size) (below_next hb2 hb2.size hb3)

end Go.Proofs.Ythnfkghgaagaiab
