/- Plain mathematics of merging ranges that are sorted by their lower ends. No condition; no program is named. -/
import Derived.Test.YtadbdpgcdpjgmaaDoorSets
namespace Go.Proofs.YtadbdpgcdpjgmaaDoor

/-- one range more: into the last one, or behind it -/
def mergeStep (out : List (Int × Int)) (r : Int × Int) : List (Int × Int) :=
  match out[out.length - 1]? with
  | some p => if r.1 ≤ p.2 + 1 then out.set (out.length - 1) (p.1, max p.2 r.2) else out ++ [r]
  | none => out ++ [r]
def mergeL (l : List (Int × Int)) : List (Int × Int) := l.foldl mergeStep []
theorem mergeL_at {l : List (Int × Int)} {k : Nat} {r : Int × Int} (h : l[k]? = some r) : mergeL (l.take (k + 1)) = mergeStep (mergeL (l.take k)) r := by
  unfold mergeL
  rw [take_at h, List.foldl_append]; rfl
theorem mergeStep_none {out : List (Int × Int)} {r : Int × Int} (h : out.length = 0) : mergeStep out r = out ++ [r] := by
  have : out = [] := List.length_eq_zero_iff.1 h
  subst this; rfl
theorem mergeStep_in {out : List (Int × Int)} {r : Int × Int} {p q : Int} (h : out[out.length - 1]? = some (p, q)) (hr : r.1 ≤ q + 1) : mergeStep out r = out.set (out.length - 1) (p, max q r.2) := by
  unfold mergeStep; rw [h]; simp [hr]
theorem mergeStep_off {out : List (Int × Int)} {r : Int × Int} {p q : Int} (h : out[out.length - 1]? = some (p, q)) (hr : q + 1 < r.1) : mergeStep out r = out ++ [r] := by
  unfold mergeStep; rw [h]; simp; omega
theorem mergeStep_length (out : List (Int × Int)) (r : Int × Int) : (mergeStep out r).length ≤ out.length + 1 := by
  unfold mergeStep
  split
  · split <;> simp
  · simp
theorem mergeL_length (l : List (Int × Int)) : (mergeL l).length ≤ l.length := by
  have : ∀ (l out : List (Int × Int)), (l.foldl mergeStep out).length ≤ out.length + l.length := by
    intro l
    induction l with
    | nil => intro out; simp
    | cons a l ih => intro out; have := ih (mergeStep out a); have := mergeStep_length out a; simp at *; omega
  simpa [mergeL] using this l []
theorem mergeL_take_length (l : List (Int × Int)) (k : Nat) : (mergeL (l.take k)).length ≤ k := Nat.le_trans (mergeL_length _) (List.length_take_le _ _)
def hiIn (l : List (Int × Int)) : Prop := ∀ r, r ∈ l → -1000000 ≤ r.2 ∧ r.2 ≤ 1000000
theorem hiIn_at {l : List (Int × Int)} {k : Nat} {x y : Int} (h : hiIn l) (hk : l[k]? = some (x, y)) : -1000000 ≤ y ∧ y ≤ 1000000 := h (x, y) (List.mem_of_getElem? hk)
theorem mergeStep_in_bounds {out : List (Int × Int)} {r : Int × Int} (h : hiIn out) (hr : -1000000 ≤ r.2 ∧ r.2 ≤ 1000000) : hiIn (mergeStep out r) := by
  intro q hq
  unfold mergeStep at hq
  split at hq
  · rename_i p hp
    split at hq
    · rcases List.mem_or_eq_of_mem_set hq with h' | rfl
      · exact h q h'
      · have := h p (List.mem_of_getElem? hp)
        simp; omega
    · rcases List.mem_append.1 hq with h' | h'
      · exact h q h'
      · rw [List.mem_singleton] at h'; subst h'; exact hr
  · rcases List.mem_append.1 hq with h' | h'
    · exact h q h'
    · rw [List.mem_singleton] at h'; subst h'; exact hr
theorem mergeL_bounds {l : List (Int × Int)} (h : hiIn l) (k : Nat) : hiIn (mergeL (l.take k)) := by
  have : ∀ (l out : List (Int × Int)), hiIn l → hiIn out → hiIn (l.foldl mergeStep out) := by
    intro l
    induction l with
    | nil => intro out _ h; exact h
    | cons a l ih => intro out h1 h2; exact ih _ (fun r hr => h1 r (List.mem_cons_of_mem _ hr)) (mergeStep_in_bounds h2 (h1 a List.mem_cons_self))
  exact this _ [] (fun r hr => h r (List.mem_of_mem_take hr)) (by intro r hr; simp at hr)

end Go.Proofs.YtadbdpgcdpjgmaaDoor
