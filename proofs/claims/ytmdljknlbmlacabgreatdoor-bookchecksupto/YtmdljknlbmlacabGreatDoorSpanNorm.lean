/- slices.SortFunc as span.Norm calls it: a row of the caller's own holds a sorted permutation behind the call. Condition: the row is the caller's own and takes at most 2^47 bytes. span.Norm and span.Size. Condition: the argument takes at most 2^47 bytes. -/
import Derived.Test.YtmdljknlbmlacabGreatDoorSpan
import Derived.Test.YtmdljknlbmlacabGreatDoorShelf
import Derived.Shelf.SlSortCmp.NoneTotal
import Derived.Sort.OwnSorted
import Derived.Test.YtmdljknlbmlacabGreatDoorSets
namespace Go.Proofs.YtmdljknlbmlacabGreatDoor
open Go.RowKit Go.Lib Go.Sort Go.Shelf

def encR (x : Int × Int) : List Value := [.int .i64 x.1, .int .i64 x.2]
theorem ltR (x y : Int × Int) : ltOf (fun x y : Int × Int => Lib.compareInt x.1 y.1) x y = decide (x.1 < y.1) := by
  unfold ltOf Lib.compareInt
  by_cases h1 : x.1 < y.1
  · simp [h1]
  · by_cases h2 : y.1 < x.1 <;> simp [h1, h2]
theorem swoR : SWO (ltOf fun x y : Int × Int => Lib.compareInt x.1 y.1) where
  irrefl x := by rw [ltR]; simp
  trans x y z h1 h2 := by rw [ltR] at *; simp at *; omega
  ntrans x y z h1 h2 := by rw [ltR] at *; simp at *; omega

set_option maxHeartbeats 1000000 in
theorem norm_closure (x y : Int × Int) (W : World) : Calls Tryz.prog 205 #[.agg #[.int .i64 x.1, .int .i64 x.2], .agg #[.int .i64 y.1, .int .i64 y.2]] W fun e w' => e = .returned (.int .i64 (Lib.compareInt x.1 y.1)) ∧ ∃ q os', w' = grow (W.drewN q) os' := by
  have hcon := fun W' => AnyG.cmp_Compare_int Tryz.cmpInt x.1 y.1 W'
  change ∀ W', Calls Tryz.prog 168 _ _ _ at hcon
  generalize Lib.compareInt x.1 y.1 = r at hcon ⊢
  go_enter Tryz.func205, Tryz.ntmps205
  go_wp2_with (go_at_call 168; refine (hcon _).mono ?_; rintro e w' ⟨rfl, rfl⟩)
  go_ret
  exact ⟨rfl, 0, _, by rw [alloc_eq_grow, alloc_eq_grow, grow_grow]; rfl⟩
theorem norm_cmpLays (blk off size : Nat) (w : World) : CmpLays Tryz.prog 205 #[] encR 2 (fun x y => Lib.compareInt x.1 y.1) blk off size w :=
  fun _ _ _ _ x y => norm_closure x y _

theorem flat_cells (l : List (Int × Int)) : flatK encR 2 l.toArray = (cellsR l).toArray := by
  apply Array.ext_getElem?
  intro t
  by_cases ht : t < l.length * 2
  · have h1 : t / 2 < l.length := by omega
    obtain ⟨c0, c1⟩ := cellsR_get l (t / 2) l[t / 2] (List.getElem?_eq_getElem h1)
    have e1 : (flatK encR 2 l.toArray)[t]? = some ((flatK encR 2 l.toArray)[t]!) := by
      rw [getElem!_pos _ t (by simpa using ht), Array.getElem?_eq_getElem]
    rw [e1, get_flatK encR 2 l.toArray t (by simpa using ht), getElem!_pos l.toArray (t / 2) (by simpa using h1)]
    simp only [List.getElem_toArray, List.getElem?_toArray, encR]
    rcases Nat.mod_two_eq_zero_or_one t with hm | hm
    · rw [hm, show (cellsR l)[t]? = (cellsR l)[t / 2 * 2]? from by rw [show t / 2 * 2 = t from by omega], c0]; rfl
    · rw [hm, show (cellsR l)[t]? = (cellsR l)[t / 2 * 2 + 1]? from by rw [show t / 2 * 2 + 1 = t from by omega], c1]; rfl
  · rw [Array.getElem?_eq_none (by simp; omega), Array.getElem?_eq_none (by simp [cellsR_length]; omega)]

theorem holds_own {w : World} {base e g c : Nat} {l : List (Int × Int)} (h : OwnR w base e (.slice (some ⟨g, 0, none⟩) l.length c) l) : HoldsK encR 2 w g 0 l.toArray := by
  unfold HoldsK
  rw [flat_cells]
  intro j hj
  have hj' : j < l.length * 2 := by simpa [cellsR_length] using hj
  refine ⟨?_, by simpa using World.ownsRow.frozenAt h j⟩
  have := World.ownsRow.cellAt h j hj'
  rw [Nat.zero_add, this, getElem!_pos _ j hj]
  simp [List.getElem?_eq_getElem (show j < (cellsR l).length from by rw [cellsR_length]; exact hj')]

theorem heap_put {w : World} {g n : Nat} {os : Array Obj} {cur : Array Value} {e : TypeId} {fr : Nat × Nat} (d : Array Value) (hb : w.heap[g]? = some (.cells cur e fr)) :
    (grow (putRow id (Sort.ahead w n) g 0 d) os).heap[g]? = some (.cells (putCells id 0 d cur) e fr) := by
  have hg : g < w.heap.size := (Array.getElem?_eq_some_iff.1 hb).1
  rw [heap_grow_old _ _ (by simpa using hg)]
  simp [putRow, mapBlock, Sort.ahead, Array.getElem?_modify, hb, onCells]
theorem grown_put {w : World} {g n : Nat} {os : Array Obj} (d : Array Value) : w.grownBy (grow (putRow id (Sort.ahead w n) g 0 d) os) (some g) := by
  refine ⟨rfl, rfl, rfl, by simp, fun k hk hne => ?_⟩
  rw [heap_grow_old _ _ (by simpa using hk)]
  have : g ≠ k := fun e => hne (by rw [e])
  simp [putRow, mapBlock, Sort.ahead, Array.getElem?_modify, this]
theorem take_put (cur : Array Value) (ts : List Value) (h : ts.length ≤ cur.size) : (putCells id 0 ts.toArray cur).toList.take ts.length = ts := by
  apply List.ext_getElem?
  intro j
  by_cases hj : j < ts.length
  · rw [List.getElem?_take_of_lt hj, Array.getElem?_toList]
    simp [putCells, hj, show j < cur.size by omega]
  · rw [List.getElem?_take_eq_none (by omega), List.getElem?_eq_none (by omega)]

/-- a sorted permutation of l lies where l lay -/
def SortPost (base : Nat) (v : Value) (l : List (Int × Int)) (w : World) (e : Ending) (w' : World) : Prop :=
  e = .returned (.tuple #[]) ∧ ∃ l' : List (Int × Int), l'.Perm l ∧ l'.Pairwise (fun x y => x.1 ≤ y.1) ∧ OwnR w' base 107 v l' ∧ w.grownBy w' v.ownBlock

theorem span_sort (base : Nat) (v : Value) (l : List (Int × Int)) (w : World) (h : OwnR w base 107 v l) (hl : l.length * 16 ≤ 140737488355328) :
    Calls Tryz.prog 204 #[v, .func (.func 205) #[] #[]] w (SortPost base v l w) := by
  rcases h.form with ⟨rfl, rfl⟩ | ⟨g, c, rfl, hg1, hg2, hg3, hg4⟩
  · have hcon := AnyF.slices_SortFunc_none Tryz.sortRng none 0 (.func (.func 205) #[] #[]) w
    change Calls Tryz.prog 204 _ _ _ at hcon
    refine hcon.mono ?_
    rintro e w' ⟨rfl, rfl⟩
    exact ⟨rfl, [], List.Perm.refl _, List.Pairwise.nil, h, World.grownBy.refl _ _⟩
  · have eg : ∀ args w, (callFunc 205 args).run Tryz.prog w = .ok (.enter 205 args) w := enters_of Tryz.func205 (by kernel_rfl) rfl
    have hcon := AnyQ.slices_SortFunc Tryz.sortRng 2 Tryz.isAgg107 Tryz.sizeOf107 encR (fun _ => rfl) (fun x v hv => by simp [encR] at hv; rcases hv with rfl | rfl <;> rfl) (fun x y => Lib.compareInt x.1 y.1) swoR 205 #[] g 0 c l.toArray w eg (norm_cmpLays g 0 _ w) (holds_own h) hg2 (by simp; omega)
    change Calls Tryz.prog 204 _ _ _ at hcon
    refine hcon.mono ?_
    rintro e w' ⟨rfl, d', n, os, hp, hs, rfl⟩
    obtain ⟨p1, _, p3⟩ := hp
    have hlen : d'.toList.length = l.length := by simpa using p1
    have hperm : d'.toList.Perm l := by
      have e1 : d'.extract 0 l.toArray.size = d' := by rw [← p1]; simp
      have e2 : l.toArray.extract 0 l.toArray.size = l.toArray := by simp
      rw [e1, e2] at p3
      simpa using p3
    have hsorted : d'.toList.Pairwise (fun x y => x.1 ≤ y.1) := by
      rw [List.pairwise_iff_getElem]
      intro i j hi hj hij
      have := hs i j (Nat.zero_le _) hij (by simp at hj; simp; simpa [p1] using hj)
      rw [ltR, getElem!_pos _ i (by simpa using hi), getElem!_pos _ j (by simpa using hj)] at this
      simp at this
      simpa using this
    refine ⟨rfl, d'.toList, hperm, hsorted, ?_, ?_⟩
    · rcases h.2 with ⟨hn, _⟩ | ⟨g', c', cur, hv, hb, hh, h4, h5, h6, _⟩
      · cases hn
      · injection hv with e1 e2 e3
        injection e1 with e1
        injection e1 with e1
        subst e1 e3
        refine ⟨by rw [cellsR_length], .inr ⟨g, c, putCells id 0 (flatK encR 2 d') cur, by rw [hlen], hb, ?_, by rw [hlen]; exact h4, h5, ?_, ?_⟩⟩
        · unfold sortWorldK putRowK
          exact heap_put _ hh
        · simp [putCells, h6]
        · have e3 : flatK encR 2 d' = (cellsR d'.toList).toArray := by have := flat_cells d'.toList; simpa using this
          rw [e3, ← cellsR_length]
          exact take_put cur _ (by rw [cellsR_length, hlen, h6]; omega)
    · unfold sortWorldK putRowK
      exact grown_put _

end Go.Proofs.YtmdljknlbmlacabGreatDoor
namespace Go.Proofs.YtmdljknlbmlacabGreatDoor
open Go.RowKit

theorem OwnR.mono {w : World} {base base' e : Nat} {v : Value} {l : List (Int × Int)} (h : OwnR w base e v l) (hB : base' ≤ base) : OwnR w base' e v l := by
  refine ⟨h.1, ?_⟩
  rcases h.2 with h2 | ⟨g, cap, cur, h1, h2, h3⟩
  · exact .inl h2
  · exact .inr ⟨g, cap, cur, h1, Nat.le_trans hB h2, h3⟩
theorem OwnR.slOld {w : World} {base e : Nat} {v : Value} {l : List (Int × Int)} (h : OwnR w base e v l) : Sl Enc.rng w (Old w) l v := h.sl.more fun _ hk => hk.2

set_option maxHeartbeats 400000 in
theorem span_Norm (l : List (Int × Int)) (v : Value) (w : World) (h : Sl Enc.rng w (Old w) l v) (hl : l.length * 16 ≤ 140737488355328) :
    Calls Tryz.prog 169 #[v] w (AddPost w.heap.size (.slice none 0 0) (normL l) w) := by
  have H := Lib.hid h
  clear h
  have hcl := clipL_length l
  go_enter Tryz.func169, Tryz.ntmps169
  go_wp2_with fail
  refine (span_clipped l v _ H.out hl).mono ?_
  rintro e w1 ⟨v1, rfl, ho1, hg1, _⟩
  have hb1 : Below w.heap.size w w1 := below_of_grown hg1 (Nat.le_refl _) (fun _ h => by cases h)
  have HO1 := Lib.hid ho1
  clear ho1 hg1
  go_wp2_with fail
  refine (span_sort w.heap.size v1 (clipL l) _ HO1.out (by omega)).mono ?_
  rintro e w2 ⟨rfl, l', hp, hs, ho2, hg2⟩
  have hb2 : Below w.heap.size w w2 := hb1.grown hg2 hb1.size (fun _ hr => (HO1.out.lt _ hr).1)
  have HO2 := Lib.hid ho2
  have HE := Lib.hid (normL_eq hp hs)
  have HC := Lib.hid (clean_hiIn (fun r hr => clipL_clean l r (hp.mem_iff.1 hr)))
  have hlen := hp.length_eq
  have HLN := Lib.hid hlen
  clear hp hs ho2 hg2 hlen
  go_wp2_with fail
  refine (span_merge l' v1 _ HO2.out.slOld (by have := HLN.out; omega) HC.out).mono ?_
  rintro e w3 ⟨v3, rfl, ho3, hg3, _⟩
  have hb3 : Below w2.heap.size w2 w3 := below_of_grown hg3 (Nat.le_refl _) (fun _ h => by cases h)
  go_wp2
  go_ret
  rw [HE.out] at ho3
  exact AddPost.mk (ho3.mono hb2.size) (below_next hb2 hb2.size hb3)

end Go.Proofs.YtmdljknlbmlacabGreatDoor
