/- ratebookref.edges' own closure: it inserts a number into an increasing list that lies behind a pointer. Conditions: the list lies in a row of the caller's own, behind the box. ratebookref.edges: all numbers at which a set may begin, increasing, in a new row. Condition: the argument reads as a list of lists of pairs in old memory. ratebookref.made, over a function that reads. Conditions: the edges increase; the function returns f of its argument and keeps what was there. -/
import Derived.Test.YtmdljknlbmlacabGreatDoorRefSpan
import Derived.Test.YtmdljknlbmlacabGreatDoorMem
import Derived.Test.YtmdljknlbmlacabGreatDoorSets
namespace Go.Proofs.YtmdljknlbmlacabGreatDoor
open Go.RowKit

theorem infoInt : (Tryz.prog.info? 3).map (fun i => (i.zero, i.size, i.bytes)) = some (some (.int .i64 0), 1, 8) := by kernel_rfl
theorem under_is : Tryz.prog.underlying 27 = some (.slice 3) := by kernel_rfl

theorem own_form {w : World} {base e size : Nat} {v : Value} {n : Nat} {xs : List Value} (h : w.ownsRow base e size v n xs) (hn : 0 < n) : ∃ g c, v = .slice (some ⟨g, 0, none⟩) n c ∧ base ≤ g ∧ g < w.heap.size := by
  rcases h.2 with ⟨_, h0⟩ | ⟨g, c, cur, h1, h2, h3, _⟩
  · omega
  · exact ⟨g, c, h1, h2, (Array.getElem?_eq_some_iff.1 h3).1⟩
theorem ownsRow_below {w w' : World} {base e size : Nat} {v : Value} {n : Nat} {xs : List Value} {B : Nat} (h : w.ownsRow base e size v n xs) (hb : Below B w w') (hB : w.heap.size ≤ B) : w'.ownsRow base e size v n xs := by
  refine ⟨h.1, ?_⟩
  rcases h.2 with h2 | ⟨g, cap, cur, h1, h2, h3, h4⟩
  · exact .inl h2
  · have hg := (Array.getElem?_eq_some_iff.1 h3).1
    exact .inr ⟨g, cap, cur, h1, h2, (hb.block g (by omega)).trans h3, h4⟩
theorem cut_addr {w : World} {base e g c : Nat} {l : List Int} (h : OwnI w base e (.slice (some ⟨g, 0, none⟩) l.length c) l) (hc : l.length ≤ c) (j : Nat) :
    ∃ AD : Addr, (if c = j then some (⟨g, 0, none⟩ : Addr) else some ⟨g, j, none⟩) = some AD ∧ AD.block = g ∧ ∀ i u, (cellsI (l.drop j))[i]? = some u → w.cell? (AD.add i) = some u := by
  by_cases hj : c = j
  · refine ⟨⟨g, 0, none⟩, by rw [if_pos hj], rfl, fun i u hu => ?_⟩
    rw [List.drop_of_length_le (by omega)] at hu
    simp [cellsI] at hu
  · refine ⟨⟨g, j, none⟩, by rw [if_neg hj], rfl, fun i u hu => ?_⟩
    have e : (⟨g, j, none⟩ : Addr).add i = ⟨g, j + i, none⟩ := by unfold Addr.add; split <;> simp_all
    rw [e]
    have hlt := (List.getElem?_eq_some_iff.1 hu).1
    rw [cellsI_length, List.length_drop] at hlt
    have := World.ownsRow.cellAt h (j + i) (by omega)
    rw [this, ← hu]
    simp [cellsI, List.map_drop]

/-- block B is a box that holds the row l -/
structure Box1 (w : World) (B : Nat) (v : Value) (l : List Int) : Prop where
  lt : B < w.heap.size
  cell : w.cell? ⟨B, 0, none⟩ = some v
  own : OwnI w (B + 1) 3 v l
  fz : w.frozen? ⟨B, 0, none⟩ = false
  inc : Incr l

/-- only the box, the row and new memory have turned -/
def Only (B : Nat) (v : Value) (w w' : World) : Prop := ∀ k, k < w.heap.size → k ≠ B → v.ownBlock ≠ some k → w'.heap[k]? = w.heap[k]?
def EdgePost (B : Nat) (v : Value) (n : Int) (l : List Int) (w : World) (e : Ending) (w' : World) : Prop :=
  e = .returned (.tuple #[]) ∧ ∃ v' l', Box1 w' B v' l' ∧ Ins n l l' ∧ Below B w w' ∧ Only B v w w'

theorem edge_end {B : Nat} {n : Int} {l : List Int} {w w2 : World} {j : Nat} {v v2 u : Value} (HI : Incr l) (h1 : -1000000 ≤ n) (h2 : n ≤ 1000000) (hj : j ≤ l.length) (hhi : ∀ i x, j ≤ i → l[i]? = some x → n < x) (hlo : j = 0 ∨ ∃ x, l[j - 1]? = some x ∧ x < n)
    (hB : B < w.heap.size) (hf : w.frozen? ⟨B, 0, none⟩ = false) (o2 : w2.ownsRow (B + 1) 3 1 v2 (j + (1 + (l.length - j))) (cellsI (l.take j) ++ ([.int .i64 n] ++ cellsI (l.drop j)))) (hb : Below (B + 1) w w2) (hv : w2.cell? ⟨B, 0, none⟩ = some u) (ho : ∀ k, k < w.heap.size → v.ownBlock ≠ some k → w2.heap[k]? = w.heap[k]?) :
    EdgePost B v n l w (.returned (.tuple #[])) (w2.setCell ⟨B, 0, none⟩ v2) := by
  have hins := ins_at HI h1 h2 hj hhi hlo
  have e : cellsI (l.take j) ++ ([.int .i64 n] ++ cellsI (l.drop j)) = cellsI (l.take j ++ n :: l.drop j) := by simp [cellsI]
  have e2 : j + (1 + (l.length - j)) = (l.take j ++ n :: l.drop j).length := by simp; omega
  rw [e, e2] at o2
  refine ⟨rfl, v2, _, ⟨?_, World.cell?_setCell_same w2 _ _ hv, OwnI.setCell_below o2 (Nat.lt_succ_self _) _, ?_, hins.1⟩, hins, ?_, fun k hk hkB hkv => ?_⟩
  · have := hb.size; simp [World.setCell]; omega
  · rw [World.frozen?_setCell, hb.frozen (p := ⟨B, 0, none⟩) (Nat.lt_succ_self _)]; exact hf
  · exact (hb.mono (Nat.le_succ _)).setCell (Nat.le_refl _) _
  · rw [Below.heap_setCell _ _ _ _ hkB]; exact ho k hk hkv

set_option maxHeartbeats 1000000 in
theorem ref_edge (B : Nat) (v : Value) (n : Int) (l : List Int) (w : World) (h : Box1 w B v l) :
    Calls Tryz.prog 134 #[.int .i64 n, .pointer (some ⟨B, 0, none⟩)] w (EdgePost B v n l w) := by
  obtain ⟨hB, hv, ho, hf, hinc⟩ := h
  have HO := Lib.hid ho
  have HI := Lib.hid hinc
  have HLE := hinc.length_le
  have HV := Lib.hid hv
  by_cases hn : -1000000 ≤ n ∧ n ≤ 1000000
  · have HN := Lib.hid (numB_true hn.1 hn.2)
    obtain ⟨hn1, hn2⟩ := hn
    rcases ho.form with ⟨rfl, rfl⟩ | ⟨g, c, rfl, hg1, hg2, hg3, hg4⟩
    · clear ho hinc
      go_enter Tryz.func134, Tryz.ntmps134
      go_wp2_with fail
      refine (ref_isNumber n _).mono ?_
      rintro e w1 ⟨rfl, rfl⟩
      rw [HN.out]
      go_wp2
      go_loop [3] (fun k => k = .int .i64 0) (fun k => (intOf k).toNat)
      case atStart => rfl
      case round =>
        subst hrel
        go_wp2_with fail
        obtain ⟨i0, hi, hz0, hz1, hz2⟩ := info_parts infoInt
        go_region_law (first
          | (refine step_append_own_none rfl (.tmp 33) (.tmp 36) 27 rfl (B + 1) 3 i0 1 under_is hi (.slice (some ⟨w.heap.size, 0, none⟩) 1 1) 1 [.int .i64 n] (by simp [Act.eval, Act.put]) (by exact World.ownsRow_lit w #[.int .i64 n] 1 (by omega) (by unfold maxLen; omega) rfl) (by simp [Act.eval, Act.put]) ?_)
          | (refine step_append_own rfl (.tmp 31) (.tmp 37) 27 rfl (B + 1) 3 i0 (.int .i64 0) 1 8 under_is hi hz0 hz1 hz2 rfl (by decide) (.slice none 0 0) 0 [] (by simp [Act.eval, Act.put]) (World.ownsRow_nil _ _ _ _) ⟨w.heap.size, 0, none⟩ 1 1 [.int .i64 n] (by simp [Act.eval, Act.put]) rfl (by intro i u hu; exact cell_one_new w _ _ i u hu) (by intro u hu; simp at hu; subst hu; rfl) (by unfold maxLen; omega) (by omega) (by simp; omega) ?_; intro v2 w2 o2 g2 _; obtain ⟨g3, c3, rfl, hg31, hg32⟩ := own_form o2 (by omega); have hb2 : Below (B + 1) w w2 := (((Below.refl _ w).alloc (by omega) _).drew).grown g2 (by simp; omega) (fun k hk => by simp [Value.ownBlock] at hk); have hvB := (hb2.cell (p := ⟨B, 0, none⟩) (Nat.lt_succ_self _)).trans hv; have hfB := (hb2.frozen (p := ⟨B, 0, none⟩) (Nat.lt_succ_self _)).trans hf; have HB2 := Lib.hid hb2; have HF2 : Hid (∀ k, k < w.heap.size → w2.heap[k]? = w.heap[k]?) := (fun k hk => (g2.block k (by simp; omega) (by simp [Value.ownBlock])).trans (Below.heap_alloc w _ k hk)); clear hb2 g2))
        all_goals go_wp2
        all_goals go_end0
        all_goals exact edge_end (j := 0) HI.out hn1 hn2 (Nat.zero_le _) (fun i x _ hx => by simp at hx) (.inl rfl) hB hf o2 HB2.out hvB (fun k hk _ => HF2.out k hk)
    · clear ho hinc
      unfold maxLen at hg4
      go_enter Tryz.func134, Tryz.ntmps134
      go_wp2_with fail
      refine (ref_isNumber n _).mono ?_
      rintro e w1 ⟨rfl, rfl⟩
      rw [HN.out]
      go_wp2
      go_loop [3] (fun k => ∃ j : Nat, j ≤ l.length ∧ k = .int .i64 j ∧ Hid (∀ i x, j ≤ i → l[i]? = some x → n < x)) (fun k => (intOf k).toNat)
      case atStart => exact ⟨l.length, Nat.le_refl _, rfl, fun i x hi hx => by have := (List.getElem?_eq_some_iff.1 hx).1; omega⟩
      case round =>
        obtain ⟨j, hj, rfl, hhi⟩ := hrel
        by_cases hj0 : 0 < j
        · obtain ⟨x, hx⟩ : ∃ x, l[j - 1]? = some x := ⟨l[j - 1]'(by omega), List.getElem?_eq_getElem _⟩
          have hc := HO.out.at_ hx
          have HX := Lib.hid hx
          clear hx
          have w3 : 0 ≤ (j : Int) - 1 := by omega
          have w4 : ((j : Int) - 1).toNat = j - 1 := by omega
          have w5 : (j : Int) - 1 < l.length := by omega
          by_cases hge : n ≤ x
          · by_cases heq : x = n
            · have hb : (x == n) = true := by simp [heq]
              have HE := Lib.hid heq
              clear heq
              go_wp2
              go_end0
              exact ⟨rfl, _, l, ⟨hB, HV.out, HO.out, hf, HI.out⟩, ins_same HI.out (HE.out ▸ List.mem_of_getElem? HX.out), Below.refl _ _, fun _ _ _ _ => rfl⟩
            · have hb : (x == n) = false := by simp [heq]
              go_wp2
              refine ⟨⟨j - 1, by omega, by rw [← w4]; congr 1; omega, fun i y hi hy => ?_⟩, by simp [intOf]; omega⟩
              by_cases hij : i = j - 1
              · subst hij
                have e := HX.out
                rw [hy] at e
                injection e with e
                omega
              · exact hhi.out i y (by omega) hy
          · go_wp2_with fail
            have e1 : (0 : Int) ≤ j := by omega
            have e2 : (j : Int) ≤ c := by omega
            have e3 : (j : Int) ≤ l.length := by omega
            obtain ⟨AD, hAD, hADb, hAN⟩ := cut_addr HO.out hg3 j
            have HAN := Lib.hid hAN
            have HADb := Lib.hid hADb
            have HFR := Lib.hid (HO.out.front hj)
            clear hAN hADb
            obtain ⟨i0, hi, hz0, hz1, hz2⟩ := info_parts infoInt
            go_region_law (first
              | (refine step_append_own rfl (.tmp 33) (.tmp 36) 27 rfl (B + 1) 3 i0 (.int .i64 0) 1 8 under_is hi hz0 hz1 hz2 rfl (by decide) (.slice (some ⟨w.heap.size, 0, none⟩) 1 1) 1 [.int .i64 n] (by simp [Act.eval, Act.put]) (by exact World.ownsRow_lit w #[.int .i64 n] 1 (by omega) (by unfold maxLen; omega) rfl) AD (l.length - j) (c - j) (cellsI (l.drop j)) (by simp [Act.eval, Act.put]) (by rw [cellsI_length, List.length_drop, Nat.mul_one]) (by intro i u hu; exact (World.cell?_alloc_lt w _ _ (by rw [show (AD.add i).block = AD.block from by unfold Addr.add; split <;> rfl, HADb.out]; exact hg2)).trans (HAN.out i u hu)) (oneCell_cellsI _) (by unfold maxLen; omega) (by omega) (by simp; omega) ?_; intro v1 w1 o1 g1 _; obtain ⟨gg, c1, rfl, hgg1, hgg2⟩ := own_form o1 (by omega); have hb1 : Below w.heap.size w w1 := ((Below.refl _ w).alloc (Nat.le_refl _) _).drew.grown g1 (by simp) (fun k hk => by simp [Value.ownBlock] at hk; omega); have HB1 := Lib.hid hb1; have hs1 := hb1.size; have hvB1 := (hb1.cell (p := ⟨B, 0, none⟩) hB).trans hv; clear hb1 g1)
              | (refine step_append_own rfl (.tmp 31) (.tmp 37) 27 rfl (B + 1) 3 i0 (.int .i64 0) 1 8 under_is hi hz0 hz1 hz2 rfl (by decide) (.slice (some ⟨g, 0, none⟩) j c) j (cellsI (l.take j)) (by simp [Act.eval, Act.put]) (ownsRow_below HFR.out HB1.out (Nat.le_refl _)) ⟨gg, 0, none⟩ (1 + (l.length - j)) c1 ([.int .i64 n] ++ cellsI (l.drop j)) (by simp [Act.eval, Act.put]) (by simp [cellsI_length]; omega) (World.ownsRow.cells o1 rfl) (by intro u hu; rcases List.mem_append.1 hu with hu | hu; (simp at hu; subst hu; rfl); exact oneCell_cellsI _ u hu) (by unfold maxLen; omega) (by omega) (by omega) ?_; intro v2 w2 o2 g2 _; obtain ⟨g3, c3, rfl, hg31, hg32⟩ := own_form o2 (by omega); have hb2 : Below (B + 1) w w2 := (HB1.out.mono (by omega)).grown g2 (by omega) (fun k hk => by simp [Value.ownBlock] at hk; omega); have hvB := (hb2.cell (p := ⟨B, 0, none⟩) (Nat.lt_succ_self _)).trans hv; have hfB := (hb2.frozen (p := ⟨B, 0, none⟩) (Nat.lt_succ_self _)).trans hf; have HB2 := Lib.hid hb2; have HF2 : Hid (∀ k, k < w.heap.size → k ≠ g → w2.heap[k]? = w.heap[k]?) := (fun k hk hne => (g2.block k (by omega) (by simp [Value.ownBlock]; exact hne)).trans (HB1.out.block k hk)); clear hb2 g2))
            all_goals go_wp2
            all_goals go_end0
            all_goals exact edge_end HI.out hn1 hn2 hj hhi.out (.inr ⟨x, HX.out, hge⟩) hB hf o2 HB2.out hvB (fun k hk hne => HF2.out k hk (fun e => hne (by rw [e]; rfl)))
        · have hj1 : decide (0 < j) = false := decide_eq_false hj0
          go_wp2_with fail
          have e1 : (0 : Int) ≤ j := by omega
          have e2 : (j : Int) ≤ c := by omega
          have e3 : (j : Int) ≤ l.length := by omega
          obtain ⟨AD, hAD, hADb, hAN⟩ := cut_addr HO.out hg3 j
          have HAN := Lib.hid hAN
          have HADb := Lib.hid hADb
          have HFR := Lib.hid (HO.out.front hj)
          clear hAN hADb
          obtain ⟨i0, hi, hz0, hz1, hz2⟩ := info_parts infoInt
          go_region_law (first
            | (refine step_append_own rfl (.tmp 33) (.tmp 36) 27 rfl (B + 1) 3 i0 (.int .i64 0) 1 8 under_is hi hz0 hz1 hz2 rfl (by decide) (.slice (some ⟨w.heap.size, 0, none⟩) 1 1) 1 [.int .i64 n] (by simp [Act.eval, Act.put]) (by exact World.ownsRow_lit w #[.int .i64 n] 1 (by omega) (by unfold maxLen; omega) rfl) AD (l.length - j) (c - j) (cellsI (l.drop j)) (by simp [Act.eval, Act.put]) (by rw [cellsI_length, List.length_drop, Nat.mul_one]) (by intro i u hu; exact (World.cell?_alloc_lt w _ _ (by rw [show (AD.add i).block = AD.block from by unfold Addr.add; split <;> rfl, HADb.out]; exact hg2)).trans (HAN.out i u hu)) (oneCell_cellsI _) (by unfold maxLen; omega) (by omega) (by simp; omega) ?_; intro v1 w1 o1 g1 _; obtain ⟨gg, c1, rfl, hgg1, hgg2⟩ := own_form o1 (by omega); have hb1 : Below w.heap.size w w1 := ((Below.refl _ w).alloc (Nat.le_refl _) _).drew.grown g1 (by simp) (fun k hk => by simp [Value.ownBlock] at hk; omega); have HB1 := Lib.hid hb1; have hs1 := hb1.size; have hvB1 := (hb1.cell (p := ⟨B, 0, none⟩) hB).trans hv; clear hb1 g1)
            | (refine step_append_own rfl (.tmp 31) (.tmp 37) 27 rfl (B + 1) 3 i0 (.int .i64 0) 1 8 under_is hi hz0 hz1 hz2 rfl (by decide) (.slice (some ⟨g, 0, none⟩) j c) j (cellsI (l.take j)) (by simp [Act.eval, Act.put]) (ownsRow_below HFR.out HB1.out (Nat.le_refl _)) ⟨gg, 0, none⟩ (1 + (l.length - j)) c1 ([.int .i64 n] ++ cellsI (l.drop j)) (by simp [Act.eval, Act.put]) (by simp [cellsI_length]; omega) (World.ownsRow.cells o1 rfl) (by intro u hu; rcases List.mem_append.1 hu with hu | hu; (simp at hu; subst hu; rfl); exact oneCell_cellsI _ u hu) (by unfold maxLen; omega) (by omega) (by omega) ?_; intro v2 w2 o2 g2 _; obtain ⟨g3, c3, rfl, hg31, hg32⟩ := own_form o2 (by omega); have hb2 : Below (B + 1) w w2 := (HB1.out.mono (by omega)).grown g2 (by omega) (fun k hk => by simp [Value.ownBlock] at hk; omega); have hvB := (hb2.cell (p := ⟨B, 0, none⟩) (Nat.lt_succ_self _)).trans hv; have hfB := (hb2.frozen (p := ⟨B, 0, none⟩) (Nat.lt_succ_self _)).trans hf; have HB2 := Lib.hid hb2; have HF2 : Hid (∀ k, k < w.heap.size → k ≠ g → w2.heap[k]? = w.heap[k]?) := (fun k hk hne => (g2.block k (by omega) (by simp [Value.ownBlock]; exact hne)).trans (HB1.out.block k hk)); clear hb2 g2))
          all_goals go_wp2
          all_goals go_end0
          all_goals exact edge_end HI.out hn1 hn2 hj hhi.out (.inl (by omega)) hB hf o2 HB2.out hvB (fun k hk hne => HF2.out k hk (fun e => hne (by rw [e]; rfl)))
  · have HN := Lib.hid (numB_false hn)
    clear ho hinc
    go_enter Tryz.func134, Tryz.ntmps134
    go_wp2_with fail
    refine (ref_isNumber n _).mono ?_
    rintro e w1 ⟨rfl, rfl⟩
    rw [HN.out]
    go_wp2
    go_end0
    exact ⟨rfl, _, l, ⟨hB, HV.out, HO.out, hf, HI.out⟩, ins_out HI.out hn, Below.refl _ _, fun _ _ _ _ => rfl⟩

end Go.Proofs.YtmdljknlbmlacabGreatDoor
namespace Go.Proofs.YtmdljknlbmlacabGreatDoor
open Go.RowKit

/-- no upper end lies below the least int -/
def loIn (l : List (Int × Int)) : Prop := ∀ r, r ∈ l → -9223372036854775808 ≤ r.2
/-- an increasing list with just the edges of these sets, in new memory -/
def EdgesPost (sets : List (List (Int × Int))) (w : World) (e : Ending) (w' : World) : Prop :=
  ∃ v l, e = .returned v ∧ OwnI w' w.heap.size 3 v l ∧ Incr l ∧ (∀ x, x ∈ l ↔ EdgeOf sets x) ∧ Below w.heap.size w w'
theorem OwnI.mono {w : World} {base base' e : Nat} {v : Value} {l : List Int} (h : OwnI w base e v l) (hB : base' ≤ base) : OwnI w base' e v l := by
  refine ⟨h.1, ?_⟩
  rcases h.2 with h2 | ⟨g, cap, cur, h1, h2, h3⟩
  · exact .inl h2
  · exact .inr ⟨g, cap, cur, h1, Nat.le_trans hB h2, h3⟩
theorem Only.cell {B : Nat} {v u : Value} {w w' : World} (h : Only B v w w') {p : Addr} (hc : w.cell? p = some u) (hB : p.block ≠ B) (hv : v.ownBlock ≠ some p.block) : w'.cell? p = some u :=
  (World.cell?_of_block (h p.block (World.block_lt_of_cell? w p hc) hB hv)).trans hc
theorem Box1.alloc {w : World} {B : Nat} {v : Value} {l : List Int} (h : Box1 w B v l) (o : Obj) : Box1 (w.alloc o) B v l :=
  ⟨by have := h.lt; simp; omega, (World.cell?_alloc_lt w o _ h.lt).trans h.cell, h.own.alloc o, by
    have := (((Below.refl w.heap.size w).alloc (Nat.le_refl _) o).frozen (p := ⟨B, 0, none⟩) h.lt); rw [this]; exact h.fz, h.inc⟩

set_option maxHeartbeats 1000000 in
theorem ref_edges (sets : List (List (Int × Int))) (v : Value) (w : World) (h : Sl Enc.rng.slice w (Old w) sets v) (hwf : ∀ s, s ∈ sets → loIn s) :
    Calls Tryz.prog 95 #[v] w (EdgesPost sets w) := by
  have H := Lib.hid h
  have HW := Lib.hid hwf
  clear hwf
  obtain ⟨A, c, rfl, hc1, hc2, -⟩ := h
  unfold maxLen at hc2
  go_enter Tryz.func95, Tryz.ntmps95
  go_wp2_with fail
  refine (ref_edge w.heap.size (.slice none 0 0) _ [] _ ⟨by simp, by simp, OwnI.nil, by simp, Incr.nil⟩).mono ?_
  rintro e w1 ⟨rfl, v1, l1, hB1, hI1, hb1, -⟩
  have hb1' : Below w.heap.size w w1 := ((Below.refl _ _).alloc (Nat.le_refl _) _).trans hb1
  have HM1 : Hid (∀ x, x ∈ l1 ↔ EdgeOf (sets.take 0) x) := by
    intro x
    rw [hI1.2]
    simp only [EdgeOf, List.take_zero, List.not_mem_nil, false_and, exists_false, or_false, false_or]
    constructor
    · intro h; exact h.1
    · intro h; exact ⟨h, by omega, by omega⟩
  have HB1 := Lib.hid hB1
  clear hB1 hI1 hb1
  go_wp2
  go_loopw [14] (fun i wr => ∃ (k : Nat) (u : Value) (l : List Int), k ≤ sets.length ∧ i = .int .i64 k ∧ Hid (Box1 wr w.heap.size u l) ∧ Hid (∀ x, x ∈ l ↔ EdgeOf (sets.take k) x) ∧ Below w.heap.size w wr) (fun i _ => sets.length - (intOf i).toNat)
  case atStart => exact ⟨0, v1, l1, Nat.zero_le _, rfl, HB1, HM1, hb1'⟩
  case round =>
    clear HB1 HM1 hb1'
    rename World => wo
    obtain ⟨k, u, l, hk, rfl, HB, HM, hbl⟩ := hrel
    by_cases hlt : k < sets.length
    · obtain ⟨b, o, s, us, rfl, hbS, hs, h1, h2⟩ := (H.out.below (fun _ h => h) hbl).sl_at hlt
      have HS := Lib.hid h2
      obtain ⟨As, cs, rfl, hs1, hs2, -⟩ := h2
      unfold maxLen at hs2
      go_wp2
      go_loopw [20] (fun i wr => ∃ (j : Nat) (u : Value) (l : List Int), j ≤ s.length ∧ i = .int .i64 j ∧ Hid (Box1 wr w.heap.size u l) ∧ Hid (∀ x, x ∈ l ↔ EdgeOf (sets.take k) x ∨ EdgeIn (s.take j) x) ∧ Below w.heap.size wo wr) (fun i _ => s.length - (intOf i).toNat)
      case atStart =>
        refine ⟨0, u, l, Nat.zero_le _, rfl, HB, fun x => ?_, Below.refl _ _⟩
        rw [HM.out x]
        simp [EdgeIn]
      case round =>
        clear HB HM
        rename World => wi
        obtain ⟨j, u, l, hj, rfl, HB, HM, hbi⟩ := hrel
        have hsz : w.heap.size ≤ wi.heap.size := Nat.le_of_lt HB.out.lt
        by_cases hjs : j < s.length
        · obtain ⟨br, or, x, y, rfl, hbr, hx, r1, r2⟩ := (HS.out.below (fun _ h => h) hbi).rng_at hjs
          have HP := Lib.hid (edgeIn_at hx.out)
          have hy0 : -9223372036854775808 ≤ y := HW.out s (List.mem_of_getElem? hs.out) (x, y) (List.mem_of_getElem? hx.out)
          go_wp2_with fail
          refine (ref_edge w.heap.size u x l _ (HB.out.alloc _)).mono ?_
          rintro e w2 ⟨rfl, u2, l2, hB2, hI2, hb2, hO2⟩
          have hne : u.ownBlock ≠ some wi.heap.size := fun e => by have := HB.out.own.lt _ e; omega
          have q1 := hO2.cell (p := ⟨wi.heap.size, 1, none⟩) (u := .int .i64 y) (by simp) (by have := HB.out.lt; simp; omega) hne
          have hb2' : Below w.heap.size wo w2 := (hbi.alloc hsz _).trans hb2
          have HB2 := Lib.hid hB2
          have HI2 := Lib.hid hI2
          clear hB2 hI2 hO2 hb2
          by_cases hy : y < 1000000
          · go_wp2_with fail
            refine (ref_edge w.heap.size u2 (y + 1) l2 _ HB2.out).mono ?_
            rintro e w3 ⟨rfl, u3, l3, hB3, hI3, hb3, -⟩
            have HB3 := Lib.hid hB3
            have HI3 := Lib.hid hI3
            have hb3' : Below w.heap.size wo w3 := hb2'.trans hb3
            clear hB3 hI3 hb3
            go_wp2
            refine ⟨⟨j + 1, u3, l3, by omega, by go_num, HB3, fun z => ?_, hb3'⟩, by simp [intOf]; omega⟩
            rw [HI3.out.2 z, HI2.out.2 z, HM.out z, HP.out z]
            constructor
            · rintro (((h | h) | h) | h)
              · exact .inl h
              · exact .inr (.inl h)
              · exact .inr (.inr ⟨by omega, .inl h.1⟩)
              · exact .inr (.inr ⟨by omega, .inr ⟨hy, h.1⟩⟩)
            · rintro (h | h | ⟨h, h' | h'⟩)
              · exact .inl (.inl (.inl h))
              · exact .inl (.inl (.inr h))
              · exact .inl (.inr ⟨h', by omega, by omega⟩)
              · exact .inr ⟨h'.2, by omega, by omega⟩
          · go_wp2
            refine ⟨⟨j + 1, u2, l2, by omega, by go_num, HB2, fun z => ?_, hb2'⟩, by simp [intOf]; omega⟩
            rw [HI2.out.2 z, HM.out z, HP.out z]
            constructor
            · rintro ((h | h) | h)
              · exact .inl h
              · exact .inr (.inl h)
              · exact .inr (.inr ⟨by omega, .inl h.1⟩)
            · rintro (h | h | ⟨h, h' | h'⟩)
              · exact .inl (.inl h)
              · exact .inl (.inr h)
              · exact .inr ⟨h', by omega, by omega⟩
              · omega
        · go_wp2
          refine ⟨⟨k + 1, u, l, by omega, by go_num, HB, fun x => ?_, hbl.trans hbi⟩, by simp [intOf]; omega⟩
          have et : s.take j = s := List.take_of_length_le (by omega)
          rw [HM.out x, edgeOf_at hs.out, et]
    · have hcell := HB.out.cell
      go_wp2
      go_ret
      exact ⟨u, l, rfl, HB.out.own.mono (Nat.le_succ _), HB.out.inc, fun x => by rw [HM.out x, List.take_of_length_le (by omega)], hbl⟩

end Go.Proofs.YtmdljknlbmlacabGreatDoor
namespace Go.Proofs.YtmdljknlbmlacabGreatDoor
open Go.RowKit

/-- a slice of numbers -/
theorem Sl.int_at {w : World} {S : Nat → Prop} {l : List Int} {A : Option Addr} {n c : Nat} (h : Sl Enc.int w S l (.slice A n c)) {k : Nat} (hk : k < l.length) :
    ∃ b o x, A = some ⟨b, o, none⟩ ∧ S b ∧ Hid (l[k]? = some x) ∧ w.cell? ⟨b, o + k, none⟩ = some (.int .i64 x) := by
  obtain ⟨A, c, e, h2, h3, _, h4⟩ := h
  injection e with e1 e2 e3
  subst e1 e2 e3
  obtain ⟨b, o, rfl, h6, h7⟩ := h4 (by omega)
  obtain ⟨cs, h8, h9⟩ := h7 k l[k] (List.getElem?_eq_getElem hk)
  have h8' : cs = [.int .i64 l[k]] := h8
  subst h8'
  refine ⟨b, o, l[k], rfl, h6, List.getElem?_eq_getElem hk, ?_⟩
  have := h9 0 _ rfl
  have es : Enc.int.size = 1 := rfl
  rw [es, Nat.mul_one, Nat.add_zero] at this
  exact this
theorem OwnI.sl {w : World} {base e : Nat} {v : Value} {l : List Int} (h : OwnI w base e v l) : Sl Enc.int w (fun k => base ≤ k ∧ k < w.heap.size) l v := by
  rcases h.form with ⟨rfl, rfl⟩ | ⟨g, c, rfl, h2, h3, h4, h5⟩
  · exact Sl.nil
  · refine ⟨_, c, rfl, h4, h5, (fun h => by cases h), fun _ => ⟨g, 0, rfl, ⟨h2, h3⟩, fun i x hx => ⟨_, rfl, fun j u hu => ?_⟩⟩⟩
    have es : Enc.int.size = 1 := rfl
    rw [es, Nat.zero_add, Nat.mul_one]
    match j with
    | 0 => simp at hu; subst hu; exact h.at_ hx
    | j + 1 => simp at hu
theorem OwnI.slOld {w : World} {base e : Nat} {v : Value} {l : List Int} (h : OwnI w base e v l) : Sl Enc.int w (Old w) l v := h.sl.more fun _ hk => hk.2

end Go.Proofs.YtmdljknlbmlacabGreatDoor
