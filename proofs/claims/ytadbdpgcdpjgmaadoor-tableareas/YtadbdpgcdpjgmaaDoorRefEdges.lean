/- ratebookref.edges: all numbers at which a set may begin, increasing, in a new row. Condition: the argument reads as a list of lists of pairs in old memory. -/
import Derived.Test.YtadbdpgcdpjgmaaDoorRefEdge
namespace Go.Proofs.YtadbdpgcdpjgmaaDoor
open Go.RowKit

/-- no upper end lies below the least int -/
def loIn (l : List (Int × Int)) : Prop := ∀ r, r ∈ l → -9223372036854775808 ≤ r.2
/-- an increasing list with just the edges of these sets, in new memory -/
def EdgesPost (sets : List (List (Int × Int))) (w : World) (e : Ending) (w' : World) : Prop :=
  ∃ v l, e = .returned v ∧ OwnI w' w.heap.size 3 v l ∧ Incr l ∧ (∀ x, x ∈ l ↔ EdgeOf sets x) ∧ Below w.heap.size w w'
theorem OwnI.mono {w : World} {base base' e : Nat} {v : Value} {l : List Int} (h : OwnI w base e v l) (hB : base' ≤ base) : OwnI w base' e v l := by
  refine ⟨h.1, ?_⟩
  rcases h.2 with h2 | ⟨g, cap, cur, h1, h2, h3⟩
  · exact .inl h2
  · exact .inr ⟨g, cap, cur, h1, Nat.le_trans hB h2, h3⟩
theorem Only.cell {B : Nat} {v u : Value} {w w' : World} (h : Only B v w w') {p : Addr} (hc : w.cell? p = some u) (hB : p.block ≠ B) (hv : v.ownBlock ≠ some p.block) : w'.cell? p = some u :=
  (World.cell?_of_block (h p.block (World.block_lt_of_cell? w p hc) hB hv)).trans hc
theorem Box1.alloc {w : World} {B : Nat} {v : Value} {l : List Int} (h : Box1 w B v l) (o : Obj) : Box1 (w.alloc o) B v l :=
  ⟨by have := h.lt; simp; omega, (World.cell?_alloc_lt w o _ h.lt).trans h.cell, h.own.alloc o, by
    have := (((Below.refl w.heap.size w).alloc (Nat.le_refl _) o).frozen (p := ⟨B, 0, none⟩) h.lt); rw [this]; exact h.fz, h.inc⟩

set_option maxHeartbeats 1000000 in
theorem ref_edges (sets : List (List (Int × Int))) (v : Value) (w : World) (h : Sl Enc.rng.slice w (Old w) sets v) (hwf : ∀ s, s ∈ sets → loIn s) :
    Calls Tryd.prog 43 #[v] w (EdgesPost sets w) := by
  have H := Lib.hid h
  have HW := Lib.hid hwf
  clear hwf
  obtain ⟨A, c, rfl, hc1, hc2, -⟩ := h
  unfold maxLen at hc2
  go_enter Tryd.func43, Tryd.ntmps43
  go_wp2_with fail
  refine (ref_edge w.heap.size (.slice none 0 0) _ [] _ ⟨by simp, by simp, OwnI.nil, by simp, Incr.nil⟩).mono ?_
  rintro e w1 ⟨rfl, v1, l1, hB1, hI1, hb1, -⟩
  have hb1' : Below w.heap.size w w1 := ((Below.refl _ _).alloc (Nat.le_refl _) _).trans hb1
  have HM1 : Hid (∀ x, x ∈ l1 ↔ EdgeOf (sets.take 0) x) := by
    intro x
    rw [hI1.2]
    simp only [EdgeOf, List.take_zero, List.not_mem_nil, false_and, exists_false, or_false, false_or]
    constructor
    · intro h; exact h.1
    · intro h; exact ⟨h, by omega, by omega⟩
  have HB1 := Lib.hid hB1
  clear hB1 hI1 hb1
  go_wp2
  go_loopw [14] (fun i wr => ∃ (k : Nat) (u : Value) (l : List Int), k ≤ sets.length ∧ i = .int .i64 k ∧ Hid (Box1 wr w.heap.size u l) ∧ Hid (∀ x, x ∈ l ↔ EdgeOf (sets.take k) x) ∧ Below w.heap.size w wr) (fun i _ => sets.length - (intOf i).toNat)
  case atStart => exact ⟨0, v1, l1, Nat.zero_le _, rfl, HB1, HM1, hb1'⟩
  case round =>
    clear HB1 HM1 hb1'
    rename World => wo
    obtain ⟨k, u, l, hk, rfl, HB, HM, hbl⟩ := hrel
    by_cases hlt : k < sets.length
    · obtain ⟨b, o, s, us, rfl, hbS, hs, h1, h2⟩ := (H.out.below (fun _ h => h) hbl).sl_at hlt
      have HS := Lib.hid h2
      obtain ⟨As, cs, rfl, hs1, hs2, -⟩ := h2
      unfold maxLen at hs2
      go_wp2
      go_loopw [20] (fun i wr => ∃ (j : Nat) (u : Value) (l : List Int), j ≤ s.length ∧ i = .int .i64 j ∧ Hid (Box1 wr w.heap.size u l) ∧ Hid (∀ x, x ∈ l ↔ EdgeOf (sets.take k) x ∨ EdgeIn (s.take j) x) ∧ Below w.heap.size wo wr) (fun i _ => s.length - (intOf i).toNat)
      case atStart =>
        refine ⟨0, u, l, Nat.zero_le _, rfl, HB, fun x => ?_, Below.refl _ _⟩
        rw [HM.out x]
        simp [EdgeIn]
      case round =>
        clear HB HM
        rename World => wi
        obtain ⟨j, u, l, hj, rfl, HB, HM, hbi⟩ := hrel
        have hsz : w.heap.size ≤ wi.heap.size := Nat.le_of_lt HB.out.lt
        by_cases hjs : j < s.length
        · obtain ⟨br, or, x, y, rfl, hbr, hx, r1, r2⟩ := (HS.out.below (fun _ h => h) hbi).rng_at hjs
          have HP := Lib.hid (edgeIn_at hx.out)
          have hy0 : -9223372036854775808 ≤ y := HW.out s (List.mem_of_getElem? hs.out) (x, y) (List.mem_of_getElem? hx.out)
          go_wp2_with fail
          refine (ref_edge w.heap.size u x l _ (HB.out.alloc _)).mono ?_
          rintro e w2 ⟨rfl, u2, l2, hB2, hI2, hb2, hO2⟩
          have hne : u.ownBlock ≠ some wi.heap.size := fun e => by have := HB.out.own.lt _ e; omega
          have q1 := hO2.cell (p := ⟨wi.heap.size, 1, none⟩) (u := .int .i64 y) (by simp) (by have := HB.out.lt; simp; omega) hne
          have hb2' : Below w.heap.size wo w2 := (hbi.alloc hsz _).trans hb2
          have HB2 := Lib.hid hB2
          have HI2 := Lib.hid hI2
          clear hB2 hI2 hO2 hb2
          by_cases hy : y < 1000000
          · go_wp2_with fail
            refine (ref_edge w.heap.size u2 (y + 1) l2 _ HB2.out).mono ?_
            rintro e w3 ⟨rfl, u3, l3, hB3, hI3, hb3, -⟩
            have HB3 := Lib.hid hB3
            have HI3 := Lib.hid hI3
            have hb3' : Below w.heap.size wo w3 := hb2'.trans hb3
            clear hB3 hI3 hb3
            go_wp2
            refine ⟨⟨j + 1, u3, l3, by omega, by go_num, HB3, fun z => ?_, hb3'⟩, by simp [intOf]; omega⟩
            rw [HI3.out.2 z, HI2.out.2 z, HM.out z, HP.out z]
            constructor
            · rintro (((h | h) | h) | h)
              · exact .inl h
              · exact .inr (.inl h)
              · exact .inr (.inr ⟨by omega, .inl h.1⟩)
              · exact .inr (.inr ⟨by omega, .inr ⟨hy, h.1⟩⟩)
            · rintro (h | h | ⟨h, h' | h'⟩)
              · exact .inl (.inl (.inl h))
              · exact .inl (.inl (.inr h))
              · exact .inl (.inr ⟨h', by omega, by omega⟩)
              · exact .inr ⟨h'.2, by omega, by omega⟩
          · go_wp2
            refine ⟨⟨j + 1, u2, l2, by omega, by go_num, HB2, fun z => ?_, hb2'⟩, by simp [intOf]; omega⟩
            rw [HI2.out.2 z, HM.out z, HP.out z]
            constructor
            · rintro ((h | h) | h)
              · exact .inl h
              · exact .inr (.inl h)
              · exact .inr (.inr ⟨by omega, .inl h.1⟩)
            · rintro (h | h | ⟨h, h' | h'⟩)
              · exact .inl (.inl h)
              · exact .inl (.inr h)
              · exact .inr ⟨h', by omega, by omega⟩
              · omega
        · go_wp2
          refine ⟨⟨k + 1, u, l, by omega, by go_num, HB, fun x => ?_, hbl.trans hbi⟩, by simp [intOf]; omega⟩
          have et : s.take j = s := List.take_of_length_le (by omega)
          rw [HM.out x, edgeOf_at hs.out, et]
    · have hcell := HB.out.cell
      go_wp2
      go_ret
      exact ⟨u, l, rfl, HB.out.own.mono (Nat.le_succ _), HB.out.inc, fun x => by rw [HM.out x, List.take_of_length_le (by omega)], hbl⟩

end Go.Proofs.YtadbdpgcdpjgmaaDoor
