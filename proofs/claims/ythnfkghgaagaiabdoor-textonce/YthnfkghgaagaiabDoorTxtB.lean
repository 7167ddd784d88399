/- The parser's methods number, oneRange and ranges, each as a Lean function of the state that the receiver reads as. Conditions: the receiver is a parser in memory; the text has at most 2000 bytes; the package variables that strconv and the policies read are as their initialisers lay them. -/
import Derived.Test.YthnfkghgaagaiabDoorTxtA
import Derived.Shelf.Strconv.AtoiAll
import Derived.Shelf.Strconv.ErrVarAll
import Derived.Shelf.Strconv.Itoa3
import Derived.Lib.AtoiErrMem
import Derived.Lib.AppendIntMem
import Derived.Lib.AtoiAllCases
namespace Go.Proofs.YthnfkghgaagaiabDoor
open Go.RowKit Go.Shelf

def varNames : List String := ["internal/strconv.uint64pow10", "strconv.ErrSyntax", "strconv.ErrRange", "ratebook/text.policies"]
/-- a block behind those of the variables -/
def AboveVars (g : Nat) : Prop := ∀ n ∈ varNames, ∀ k, Tryd.prog.globalNamed n = some k → k < g
/-- what the package variables hold -/
structure VarsOk (w : World) : Prop where
  tab : Lib.TabIs Tryd.prog w "internal/strconv.uint64pow10" .u64 Lib.pow10Tab
  syn : ∃ tp a, w.var? Tryd.prog "strconv.ErrSyntax" = some #[.iface tp a]
  rng : ∃ tp a, w.var? Tryd.prog "strconv.ErrRange" = some #[.iface tp a]
  pol : w.var? Tryd.prog "ratebook/text.policies" = some ((([] :: polW).map fun l => Value.string (bs l)).toArray)
theorem var_block {P : Program} {w w' : World} {n : String} (hb : ∀ k, P.globalNamed n = some k → w'.heap[k]? = w.heap[k]?) : w'.var? P n = w.var? P n := by
  unfold World.var?
  cases h : P.globalNamed n with
  | none => rfl
  | some k => simp only [Option.bind_some, hb k h]
theorem var_lt {P : Program} {w : World} {n : String} {cs : Array Value} (h : w.var? P n = some cs) : ∀ k, P.globalNamed n = some k → k < w.heap.size := by
  intro k hk
  unfold World.var? at h
  rw [hk] at h
  simp only [Option.bind_some] at h
  rcases Nat.lt_or_ge k w.heap.size with hlt | hge
  · exact hlt
  · rw [Array.getElem?_eq_none hge] at h
    simp at h
theorem VarsOk.keep {w w' : World} {g : Nat} (h : VarsOk w) (ha : AboveVars g) (hk : ∀ k, k < g → w'.heap[k]? = w.heap[k]?) : VarsOk w' := by
  have e : ∀ n ∈ varNames, w'.var? Tryd.prog n = w.var? Tryd.prog n := fun n hn => var_block fun k hk' => hk k (ha n hn k hk')
  obtain ⟨h1, h2, h3, h4⟩ := h
  refine ⟨?_, ?_, ?_, ?_⟩
  · unfold Lib.TabIs at h1 ⊢
    rw [e _ (by simp [varNames])]; exact h1
  · rw [e _ (by simp [varNames])]; exact h2
  · rw [e _ (by simp [varNames])]; exact h3
  · rw [e _ (by simp [varNames])]; exact h4
theorem VarsOk.above {w : World} (h : VarsOk w) : AboveVars w.heap.size := by
  intro n hn k hk
  simp only [varNames, List.mem_cons, List.not_mem_nil, or_false] at hn
  obtain ⟨h1, ⟨_, _, h2⟩, ⟨_, _, h3⟩, h4⟩ := h
  rcases hn with rfl | rfl | rfl | rfl
  · exact var_lt h1 k hk
  · exact var_lt h2 k hk
  · exact var_lt h3 k hk
  · exact var_lt h4 k hk
theorem AboveVars.mono {g g' : Nat} (h : AboveVars g) (hg : g ≤ g') : AboveVars g' := fun n hn k hk => Nat.lt_of_lt_of_le (h n hn k hk) hg
theorem VarsOk.next {w w' : World} (h : VarsOk w) (hb : Below w.heap.size w w') : VarsOk w' := h.keep h.above fun k hk => hb.block k hk

/-- a parser, and what it needs of the package variables -/
def PX (w : World) (g : Nat) (p : PS) : Prop := PA w g p ∧ VarsOk w ∧ AboveVars g
theorem PX.grown {w w' : World} {g : Nat} {p p' : PS} (h : PX w g p) (h' : PA w' g p') (hg : w.grownBy w' (some g)) : PX w' g p' :=
  ⟨h', h.2.1.keep h.2.2 fun k hk => hg.block k (Nat.lt_trans hk h.1.1) (by intro e; injection e with e; omega), h.2.2⟩
theorem PX.next {w w' : World} {g : Nat} {p : PS} (h : PX w g p) (hb : Below w.heap.size w w') : PX w' g p := h.grown (h.1.next hb) (grown_below hb)

theorem lib_Atoi_ok (l : Bs) (hl : l.length ≤ 2000) (v : Int) (h : Lib.atoiAll l = .ok v) (w : World) :
    Calls Tryd.prog 47 #[.string (bs l)] w fun e w' => e = .returned (.tuple #[.int .i64 v, .nilIface]) ∧ Below w.heap.size w w' := by
  refine (Any.strconv_Atoi_ok Tryd.atoi (bs l) (by rw [bs_size]; omega) v (by rw [bs_data]; exact h) w).mono ?_
  rintro e w' ⟨he, rfl | ⟨t, rfl⟩⟩
  · exact ⟨he, Below.refl _ _⟩
  · exact ⟨he, Lib.bytesWorld_below _ _ _⟩
theorem lib_Atoi_no (l : Bs) (hl : l.length ≤ 2000) (h : ∀ v, Lib.atoiAll l ≠ .ok v) (w : World) (hv : VarsOk w) :
    Calls Tryd.prog 47 #[.string (bs l)] w fun e w' => ∃ n t N, e = .returned (.tuple #[.int .i64 n, .iface t (.pointer (some ⟨N, 0, none⟩))]) ∧ Below w.heap.size w w' := by
  cases hc : Lib.atoiAll l with
  | ok v => exact absurd hc (h v)
  | range =>
    obtain ⟨tp, a, hs⟩ := hv.rng
    refine (Any.strconv_Atoi_range_var Tryd.atoi (bs l) (by rw [bs_size]; omega) (by rw [bs_data]; exact hc) tp a w hs).mono ?_
    rintro e w' ⟨N, he, _, _, hb⟩
    exact ⟨_, _, N, he, hb⟩
  | _ =>
    obtain ⟨tp, a, hs⟩ := hv.syn
    refine (Any.strconv_Atoi_syntax_var Tryd.atoi (bs l) (by rw [bs_size]; omega) (by rw [bs_data]; exact hc) tp a w hs).mono ?_
    rintro e w' ⟨N, he, _, _, hb⟩
    exact ⟨_, _, N, he, hb⟩
theorem lib_Itoa (n : Int) (h0 : -9223372036854775808 ≤ n) (h1 : n ≤ 9223372036854775807) (w : World) (hv : VarsOk w) :
    Calls Tryd.prog 26 #[.int .i64 n] w fun e w' => e = .returned (.string (bs (Lib.itoa n))) ∧ Below w.heap.size w w' := by
  refine (Any.strconv_Itoa Tryd.itoa n h0 h1 w hv.tab).mono ?_
  rintro e w' ⟨he, k, os, rfl⟩
  exact ⟨he, Lib.below_grow _ _ (Nat.le_refl _) _ _⟩

theorem numLen_le (l : Bs) : numLen l ≤ l.length := by
  unfold numLen
  split
  · rename_i h
    have h1 := (List.isPrefixOf_iff_prefix.1 h).length_le
    have h2 := (List.takeWhile_sublist digB (l := l.drop 1)).length_le
    simp only [List.length_drop, List.length_cons, List.length_nil] at h1 h2
    omega
  · exact (List.takeWhile_sublist digB (l := l)).length_le
/-- behind the digits -/
theorem numLen_at {l : Bs} {k n0 : Nat} (hn0 : n0 = if [45].isPrefixOf l then 1 else 0) (hk : n0 ≤ k) (h1 : ((l.drop n0).take (k - n0)).all digB = true) (h2 : l.length ≤ k ∨ ∃ b, l[k]? = some b ∧ digB b = false) (hkl : k ≤ l.length) : numLen l = k := by
  have := (while_at (f := digB) (l := l.drop n0) (k := k - n0) h1 (by
    rcases h2 with h2 | ⟨b, hb, hf⟩
    · left; rw [List.length_drop]; omega
    · right; exact ⟨b, by rw [List.getElem?_drop, show n0 + (k - n0) = k by omega]; exact hb, hf⟩)).1
  have hlen : ((l.drop n0).takeWhile digB).length = k - n0 := by
    rw [this, List.length_take, List.length_drop]; omega
  unfold numLen
  by_cases hp : [45].isPrefixOf l = true
  · rw [if_pos hp] at hn0 ⊢
    subst hn0
    rw [hlen]; omega
  · rw [if_neg hp] at hn0 ⊢
    subst hn0
    rw [List.drop_zero] at hlen
    rw [hlen]; omega

theorem num_cases (s : Bs) : (∃ v, Lib.atoiAll s = .ok v ∧ Lib.itoa v = s ∧ numV s = some v) ∨ (∃ v, Lib.atoiAll s = .ok v ∧ Lib.itoa v ≠ s ∧ numV s = none) ∨ ((∀ v, Lib.atoiAll s ≠ .ok v) ∧ numV s = none) := by
  cases h : Lib.atoiAll s with
  | ok v =>
    by_cases hv : Lib.itoa v = s
    · exact .inl ⟨v, rfl, hv, by unfold numV; rw [h]; simp only [hv, if_true]⟩
    · exact .inr (.inl ⟨v, rfl, hv, by unfold numV; rw [h]; simp only [hv, if_false]⟩)
  | range => exact .inr (.inr ⟨(fun v hv => by cases hv), by unfold numV; rw [h]⟩)
  | _ => exact .inr (.inr ⟨(fun v hv => by cases hv), by unfold numV; rw [h]⟩)
theorem num_is (r : Bs) (b : Bool) (k : Nat) (h : Hid (numLen (skipL r) = k)) :
    Hid ((∀ v, numV ((skipL r).take k) = some v → numberP ⟨r, b⟩ = (v, ⟨(skipL r).drop k, b⟩)) ∧ (numV ((skipL r).take k) = none → numberP ⟨r, b⟩ = (0, ⟨(skipL r).drop k, true⟩))) := by
  have h := h.out
  subst h
  refine ⟨fun v hv => ?_, fun hv => ?_⟩ <;> (unfold numberP; simp only [hv])
theorem drop_take_all {l : Bs} {k n0 : Nat} {b : UInt8} (hk : n0 ≤ k) (h : ((l.drop n0).take (k - n0)).all digB = true) (hb : l[k]? = some b) (hf : digB b = true) : ((l.drop n0).take (k + 1 - n0)).all digB = true := by
  rw [show k + 1 - n0 = k - n0 + 1 by omega]
  exact take_all h (by rw [List.getElem?_drop, show n0 + (k - n0) = k by omega]; exact hb) hf

set_option maxRecDepth 100000 in
set_option maxHeartbeats 4000000 in
theorem p_number (p : PS) (g : Nat) (w : World) (h : PX w g p) (hs : p.rest.length ≤ 2000) :
    Calls Tryd.prog 32 #[.pointer (some ⟨g, 0, none⟩)] w fun e w' => e = .returned (.int .i64 (numberP p).1) ∧ PA w' g (numberP p).2 ∧ w.grownBy w' (some g) := by
  have hlen := skip_len p.rest
  obtain ⟨r, b⟩ := p
  have H := Lib.hid h
  simp only at hs hlen
  have HN0 := num_is r b
  obtain ⟨n0, hn0⟩ : ∃ n0 : Nat, n0 = if [45].isPrefixOf (skipL r) then 1 else 0 := ⟨_, rfl⟩
  have HN1 := Lib.hid hn0
  have hn1 : n0 ≤ (skipL r).length := by
    rw [hn0]
    split
    · rename_i h; exact (List.isPrefixOf_iff_prefix.1 h).length_le
    · omega
  have hq : [45].isPrefixOf (skipL r) = decide (n0 = 1) := by
    rw [hn0]; cases [45].isPrefixOf (skipL r) <;> rfl
  have hn01 : n0 = 0 ∨ n0 = 1 := by rw [hn0]; split <;> simp
  clear hn0
  have HQ := Lib.hid hq
  clear hq
  obtain ⟨R, hR⟩ : ∃ R, R = numberP ⟨r, b⟩ := ⟨_, rfl⟩
  have HR := Lib.hid hR
  clear hR
  go_enter Tryd.func32, Tryd.ntmps32
  go_wp2_with fail
  refine (p_skip ⟨r, b⟩ g _ H.out.1).mono ?_
  rintro e w1 ⟨rfl, h1, hb1⟩
  have H1 := Lib.hid (H.out.grown h1 hb1)
  have B1 := Lib.hid hb1
  obtain ⟨hg1, d0, d1, e0, e1⟩ := h1
  simp only at d0 d1
  clear hb1
  have hpre := lib_HasPrefix (skipL r) [45] w1
  rw [HQ.out] at hpre
  obtain ⟨S, hS⟩ : ∃ S, S = bs (skipL r) := ⟨_, rfl⟩
  have hsz : S.size = (skipL r).length := by rw [hS]; exact bs_size _
  rw [← hS] at d0 hpre
  have HS := Lib.hid hS
  clear hS
  have hszi : (S.size : Int) ≤ 2000 := by omega
  go_wp2_with fail
  refine hpre.mono ?_
  rintro e w2 ⟨rfl, rfl⟩
  clear hpre
  rcases hn01 with rfl | rfl
  · rw [decide_eq_false (show ¬ (0 : Nat) = 1 by decide)]
    go_wp2
    go_loopw [3] (fun i wr => ∃ k : Nat, 0 ≤ k ∧ k ≤ S.size ∧ i = .int .i64 k ∧ Hid ((((skipL r).drop 0).take (k - 0)).all digB = true) ∧ wr = w2) (fun i _ => S.size - (intOf i).toNat)
    case atStart => exact ⟨0, Nat.le_refl _, by omega, rfl, by show _ = true; simp, rfl⟩
    case round =>
      obtain ⟨k, hk0, hk, rfl, hf, rfl⟩ := hrel
      have hcut : (S.size ≤ k ∨ ∃ b, (skipL r)[k]? = some b ∧ digB b = false) → Hid (numLen (skipL r) = k) := fun hh => numLen_at HN1.out hk0 hf.out (by rcases hh with hh | hh; exact .inl (by omega); exact .inr hh) (by omega)
      by_cases hlt : k < S.size
      · have hlt' : (k : Int) < S.size := by omega
        have HX : Hid ((skipL r)[k]? = some (S[k])) := by
          have h1 := HS.out
          subst h1
          exact bs_at _ _ hlt
        by_cases h1 : S[k].toNat < 48
        · have h1' : (S[k].toNat : Int) < 48 := by omega
          have HL : Hid (digB S[k] = false) := by simp [digB, Hid]; omega
          have HC := hcut (.inr ⟨_, HX.out, HL.out⟩)
          clear hcut
          go_wp2_with fail
          refine (p_cut ⟨skipL r, b⟩ k g _ H1.out.1 (by simp only; omega) (by simp only; omega)).mono ?_
          rintro e w3 ⟨rfl, h3, hb3⟩
          have X3 := Lib.hid (H1.out.grown h3 hb3)
          have B3 := Lib.hid (World.grownBy.trans' B1.out hb3)
          clear h3 hb3
          have hs3 : ((skipL r).take k).length ≤ 2000 := by rw [List.length_take]; omega
          simp only at X3
          have HN := HN0 k HC
          clear HN0
          obtain ⟨D, hD⟩ : ∃ D, D = (skipL r).drop k := ⟨_, rfl⟩
          rw [← hD] at X3 HN
          generalize (skipL r).take k = s at hs3 X3 HN ⊢
          clear hD
          rcases num_cases s with ⟨v, ha, hv⟩ | ⟨v, ha, hv, hn⟩ | ⟨ha, hn⟩
          · have hnp := HN.out.1 v hv.2
            have HP := Lib.hid hnp
            clear HN hnp
            obtain ⟨hb0, hb1⟩ := Lib.atoiAll_bounds ha
            have hx : (bs (Lib.itoa v)).toList = (bs s).toList := by rw [hv.1]
            have hx2 : bs (Lib.itoa v) = bs s := by rw [hv.1]
            clear hv
            go_wp2_with fail
            refine (lib_Atoi_ok s hs3 v ha _).mono ?_
            rintro e w4 ⟨rfl, hb4⟩
            have X4 := Lib.hid (X3.out.next hb4)
            have B4 := Lib.hid (World.grownBy.trans' B3.out (grown_below hb4))
            clear hb4
            go_wp2_with fail
            refine (lib_Itoa v hb0 hb1 _ X4.out.2.1).mono ?_
            rintro e w5 ⟨rfl, hb5⟩
            rw [hx2]
            clear hx hx2
            have X5 := Lib.hid (X4.out.next hb5)
            have B5 := Lib.hid (World.grownBy.trans' B4.out (grown_below hb5))
            clear hb5
            go_wp2
            go_ret
            exact ⟨by rw [HP.out]; rfl, by rw [HP.out]; exact X5.out.1, B5.out⟩
          · have hnp := HN.out.2 hn
            have HP := Lib.hid hnp
            clear HN hnp
            obtain ⟨hb0, hb1⟩ := Lib.atoiAll_bounds ha
            have hx : ((bs (Lib.itoa v)).toList == (bs s).toList) = false := by rw [bs_toList, bs_toList]; exact beq_eq_false_iff_ne.2 hv
            have hx1 := bs_toList (Lib.itoa v)
            have hx2 := bs_toList s
            have hx3 : (Lib.itoa v == s) = false := beq_eq_false_iff_ne.2 hv
            go_wp2_with fail
            refine (lib_Atoi_ok s hs3 v ha _).mono ?_
            rintro e w4 ⟨rfl, hb4⟩
            have X4 := Lib.hid (X3.out.next hb4)
            have B4 := Lib.hid (World.grownBy.trans' B3.out (grown_below hb4))
            clear hb4
            go_wp2_with fail
            refine (lib_Itoa v hb0 hb1 _ X4.out.2.1).mono ?_
            rintro e w5 ⟨rfl, hb5⟩
            have X5 := Lib.hid (X4.out.next hb5)
            have B5 := Lib.hid (World.grownBy.trans' B4.out (grown_below hb5))
            clear hb5
            obtain ⟨⟨q0, q1, q2, q3, q4⟩, q5, q6⟩ := X5.out
            clear q5 q6
            go_wp2
            go_ret
            exact ⟨by rw [HP.out]; rfl, by rw [HP.out]; exact X5.out.1.set1 true, World.grownBy.trans' B5.out (grown_set ..)⟩
          · have hnp := HN.out.2 hn
            have HP := Lib.hid hnp
            clear HN hnp
            go_wp2_with fail
            refine (lib_Atoi_no s hs3 ha _ X3.out.2.1).mono ?_
            rintro e w4 ⟨n, ti, N, rfl, hb4⟩
            have X4 := Lib.hid (X3.out.next hb4)
            have B4 := Lib.hid (World.grownBy.trans' B3.out (grown_below hb4))
            clear hb4
            obtain ⟨⟨q0, q1, q2, q3, q4⟩, q5, q6⟩ := X4.out
            clear q5 q6
            go_wp2
            go_ret
            exact ⟨by rw [HP.out]; rfl, by rw [HP.out]; exact X4.out.1.set1 true, World.grownBy.trans' B4.out (grown_set ..)⟩
        · by_cases h2 : 57 < S[k].toNat
          · have h1' : 48 ≤ (S[k].toNat : Int) := by omega
            have h2' : 57 < (S[k].toNat : Int) := by omega
            have HL : Hid (digB S[k] = false) := by simp [digB, Hid]; omega
            have HC := hcut (.inr ⟨_, HX.out, HL.out⟩)
            clear hcut
            go_wp2_with fail
            refine (p_cut ⟨skipL r, b⟩ k g _ H1.out.1 (by simp only; omega) (by simp only; omega)).mono ?_
            rintro e w3 ⟨rfl, h3, hb3⟩
            have X3 := Lib.hid (H1.out.grown h3 hb3)
            have B3 := Lib.hid (World.grownBy.trans' B1.out hb3)
            clear h3 hb3
            have hs3 : ((skipL r).take k).length ≤ 2000 := by rw [List.length_take]; omega
            simp only at X3
            have HN := HN0 k HC
            clear HN0
            obtain ⟨D, hD⟩ : ∃ D, D = (skipL r).drop k := ⟨_, rfl⟩
            rw [← hD] at X3 HN
            generalize (skipL r).take k = s at hs3 X3 HN ⊢
            clear hD
            rcases num_cases s with ⟨v, ha, hv⟩ | ⟨v, ha, hv, hn⟩ | ⟨ha, hn⟩
            · have hnp := HN.out.1 v hv.2
              have HP := Lib.hid hnp
              clear HN hnp
              obtain ⟨hb0, hb1⟩ := Lib.atoiAll_bounds ha
              have hx : (bs (Lib.itoa v)).toList = (bs s).toList := by rw [hv.1]
              have hx2 : bs (Lib.itoa v) = bs s := by rw [hv.1]
              clear hv
              go_wp2_with fail
              refine (lib_Atoi_ok s hs3 v ha _).mono ?_
              rintro e w4 ⟨rfl, hb4⟩
              have X4 := Lib.hid (X3.out.next hb4)
              have B4 := Lib.hid (World.grownBy.trans' B3.out (grown_below hb4))
              clear hb4
              go_wp2_with fail
              refine (lib_Itoa v hb0 hb1 _ X4.out.2.1).mono ?_
              rintro e w5 ⟨rfl, hb5⟩
              rw [hx2]
              clear hx hx2
              have X5 := Lib.hid (X4.out.next hb5)
              have B5 := Lib.hid (World.grownBy.trans' B4.out (grown_below hb5))
              clear hb5
              go_wp2
              go_ret
              exact ⟨by rw [HP.out]; rfl, by rw [HP.out]; exact X5.out.1, B5.out⟩
            · have hnp := HN.out.2 hn
              have HP := Lib.hid hnp
              clear HN hnp
              obtain ⟨hb0, hb1⟩ := Lib.atoiAll_bounds ha
              have hx : ((bs (Lib.itoa v)).toList == (bs s).toList) = false := by rw [bs_toList, bs_toList]; exact beq_eq_false_iff_ne.2 hv
              have hx1 := bs_toList (Lib.itoa v)
              have hx2 := bs_toList s
              have hx3 : (Lib.itoa v == s) = false := beq_eq_false_iff_ne.2 hv
              go_wp2_with fail
              refine (lib_Atoi_ok s hs3 v ha _).mono ?_
              rintro e w4 ⟨rfl, hb4⟩
              have X4 := Lib.hid (X3.out.next hb4)
              have B4 := Lib.hid (World.grownBy.trans' B3.out (grown_below hb4))
              clear hb4
              go_wp2_with fail
              refine (lib_Itoa v hb0 hb1 _ X4.out.2.1).mono ?_
              rintro e w5 ⟨rfl, hb5⟩
              have X5 := Lib.hid (X4.out.next hb5)
              have B5 := Lib.hid (World.grownBy.trans' B4.out (grown_below hb5))
              clear hb5
              obtain ⟨⟨q0, q1, q2, q3, q4⟩, q5, q6⟩ := X5.out
              clear q5 q6
              go_wp2
              go_ret
              exact ⟨by rw [HP.out]; rfl, by rw [HP.out]; exact X5.out.1.set1 true, World.grownBy.trans' B5.out (grown_set ..)⟩
            · have hnp := HN.out.2 hn
              have HP := Lib.hid hnp
              clear HN hnp
              go_wp2_with fail
              refine (lib_Atoi_no s hs3 ha _ X3.out.2.1).mono ?_
              rintro e w4 ⟨n, ti, N, rfl, hb4⟩
              have X4 := Lib.hid (X3.out.next hb4)
              have B4 := Lib.hid (World.grownBy.trans' B3.out (grown_below hb4))
              clear hb4
              obtain ⟨⟨q0, q1, q2, q3, q4⟩, q5, q6⟩ := X4.out
              clear q5 q6
              go_wp2
              go_ret
              exact ⟨by rw [HP.out]; rfl, by rw [HP.out]; exact X4.out.1.set1 true, World.grownBy.trans' B4.out (grown_set ..)⟩
          · have h1' : 48 ≤ (S[k].toNat : Int) := by omega
            have h2' : (S[k].toNat : Int) ≤ 57 := by omega
            have HL : Hid (digB S[k] = true) := by simp [digB, Hid]; omega
            clear hcut
            go_wp2
            exact ⟨⟨k + 1, by omega, by omega, by go_num, drop_take_all hk0 hf.out HX.out HL.out, by first | trivial | rfl⟩, by simp [intOf]; omega⟩
      · have hge : (S.size : Int) ≤ k := by omega
        have HC := hcut (.inl (by omega))
        clear hcut
        go_wp2_with fail
        refine (p_cut ⟨skipL r, b⟩ k g _ H1.out.1 (by simp only; omega) (by simp only; omega)).mono ?_
        rintro e w3 ⟨rfl, h3, hb3⟩
        have X3 := Lib.hid (H1.out.grown h3 hb3)
        have B3 := Lib.hid (World.grownBy.trans' B1.out hb3)
        clear h3 hb3
        have hs3 : ((skipL r).take k).length ≤ 2000 := by rw [List.length_take]; omega
        simp only at X3
        have HN := HN0 k HC
        clear HN0
        obtain ⟨D, hD⟩ : ∃ D, D = (skipL r).drop k := ⟨_, rfl⟩
        rw [← hD] at X3 HN
        generalize (skipL r).take k = s at hs3 X3 HN ⊢
        clear hD
        rcases num_cases s with ⟨v, ha, hv⟩ | ⟨v, ha, hv, hn⟩ | ⟨ha, hn⟩
        · have hnp := HN.out.1 v hv.2
          have HP := Lib.hid hnp
          clear HN hnp
          obtain ⟨hb0, hb1⟩ := Lib.atoiAll_bounds ha
          have hx : (bs (Lib.itoa v)).toList = (bs s).toList := by rw [hv.1]
          have hx2 : bs (Lib.itoa v) = bs s := by rw [hv.1]
          clear hv
          go_wp2_with fail
          refine (lib_Atoi_ok s hs3 v ha _).mono ?_
          rintro e w4 ⟨rfl, hb4⟩
          have X4 := Lib.hid (X3.out.next hb4)
          have B4 := Lib.hid (World.grownBy.trans' B3.out (grown_below hb4))
          clear hb4
          go_wp2_with fail
          refine (lib_Itoa v hb0 hb1 _ X4.out.2.1).mono ?_
          rintro e w5 ⟨rfl, hb5⟩
          rw [hx2]
          clear hx hx2
          have X5 := Lib.hid (X4.out.next hb5)
          have B5 := Lib.hid (World.grownBy.trans' B4.out (grown_below hb5))
          clear hb5
          go_wp2
          go_ret
          exact ⟨by rw [HP.out]; rfl, by rw [HP.out]; exact X5.out.1, B5.out⟩
        · have hnp := HN.out.2 hn
          have HP := Lib.hid hnp
          clear HN hnp
          obtain ⟨hb0, hb1⟩ := Lib.atoiAll_bounds ha
          have hx : ((bs (Lib.itoa v)).toList == (bs s).toList) = false := by rw [bs_toList, bs_toList]; exact beq_eq_false_iff_ne.2 hv
          have hx1 := bs_toList (Lib.itoa v)
          have hx2 := bs_toList s
          have hx3 : (Lib.itoa v == s) = false := beq_eq_false_iff_ne.2 hv
          go_wp2_with fail
          refine (lib_Atoi_ok s hs3 v ha _).mono ?_
          rintro e w4 ⟨rfl, hb4⟩
          have X4 := Lib.hid (X3.out.next hb4)
          have B4 := Lib.hid (World.grownBy.trans' B3.out (grown_below hb4))
          clear hb4
          go_wp2_with fail
          refine (lib_Itoa v hb0 hb1 _ X4.out.2.1).mono ?_
          rintro e w5 ⟨rfl, hb5⟩
          have X5 := Lib.hid (X4.out.next hb5)
          have B5 := Lib.hid (World.grownBy.trans' B4.out (grown_below hb5))
          clear hb5
          obtain ⟨⟨q0, q1, q2, q3, q4⟩, q5, q6⟩ := X5.out
          clear q5 q6
          go_wp2
          go_ret
          exact ⟨by rw [HP.out]; rfl, by rw [HP.out]; exact X5.out.1.set1 true, World.grownBy.trans' B5.out (grown_set ..)⟩
        · have hnp := HN.out.2 hn
          have HP := Lib.hid hnp
          clear HN hnp
          go_wp2_with fail
          refine (lib_Atoi_no s hs3 ha _ X3.out.2.1).mono ?_
          rintro e w4 ⟨n, ti, N, rfl, hb4⟩
          have X4 := Lib.hid (X3.out.next hb4)
          have B4 := Lib.hid (World.grownBy.trans' B3.out (grown_below hb4))
          clear hb4
          obtain ⟨⟨q0, q1, q2, q3, q4⟩, q5, q6⟩ := X4.out
          clear q5 q6
          go_wp2
          go_ret
          exact ⟨by rw [HP.out]; rfl, by rw [HP.out]; exact X4.out.1.set1 true, World.grownBy.trans' B4.out (grown_set ..)⟩
  · rw [decide_eq_true (show (1 : Nat) = 1 from rfl)]
    go_wp2
    go_loopw [3] (fun i wr => ∃ k : Nat, 1 ≤ k ∧ k ≤ S.size ∧ i = .int .i64 k ∧ Hid ((((skipL r).drop 1).take (k - 1)).all digB = true) ∧ wr = w2) (fun i _ => S.size - (intOf i).toNat)
    case atStart => exact ⟨1, Nat.le_refl _, by omega, rfl, by show _ = true; simp, rfl⟩
    case round =>
      obtain ⟨k, hk0, hk, rfl, hf, rfl⟩ := hrel
      have hcut : (S.size ≤ k ∨ ∃ b, (skipL r)[k]? = some b ∧ digB b = false) → Hid (numLen (skipL r) = k) := fun hh => numLen_at HN1.out hk0 hf.out (by rcases hh with hh | hh; exact .inl (by omega); exact .inr hh) (by omega)
      by_cases hlt : k < S.size
      · have hlt' : (k : Int) < S.size := by omega
        have HX : Hid ((skipL r)[k]? = some (S[k])) := by
          have h1 := HS.out
          subst h1
          exact bs_at _ _ hlt
        by_cases h1 : S[k].toNat < 48
        · have h1' : (S[k].toNat : Int) < 48 := by omega
          have HL : Hid (digB S[k] = false) := by simp [digB, Hid]; omega
          have HC := hcut (.inr ⟨_, HX.out, HL.out⟩)
          clear hcut
          go_wp2_with fail
          refine (p_cut ⟨skipL r, b⟩ k g _ H1.out.1 (by simp only; omega) (by simp only; omega)).mono ?_
          rintro e w3 ⟨rfl, h3, hb3⟩
          have X3 := Lib.hid (H1.out.grown h3 hb3)
          have B3 := Lib.hid (World.grownBy.trans' B1.out hb3)
          clear h3 hb3
          have hs3 : ((skipL r).take k).length ≤ 2000 := by rw [List.length_take]; omega
          simp only at X3
          have HN := HN0 k HC
          clear HN0
          obtain ⟨D, hD⟩ : ∃ D, D = (skipL r).drop k := ⟨_, rfl⟩
          rw [← hD] at X3 HN
          generalize (skipL r).take k = s at hs3 X3 HN ⊢
          clear hD
          rcases num_cases s with ⟨v, ha, hv⟩ | ⟨v, ha, hv, hn⟩ | ⟨ha, hn⟩
          · have hnp := HN.out.1 v hv.2
            have HP := Lib.hid hnp
            clear HN hnp
            obtain ⟨hb0, hb1⟩ := Lib.atoiAll_bounds ha
            have hx : (bs (Lib.itoa v)).toList = (bs s).toList := by rw [hv.1]
            have hx2 : bs (Lib.itoa v) = bs s := by rw [hv.1]
            clear hv
            go_wp2_with fail
            refine (lib_Atoi_ok s hs3 v ha _).mono ?_
            rintro e w4 ⟨rfl, hb4⟩
            have X4 := Lib.hid (X3.out.next hb4)
            have B4 := Lib.hid (World.grownBy.trans' B3.out (grown_below hb4))
            clear hb4
            go_wp2_with fail
            refine (lib_Itoa v hb0 hb1 _ X4.out.2.1).mono ?_
            rintro e w5 ⟨rfl, hb5⟩
            rw [hx2]
            clear hx hx2
            have X5 := Lib.hid (X4.out.next hb5)
            have B5 := Lib.hid (World.grownBy.trans' B4.out (grown_below hb5))
            clear hb5
            go_wp2
            go_ret
            exact ⟨by rw [HP.out]; rfl, by rw [HP.out]; exact X5.out.1, B5.out⟩
          · have hnp := HN.out.2 hn
            have HP := Lib.hid hnp
            clear HN hnp
            obtain ⟨hb0, hb1⟩ := Lib.atoiAll_bounds ha
            have hx : ((bs (Lib.itoa v)).toList == (bs s).toList) = false := by rw [bs_toList, bs_toList]; exact beq_eq_false_iff_ne.2 hv
            have hx1 := bs_toList (Lib.itoa v)
            have hx2 := bs_toList s
            have hx3 : (Lib.itoa v == s) = false := beq_eq_false_iff_ne.2 hv
            go_wp2_with fail
            refine (lib_Atoi_ok s hs3 v ha _).mono ?_
            rintro e w4 ⟨rfl, hb4⟩
            have X4 := Lib.hid (X3.out.next hb4)
            have B4 := Lib.hid (World.grownBy.trans' B3.out (grown_below hb4))
            clear hb4
            go_wp2_with fail
            refine (lib_Itoa v hb0 hb1 _ X4.out.2.1).mono ?_
            rintro e w5 ⟨rfl, hb5⟩
            have X5 := Lib.hid (X4.out.next hb5)
            have B5 := Lib.hid (World.grownBy.trans' B4.out (grown_below hb5))
            clear hb5
            obtain ⟨⟨q0, q1, q2, q3, q4⟩, q5, q6⟩ := X5.out
            clear q5 q6
            go_wp2
            go_ret
            exact ⟨by rw [HP.out]; rfl, by rw [HP.out]; exact X5.out.1.set1 true, World.grownBy.trans' B5.out (grown_set ..)⟩
          · have hnp := HN.out.2 hn
            have HP := Lib.hid hnp
            clear HN hnp
            go_wp2_with fail
            refine (lib_Atoi_no s hs3 ha _ X3.out.2.1).mono ?_
            rintro e w4 ⟨n, ti, N, rfl, hb4⟩
            have X4 := Lib.hid (X3.out.next hb4)
            have B4 := Lib.hid (World.grownBy.trans' B3.out (grown_below hb4))
            clear hb4
            obtain ⟨⟨q0, q1, q2, q3, q4⟩, q5, q6⟩ := X4.out
            clear q5 q6
            go_wp2
            go_ret
            exact ⟨by rw [HP.out]; rfl, by rw [HP.out]; exact X4.out.1.set1 true, World.grownBy.trans' B4.out (grown_set ..)⟩
        · by_cases h2 : 57 < S[k].toNat
          · have h1' : 48 ≤ (S[k].toNat : Int) := by omega
            have h2' : 57 < (S[k].toNat : Int) := by omega
            have HL : Hid (digB S[k] = false) := by simp [digB, Hid]; omega
            have HC := hcut (.inr ⟨_, HX.out, HL.out⟩)
            clear hcut
            go_wp2_with fail
            refine (p_cut ⟨skipL r, b⟩ k g _ H1.out.1 (by simp only; omega) (by simp only; omega)).mono ?_
            rintro e w3 ⟨rfl, h3, hb3⟩
            have X3 := Lib.hid (H1.out.grown h3 hb3)
            have B3 := Lib.hid (World.grownBy.trans' B1.out hb3)
            clear h3 hb3
            have hs3 : ((skipL r).take k).length ≤ 2000 := by rw [List.length_take]; omega
            simp only at X3
            have HN := HN0 k HC
            clear HN0
            obtain ⟨D, hD⟩ : ∃ D, D = (skipL r).drop k := ⟨_, rfl⟩
            rw [← hD] at X3 HN
            generalize (skipL r).take k = s at hs3 X3 HN ⊢
            clear hD
            rcases num_cases s with ⟨v, ha, hv⟩ | ⟨v, ha, hv, hn⟩ | ⟨ha, hn⟩
            · have hnp := HN.out.1 v hv.2
              have HP := Lib.hid hnp
              clear HN hnp
              obtain ⟨hb0, hb1⟩ := Lib.atoiAll_bounds ha
              have hx : (bs (Lib.itoa v)).toList = (bs s).toList := by rw [hv.1]
              have hx2 : bs (Lib.itoa v) = bs s := by rw [hv.1]
              clear hv
              go_wp2_with fail
              refine (lib_Atoi_ok s hs3 v ha _).mono ?_
              rintro e w4 ⟨rfl, hb4⟩
              have X4 := Lib.hid (X3.out.next hb4)
              have B4 := Lib.hid (World.grownBy.trans' B3.out (grown_below hb4))
              clear hb4
              go_wp2_with fail
              refine (lib_Itoa v hb0 hb1 _ X4.out.2.1).mono ?_
              rintro e w5 ⟨rfl, hb5⟩
              rw [hx2]
              clear hx hx2
              have X5 := Lib.hid (X4.out.next hb5)
              have B5 := Lib.hid (World.grownBy.trans' B4.out (grown_below hb5))
              clear hb5
              go_wp2
              go_ret
              exact ⟨by rw [HP.out]; rfl, by rw [HP.out]; exact X5.out.1, B5.out⟩
            · have hnp := HN.out.2 hn
              have HP := Lib.hid hnp
              clear HN hnp
              obtain ⟨hb0, hb1⟩ := Lib.atoiAll_bounds ha
              have hx : ((bs (Lib.itoa v)).toList == (bs s).toList) = false := by rw [bs_toList, bs_toList]; exact beq_eq_false_iff_ne.2 hv
              have hx1 := bs_toList (Lib.itoa v)
              have hx2 := bs_toList s
              have hx3 : (Lib.itoa v == s) = false := beq_eq_false_iff_ne.2 hv
              go_wp2_with fail
              refine (lib_Atoi_ok s hs3 v ha _).mono ?_
              rintro e w4 ⟨rfl, hb4⟩
              have X4 := Lib.hid (X3.out.next hb4)
              have B4 := Lib.hid (World.grownBy.trans' B3.out (grown_below hb4))
              clear hb4
              go_wp2_with fail
              refine (lib_Itoa v hb0 hb1 _ X4.out.2.1).mono ?_
              rintro e w5 ⟨rfl, hb5⟩
              have X5 := Lib.hid (X4.out.next hb5)
              have B5 := Lib.hid (World.grownBy.trans' B4.out (grown_below hb5))
              clear hb5
              obtain ⟨⟨q0, q1, q2, q3, q4⟩, q5, q6⟩ := X5.out
              clear q5 q6
              go_wp2
              go_ret
              exact ⟨by rw [HP.out]; rfl, by rw [HP.out]; exact X5.out.1.set1 true, World.grownBy.trans' B5.out (grown_set ..)⟩
            · have hnp := HN.out.2 hn
              have HP := Lib.hid hnp
              clear HN hnp
              go_wp2_with fail
              refine (lib_Atoi_no s hs3 ha _ X3.out.2.1).mono ?_
              rintro e w4 ⟨n, ti, N, rfl, hb4⟩
              have X4 := Lib.hid (X3.out.next hb4)
              have B4 := Lib.hid (World.grownBy.trans' B3.out (grown_below hb4))
              clear hb4
              obtain ⟨⟨q0, q1, q2, q3, q4⟩, q5, q6⟩ := X4.out
              clear q5 q6
              go_wp2
              go_ret
              exact ⟨by rw [HP.out]; rfl, by rw [HP.out]; exact X4.out.1.set1 true, World.grownBy.trans' B4.out (grown_set ..)⟩
          · have h1' : 48 ≤ (S[k].toNat : Int) := by omega
            have h2' : (S[k].toNat : Int) ≤ 57 := by omega
            have HL : Hid (digB S[k] = true) := by simp [digB, Hid]; omega
            clear hcut
            go_wp2
            exact ⟨⟨k + 1, by omega, by omega, by go_num, drop_take_all hk0 hf.out HX.out HL.out, by first | trivial | rfl⟩, by simp [intOf]; omega⟩
      · have hge : (S.size : Int) ≤ k := by omega
        have HC := hcut (.inl (by omega))
        clear hcut
        go_wp2_with fail
        refine (p_cut ⟨skipL r, b⟩ k g _ H1.out.1 (by simp only; omega) (by simp only; omega)).mono ?_
        rintro e w3 ⟨rfl, h3, hb3⟩
        have X3 := Lib.hid (H1.out.grown h3 hb3)
        have B3 := Lib.hid (World.grownBy.trans' B1.out hb3)
        clear h3 hb3
        have hs3 : ((skipL r).take k).length ≤ 2000 := by rw [List.length_take]; omega
        simp only at X3
        have HN := HN0 k HC
        clear HN0
        obtain ⟨D, hD⟩ : ∃ D, D = (skipL r).drop k := ⟨_, rfl⟩
        rw [← hD] at X3 HN
        generalize (skipL r).take k = s at hs3 X3 HN ⊢
        clear hD
        rcases num_cases s with ⟨v, ha, hv⟩ | ⟨v, ha, hv, hn⟩ | ⟨ha, hn⟩
        · have hnp := HN.out.1 v hv.2
          have HP := Lib.hid hnp
          clear HN hnp
          obtain ⟨hb0, hb1⟩ := Lib.atoiAll_bounds ha
          have hx : (bs (Lib.itoa v)).toList = (bs s).toList := by rw [hv.1]
          have hx2 : bs (Lib.itoa v) = bs s := by rw [hv.1]
          clear hv
          go_wp2_with fail
          refine (lib_Atoi_ok s hs3 v ha _).mono ?_
          rintro e w4 ⟨rfl, hb4⟩
          have X4 := Lib.hid (X3.out.next hb4)
          have B4 := Lib.hid (World.grownBy.trans' B3.out (grown_below hb4))
          clear hb4
          go_wp2_with fail
          refine (lib_Itoa v hb0 hb1 _ X4.out.2.1).mono ?_
          rintro e w5 ⟨rfl, hb5⟩
          rw [hx2]
          clear hx hx2
          have X5 := Lib.hid (X4.out.next hb5)
          have B5 := Lib.hid (World.grownBy.trans' B4.out (grown_below hb5))
          clear hb5
          go_wp2
          go_ret
          exact ⟨by rw [HP.out]; rfl, by rw [HP.out]; exact X5.out.1, B5.out⟩
        · have hnp := HN.out.2 hn
          have HP := Lib.hid hnp
          clear HN hnp
          obtain ⟨hb0, hb1⟩ := Lib.atoiAll_bounds ha
          have hx : ((bs (Lib.itoa v)).toList == (bs s).toList) = false := by rw [bs_toList, bs_toList]; exact beq_eq_false_iff_ne.2 hv
          have hx1 := bs_toList (Lib.itoa v)
          have hx2 := bs_toList s
          have hx3 : (Lib.itoa v == s) = false := beq_eq_false_iff_ne.2 hv
          go_wp2_with fail
          refine (lib_Atoi_ok s hs3 v ha _).mono ?_
          rintro e w4 ⟨rfl, hb4⟩
          have X4 := Lib.hid (X3.out.next hb4)
          have B4 := Lib.hid (World.grownBy.trans' B3.out (grown_below hb4))
          clear hb4
          go_wp2_with fail
          refine (lib_Itoa v hb0 hb1 _ X4.out.2.1).mono ?_
          rintro e w5 ⟨rfl, hb5⟩
          have X5 := Lib.hid (X4.out.next hb5)
          have B5 := Lib.hid (World.grownBy.trans' B4.out (grown_below hb5))
          clear hb5
          obtain ⟨⟨q0, q1, q2, q3, q4⟩, q5, q6⟩ := X5.out
          clear q5 q6
          go_wp2
          go_ret
          exact ⟨by rw [HP.out]; rfl, by rw [HP.out]; exact X5.out.1.set1 true, World.grownBy.trans' B5.out (grown_set ..)⟩
        · have hnp := HN.out.2 hn
          have HP := Lib.hid hnp
          clear HN hnp
          go_wp2_with fail
          refine (lib_Atoi_no s hs3 ha _ X3.out.2.1).mono ?_
          rintro e w4 ⟨n, ti, N, rfl, hb4⟩
          have X4 := Lib.hid (X3.out.next hb4)
          have B4 := Lib.hid (World.grownBy.trans' B3.out (grown_below hb4))
          clear hb4
          obtain ⟨⟨q0, q1, q2, q3, q4⟩, q5, q6⟩ := X4.out
          clear q5 q6
          go_wp2
          go_ret
          exact ⟨by rw [HP.out]; rfl, by rw [HP.out]; exact X4.out.1.set1 true, World.grownBy.trans' B4.out (grown_set ..)⟩

end Go.Proofs.YthnfkghgaagaiabDoor
