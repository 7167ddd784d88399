/- The closure walk of ratebookref.search, which calls itself: it finds the first input among those whose numbers are listed. Conditions: the list of inputs reads as lists in memory that the call does not write; what is asked is a Lean function of the input. -/
import Derived.Test.YtiejicjknenneaaGreatDoorRefEdge
import Derived.Test.YtiejicjknenneaaGreatDoorSrch
import Derived.Test.YtiejicjknenneaaGreatDoorBox
import Derived.Test.YtiejicjknenneaaGreatDoorMemMore
namespace Go.Proofs.YtiejicjknenneaaGreatDoor
open Go.RowKit

/-- what is below base stands, but for the block I -/
structure FrI (I base : Nat) (w w' : World) : Prop where
  os : w'.os = w.os
  tape : w'.tape = w.tape
  output : w'.output = w.output
  size : w.heap.size ≤ w'.heap.size
  block : ∀ k, k < base → k ≠ I → w'.heap[k]? = w.heap[k]?
section
variable {I base : Nat} {w w1 w2 : World}
theorem FrI.refl (I base : Nat) (w : World) : FrI I base w w := ⟨rfl, rfl, rfl, Nat.le_refl _, fun _ _ _ => rfl⟩
theorem FrI.trans (h : FrI I base w w1) (h' : FrI I base w1 w2) : FrI I base w w2 :=
  ⟨h'.os.trans h.os, h'.tape.trans h.tape, h'.output.trans h.output, Nat.le_trans h.size h'.size, fun k h1 h2 => (h'.block k h1 h2).trans (h.block k h1 h2)⟩
theorem FrI.of_below {B : Nat} (h : Below B w w1) (hB : base ≤ B) : FrI I base w w1 := ⟨h.os, h.tape, h.output, h.size, fun k h1 _ => h.block k (by omega)⟩
theorem FrI.set (w : World) (I base o : Nat) (v : Value) : FrI I base w (w.setCell ⟨I, o, none⟩ v) :=
  ⟨rfl, rfl, rfl, by simp [World.setCell], fun k _ h2 => RowKit.Below.heap_setCell _ _ _ _ h2⟩
theorem FrI.of_grown {v : Value} (h : w.grownBy w1 v.ownBlock) (hb : base ≤ w.heap.size) (hv : ∀ k, v.ownBlock = some k → base ≤ k) : FrI I base w w1 :=
  ⟨h.os, h.tape, h.output, h.size, fun k h1 _ => h.block k (by omega) (by intro e; have := hv k e.symm; omega)⟩
end

/-- the variable in at the block I, of which the row lies from base on -/
structure InV (w : World) (I base : Nat) (v : Value) (l : List Int) : Prop where
  lt : I < w.heap.size
  cell : w.cell? ⟨I, 0, none⟩ = some v
  fz : w.frozen? ⟨I, 0, none⟩ = false
  own : OwnG Enc.int w base base 3 v l
/-- what the closure has captured, and what it reads -/
structure WOK (w0 : World) (at' : List (List Int)) (vat : Value) (fid : Nat) (cb : Array Value) (I A Hh K base : Nat) (W : World) : Prop where
  cA : W.cell? ⟨A, 0, none⟩ = some vat
  sA : Sl Enc.int.slice W (fun k => k < base ∧ k ≠ I) at' vat
  cH : W.cell? ⟨Hh, 0, none⟩ = some (.func (.func fid) #[] cb)
  cK : W.cell? ⟨K, 0, none⟩ = some (.func (.func 42) #[] #[.pointer (some ⟨I, 0, none⟩), .pointer (some ⟨A, 0, none⟩), .pointer (some ⟨Hh, 0, none⟩), .pointer (some ⟨K, 0, none⟩)])
  bel : Below w0.heap.size w0 W
  hI : w0.heap.size ≤ I ∧ I < base
  hA : A < base ∧ A ≠ I
  hH : Hh < base ∧ Hh ≠ I
  hK : K < base ∧ K ≠ I
  hb : base ≤ W.heap.size
theorem WOK.keep {w0 : World} {at' : List (List Int)} {vat : Value} {fid : Nat} {cb : Array Value} {I A Hh K base : Nat} {W W' : World} (h : WOK w0 at' vat fid cb I A Hh K base W) (hf : FrI I base W W') : WOK w0 at' vat fid cb I A Hh K base W' := by
  have k : ∀ p : Addr, p.block < base → p.block ≠ I → W'.cell? p = W.cell? p := fun p h1 h2 => World.cell?_of_block (hf.block _ h1 h2)
  obtain ⟨cA, sA, cH, cK, bel, hI, hA, hH, hK, hb⟩ := h
  refine ⟨(k _ hA.1 hA.2).trans cA, sA.keep fun p hp => k p hp.1 hp.2, (k _ hH.1 hH.2).trans cH, (k _ hK.1 hK.2).trans cK, ?_, hI, hA, hH, hK, Nat.le_trans hb hf.size⟩
  exact ⟨hf.os.trans bel.os, hf.tape.trans bel.tape, hf.output.trans bel.output, Nat.le_trans bel.size hf.size, fun j hj => (hf.block j (by omega) (by omega)).trans (bel.block j hj)⟩
theorem InV.keep {w w' : World} {I base : Nat} {v : Value} {l : List Int} (h : InV w I base v l) (hb : Below w.heap.size w w') : InV w' I base v l :=
  ⟨Nat.lt_of_lt_of_le h.lt hb.size, (hb.cell (p := ⟨I, 0, none⟩) h.lt).trans h.cell, (hb.frozen (p := ⟨I, 0, none⟩) h.lt).trans h.fz, h.own.next hb⟩
theorem InV.set {w : World} {I base : Nat} {v v' : Value} {l l' : List Int} (h : InV w I base v l) (ho : OwnG Enc.int w base base 3 v' l') (hI : I < base) : InV (w.setCell ⟨I, 0, none⟩ v') I base v' l' :=
  ⟨by simpa [World.setCell] using h.lt, World.cell?_setCell_same w _ _ h.cell, by simpa using h.fz, ho.setCell hI (fun e => by have := (ho.lt I e).1; omega)⟩
theorem OwnG.frontI {w : World} {base lo e g c : Nat} {l : List Int} {n : Nat} (h : OwnG Enc.int w base lo e (.slice (some ⟨g, 0, none⟩) n c) l) {j : Nat} (hj : j ≤ l.length) : OwnG Enc.int w base lo e (.slice (some ⟨g, 0, none⟩) j c) (l.take j) := by
  obtain ⟨us, h1, h2⟩ := h
  have es : Enc.int.size = 1 := rfl
  have hl := h1.1
  rw [es] at hl
  have el : (l.take j).length = j := by rw [List.length_take]; omega
  refine ⟨us.take j, ?_, ?_⟩
  · refine ⟨by rw [es, List.length_take, el]; omega, ?_⟩
    rcases h1.2 with ⟨h3, _⟩ | ⟨g', cap, cur, h3, h4, h5, h6, h7, h8, h9⟩
    · cases h3
    · injection h3 with e1 e2 e3
      injection e1 with e1
      injection e1 with e1
      subst e1 e3
      refine .inr ⟨g, c, cur, by rw [el], h4, h5, by omega, h7, h8, ?_⟩
      rw [es] at h9 ⊢
      have : cur.toList.take ((l.take j).length * 1) = (cur.toList.take (l.length * 1)).take j := by rw [List.take_take, el]; congr 1; omega
      rw [this, h9]
  · intro i x hx
    have hi := (List.getElem?_eq_some_iff.1 hx).1
    rw [el] at hi
    rw [List.getElem?_take_of_lt hi] at hx
    obtain ⟨cs, k1, k2⟩ := h2 i x hx
    have k1' : cs = [.int .i64 x] := k1
    refine ⟨cs, k1', fun q u hu => ?_⟩
    have := k2 q u hu
    subst k1'
    match q with
    | 0 =>
      rw [es] at this ⊢
      rw [List.getElem?_take_of_lt (by omega)]
      exact this
    | q + 1 => simp at hu
theorem walkF_step {f : List Int → Bool} {l : List Int} {rest : List (List Int)} {pre : List Int} {k : Nat} {n : Int} (hn : l[k]? = some n) (h0 : ∀ m ∈ l.take k, walkF f rest (pre ++ [m]) = none) {i : List Int} (h : walkF f rest (pre ++ [n]) = some i) : walkF f (l :: rest) pre = some i := by
  simp only [walkF]
  rw [List.findSome?_eq_some_iff]
  refine ⟨l.take k, n, l.drop (k + 1), ?_, h, h0⟩
  have hk := (List.getElem?_eq_some_iff.1 hn).1
  have : l.drop k = n :: l.drop (k + 1) := by
    rw [List.drop_eq_getElem_cons hk, (List.getElem?_eq_some_iff.1 hn).2]
  rw [← this, List.take_append_drop]

theorem x_under_i : Tryz.prog.underlying 30 = some (.slice 3) := by kernel_rfl
theorem x_info_i : (Tryz.prog.info? 3).map (fun i => (i.zero, i.size, i.bytes)) = some (some (.int .i64 0), 1, 8) := by kernel_rfl
theorem cell_one_newI (w : World) (v : Value) (e : Nat) : ∀ j u, [v][j]? = some u → (w.alloc (.cells #[v] e)).cell? ((⟨w.heap.size, 0, none⟩ : Addr).add j) = some u := by
  intro j u hu
  have ea : (⟨w.heap.size, 0, none⟩ : Addr).add j = ⟨w.heap.size, j, none⟩ := by unfold Addr.add; split <;> simp_all
  rw [ea]
  exact (World.cell?_alloc_new ..).trans (by simpa using hu)
def WPost (f : List Int → Bool) (I base : Nat) (rest : List (List Int)) (pre : List Int) (W : World) (e : Ending) (w' : World) : Prop :=
  e = .returned (.bool (walkF f rest pre).isSome) ∧ (∃ v', InV w' I base v' ((walkF f rest pre).getD pre)) ∧ FrI I base W w'

set_option maxRecDepth 100000 in
set_option maxHeartbeats 1000000 in
theorem ref_walk (w0 : World) (at' : List (List Int)) (vat : Value) (fid : Nat) (cb : Array Value) (f : List Int → Bool) (I A Hh K base : Nat) (h3 : at'.length ≤ 3)
    (eg : ∀ args w, (callFunc fid args).run Tryz.prog w = .ok (.enter fid args) w)
    (hf : ∀ (l : List Int) (v : Value) (W : World), Below w0.heap.size w0 W → l.length ≤ 3 → Sl Enc.int W (Old W) l v → Calls Tryz.prog fid (#[v] ++ cb) W fun e w' => e = .returned (.bool (f l)) ∧ Below W.heap.size W w') :
    ∀ (d : Nat) (pre : List Int) (v : Value) (W : World), at'.length = pre.length + d → WOK w0 at' vat fid cb I A Hh K base W → InV W I base v pre →
      Calls Tryz.prog 42 #[.pointer (some ⟨I, 0, none⟩), .pointer (some ⟨A, 0, none⟩), .pointer (some ⟨Hh, 0, none⟩), .pointer (some ⟨K, 0, none⟩)] W (WPost f I base (at'.drop pre.length) pre W) := by
  intro d
  induction d with
  | zero =>
    intro pre v W hd hW hV
    have HW := Lib.hid hW
    have HV := Lib.hid hV
    have HD : Hid (at'.drop pre.length = []) := List.drop_of_length_le (by omega)
    have HS := Lib.hid (hV.own.slOld (Nat.le_refl _))
    obtain ⟨Av, cv, rfl, hc1, hc2, -⟩ := hV.own.form
    obtain ⟨Aa, ca, rfl, ha1, ha2⟩ := hW.sA.form
    have c0 := hV.cell
    have c1 := hW.cA
    have c2 := hW.cH
    have HF := Lib.hid hf
    have hde : ((pre.length : Int) == (at'.length : Int)) = true := by rw [beq_iff_eq]; omega
    have hpl : pre.length ≤ 3 := by omega
    clear hW hV hf hd
    go_enter Tryz.func42, Tryz.ntmps42
    go_wp2_with fail
    refine (HF.out pre _ W HW.out.bel hpl HS.out).mono ?_
    rintro e w1 ⟨rfl, hb1⟩
    go_wp2
    go_ret
    unfold WPost
    rw [HD.out]
    have hfr : FrI I base W w1 := FrI.of_below hb1 HW.out.hb
    cases hfp : f pre
    · have e1 : walkF f [] pre = none := by simp [walkF, hfp]
      rw [e1]
      exact ⟨rfl, ⟨_, HV.out.keep hb1⟩, hfr⟩
    · have e1 : walkF f [] pre = some pre := by simp [walkF, hfp]
      rw [e1]
      exact ⟨rfl, ⟨_, HV.out.keep hb1⟩, hfr⟩
  | succ d ih =>
    intro pre v W hd hW hV
    have IH := Lib.hid ih
    clear ih
    have HF := Lib.hid hf
    clear hf
    have HW := Lib.hid hW
    have HV := Lib.hid hV
    have hlt : pre.length < at'.length := by omega
    obtain ⟨Av, cv, rfl, hc1, hc2, -⟩ := hV.own.form
    have hsA := hW.sA
    obtain ⟨Aa, ca, rfl, ha1, ha2⟩ := hsA.form
    obtain ⟨ba, oa, l, u, rfl, hSb, hx, cu, hu⟩ := hsA.sl_at hlt
    obtain ⟨Al, cl, rfl, hl1, hl2⟩ := hu.form
    unfold maxLen at hl2
    have c0 := hV.cell
    have c1 := hW.cA
    have hnI : ¬ (pre.length = at'.length) := by omega
    have hde : ((pre.length : Int) == (at'.length : Int)) = false := beq_eq_false_iff_ne.2 (by omega)
    have hp0 : (0 : Int) ≤ pre.length := by omega
    have hp1 : (pre.length : Int) < at'.length := by omega
    have HU := Lib.hid hu
    have HDR : Hid (at'.drop pre.length = l :: at'.drop (pre.length + 1)) := by
      show _ = _
      rw [List.drop_eq_getElem_cons hlt, (List.getElem?_eq_some_iff.1 hx.out).2]
    have hpl : pre.length ≤ 2 := by omega
    have HLD := Lib.hid hd
    clear hW hV hsA hu hd
    go_enter Tryz.func42, Tryz.ntmps42
    go_wp2
    clear c0 c1 cu
    go_loopw [21] (fun i wr => ∃ (k : Nat) (v : Value), k ≤ l.length ∧ i = .int .i64 k ∧ Hid (∀ m ∈ l.take k, walkF f (at'.drop (pre.length + 1)) (pre ++ [m]) = none) ∧ Hid (InV wr I base v pre) ∧ Hid (FrI I base W wr)) (fun i _ => l.length - (intOf i).toNat)
    case atStart => exact ⟨0, _, Nat.zero_le _, rfl, fun m hm => by simp at hm, HV, FrI.refl _ _ _⟩
    case round =>
      obtain ⟨k, vk, hk, rfl, hN, HI, HR⟩ := hrel
      have HWr := Lib.hid (HW.out.keep HR.out)
      by_cases hkl : k < l.length
      · obtain ⟨bl, ol, n, rfl, hbl, hxn, cn⟩ := (HU.out.keep (w' := wr) (fun p hp => World.cell?_of_block (HR.out.block _ hp.1 hp.2))).int_at hkl
        obtain ⟨Ak, ck, rfl, hk1, hk2, -⟩ := HI.out.own.form
        have q0 := HI.out.cell
        have q1 := HI.out.fz
        have hbase := HWr.out.hb
        have hw1 := below_alloc1 wr (.cells #[.int .i64 n] 3)
        have V1 := Lib.hid (HI.out.keep hw1)
        have R1 := Lib.hid (HR.out.trans (FrI.of_below hw1 hbase))
        have hz1 : base ≤ (wr.alloc (.cells #[.int .i64 n] 3)).heap.size := Nat.le_trans hbase hw1.size
        have hIb := HWr.out.hI.2
        go_wp2_with (at_builtin; refine wpList_append_one (E := Enc.int) _ rfl _ _ 30 rfl base base 3 8 (.int .i64 0) x_under_i x_info_i rfl (by decide) _ _ rfl V1.out.own ⟨wr.heap.size, 0, none⟩ n [.int .i64 n] rfl rfl (cell_one_newI _ _ _) (by omega) (by unfold maxLen; omega) hz1 ?_; intro v2 w2 hown2 hgrow2 _; have hbI := hgrow2.block I V1.out.lt (fun e => by have := (V1.out.own.lt I e.symm).1; omega); obtain ⟨A2, c2, e2, -, -, -⟩ := hown2.form; rw [List.length_append] at e2; replace e2 : v2 = .slice A2 (pre.length + 1) c2 := e2; subst e2; have g0 := (World.cell?_of_block (a := ⟨I, 0, none⟩) hbI).trans V1.out.cell; have g1 := (World.frozen?_of_block (a := ⟨I, 0, none⟩) hbI).trans V1.out.fz; have V2 : InV w2 I base (.slice Ak pre.length ck) pre → InV (w2.setCell ⟨I, 0, none⟩ (.slice A2 (pre.length + 1) c2)) I base (.slice A2 (pre.length + 1) c2) (pre ++ [n]) := fun h => h.set hown2 hIb; have V3 : Hid (InV (w2.setCell ⟨I, 0, none⟩ (.slice A2 (pre.length + 1) c2)) I base (.slice A2 (pre.length + 1) c2) (pre ++ [n])) := ⟨by have := hgrow2.size; have := V1.out.lt; simp [World.setCell]; omega, World.cell?_setCell_same w2 _ _ g0, by simpa using g1, hown2.setCell hIb (fun e => by have := (hown2.lt I e).1; omega)⟩; have R3 := Lib.hid (R1.out.trans ((FrI.of_grown hgrow2 hz1 (fun k hk => (V1.out.own.lt k hk).1)).trans (FrI.set w2 I base 0 (.slice A2 (pre.length + 1) c2)))); have W3 := Lib.hid (HW.out.keep R3.out); have g2 := W3.out.cK; clear V2)
        have hi := IH.out (pre ++ [n]) (.slice A2 (pre.length + 1) c2) _ (by rw [List.length_append]; show _ = pre.length + 1 + d; have := HLD.out; omega) W3.out V3.out
        rw [show (pre ++ [n]).length = pre.length + 1 by rw [List.length_append]; rfl] at hi
        refine hi.mono ?_
        intro e w4 hp4
        obtain ⟨rfl, ⟨v4, hV4⟩, hR4⟩ := hp4
        have V4 := Lib.hid hV4
        have R4 := Lib.hid (R3.out.trans hR4)
        have W4 := Lib.hid (HW.out.keep R4.out)
        clear hi hV4 hR4 g0 g1 g2 q0 q1 cn hw1
        cases hw : walkF f (at'.drop (pre.length + 1)) (pre ++ [n]) with
        | none =>
          rw [hw] at V4
          have HWN := Lib.hid hw
          clear hw
          simp only [Option.isSome_none, Option.getD_none] at V4 ⊢
          obtain ⟨A4, c4, e4, hc4, hm4, hn4⟩ := V4.out.own.form
          rw [List.length_append] at e4 hc4
          replace e4 : v4 = .slice A4 (pre.length + 1) c4 := e4
          replace hc4 : pre.length + 1 ≤ c4 := hc4
          subst e4
          have hA4 : ∃ g4, A4 = some ⟨g4, 0, none⟩ := by
            obtain ⟨us, h1, _⟩ := V4.out.own
            rcases h1.2 with ⟨h2, _⟩ | ⟨g, cap, cur, h2, _⟩
            · injection h2 with _ h2 _; omega
            · injection h2 with h2 _ _; exact ⟨g, h2⟩
          obtain ⟨g4, rfl⟩ := hA4
          unfold maxLen at hm4
          have j0 := V4.out.cell
          have j1 := V4.out.fz
          have O5 : Hid (OwnG Enc.int w4 base base 3 (.slice (some ⟨g4, 0, none⟩) pre.length c4) pre) := by
            have := V4.out.own.frontI (j := pre.length) (by rw [List.length_append]; omega)
            rw [List.take_left' rfl] at this
            exact this
          have j2 : IntKind.i64.wrap (((pre.length : Int) + 1) - 1) = (pre.length : Int) := by rw [IntWalk.i64_in _ (by omega)]; omega
          go_wp2
          refine ⟨⟨k + 1, _, by omega, by go_num, ?_, V4.out.set O5.out hIb, R4.out.trans (FrI.set ..)⟩, by simp [intOf]; omega⟩
          intro m hm
          rw [take_at hxn.out] at hm
          rcases List.mem_append.1 hm with hm | hm
          · exact hN.out m hm
          · rw [List.mem_singleton] at hm
            subst hm
            exact HWN.out
        | some i =>
          rw [hw] at V4
          have HWS : Hid (walkF f (at'.drop pre.length) pre = some i) := by
            show _ = _
            rw [HDR.out]
            exact walkF_step hxn.out hN.out hw
          clear hw
          simp only [Option.isSome_some, Option.getD_some] at V4 ⊢
          go_wp2
          go_ret
          unfold WPost
          rw [HWS.out]
          exact ⟨rfl, ⟨_, V4.out⟩, R4.out⟩
      · have hN' : Hid (walkF f (at'.drop pre.length) pre = none) := by
          show _ = none
          have hN2 := hN.out
          rw [List.take_of_length_le (by omega)] at hN2
          rw [HDR.out]
          simp only [walkF, List.findSome?_eq_none_iff]
          exact hN2
        go_wp2
        go_ret
        unfold WPost
        rw [hN'.out]
        exact ⟨rfl, ⟨_, HI.out⟩, HR.out⟩

end Go.Proofs.YtiejicjknenneaaGreatDoor
