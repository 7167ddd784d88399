/- book.answer, as a Lean function of what its arguments read as. Conditions: the table reads as lists in old memory; names and lists fit into 2^47 bytes; it has at most three inputs; the map of what is known reads as a function of names. -/
import Derived.Test.YthnfkghgaagaiabBookC
import Derived.Test.YthnfkghgaagaiabTableE
namespace Go.Proofs.Ythnfkghgaagaiab
open Go.RowKit

theorem a_under : Try.prog.underlying 55 = some (.map 9 59) := by kernel_rfl
theorem a_zero (w : World) : (zeroValue 59).run Try.prog w = .ok (ansVal zeroA) w := by kernel_rfl
theorem a_make (w : World) : (Instr.makeMap 55 none).run Try.prog w = .ok (.map (some w.heap.size)) (w.alloc (.map #[] 0)) := rfl
theorem ans_look {w : World} {b n c : Nat} {k : ByteArray → Option AnsD} (h : MapS Try.prog 9 w b n c (ansF k)) (s : ByteArray) (hs : s.size ≤ maxLen) :
    (Instr.lookup 55 (.map (some b)) (.string s) false).run Try.prog w = .ok (ansVal ((k s).getD zeroA)) w := by
  rw [h.look Try.underlying9 a_under (a_zero w) hs, ansF_get]
theorem wpList_fieldS {P : Program} (w : World) {ops : Array Oper} {rest : List Oper} {o : Oper} {a : Act} {Q : Exit → Act → World → Prop} (hg : o.guard = none) (x : Operand) (t : TypeId) (i : Nat) (hop : o.op = Op.field t x i) (u v : Value) (hx : a.eval x = u) (hrun : (Instr.field t u i).run P w = .ok v w)
    (hK : wpList P ops Q rest (a.put o.dst v) w) : wpList P ops Q (o :: rest) a w := by
  refine wpList_plain hg fun K' hK' => ?_
  unfold Oper.wp
  simp [execOp, hop, hx, hrun, Result.andThen]
  exact hK' _ _ hK
/-- the same two behind a guard that is met -/
theorem wpList_lookG {P : Program} (w : World) {ops : Array Oper} {rest : List Oper} {o : Oper} {a : Act} {Q : Exit → Act → World → Prop} (hw : Region.wanted o (yielded ops a.tmps) = true) (m x : Operand) (t : TypeId) (hop : o.op = Op.lookup t m x false) (k e : TypeId) (hk : P.underlying k = some .string) (ht : P.underlying t = some (.map k e)) {z : Value} (hz : (zeroValue e).run P w = .ok z w)
    (b n c : Nat) (f : ByteArray → Option Value) (hm : a.eval m = .map (some b)) (hown : MapS P k w b n c f) (s : ByteArray) (hx : a.eval x = .string s) (hs : s.size ≤ maxLen) (v : Value) (hv : (f s).getD z = v)
    (hK : wpList P ops Q rest (a.put o.dst v) w) : wpList P ops Q (o :: rest) a w := by
  show if Region.wanted o (yielded ops a.tmps) = true then _ else _
  rw [if_pos hw]
  left
  unfold Oper.wp
  simp [execOp, hop, hm, hx, hown.look hk ht hz hs, hv, Result.andThen]
  exact hK
theorem wpList_fieldG {P : Program} (w : World) {ops : Array Oper} {rest : List Oper} {o : Oper} {a : Act} {Q : Exit → Act → World → Prop} (hw : Region.wanted o (yielded ops a.tmps) = true) (x : Operand) (t : TypeId) (i : Nat) (hop : o.op = Op.field t x i) (u v : Value) (hx : a.eval x = u) (hrun : (Instr.field t u i).run P w = .ok v w)
    (hK : wpList P ops Q rest (a.put o.dst v) w) : wpList P ops Q (o :: rest) a w := by
  show if Region.wanted o (yielded ops a.tmps) = true then _ else _
  rw [if_pos hw]
  left
  unfold Oper.wp
  simp [execOp, hop, hx, hrun, Result.andThen]
  exact hK
theorem ans_field1 (s : ByteArray) (f : Bool) (n : Int) (w : World) : (Instr.field 59 (.agg #[.string s, .bool f, .int .i64 n]) 1).run Try.prog w = .ok (.bool f) w := by kernel_rfl
theorem ans_field2 (s : ByteArray) (f : Bool) (n : Int) (w : World) : (Instr.field 59 (.agg #[.string s, .bool f, .int .i64 n]) 2).run Try.prog w = .ok (.int .i64 n) w := by kernel_rfl
theorem ret_ansX {fn : Func} {p : Tmp} {tmps : Array Value} {W : World} {b : Nat} {x y z : Value} (h : fn.results = #[.cell p 59]) (hp : tmps.getD p undef = .pointer (some ⟨b, 0, none⟩)) (ht : Cs W b [x, y, z]) :
    (results fn tmps).run Try.prog W = .ok (.agg #[x, y, z]) W := by
  have q0 := ht.at 0 rfl
  have q1 := ht.at 1 rfl
  have q2 := ht.at 2 rfl
  have hp' : tmps[p]?.getD undef = .pointer (some ⟨b, 0, none⟩) := by simpa using hp
  simp [results, h, hp', go_sem, q0, q1, q2]
theorem all_more {α : Type} {f : α → Bool} {l : List α} {k : Nat} {x : α} (h0 : (l.take k).all f = true) (h : l[k]? = some x) (hx : f x = true) : (l.take (k + 1)).all f = true := by
  rw [take_at h, List.all_append, h0]; simp [hx]
theorem all_no {α : Type} {f : α → Bool} {l : List α} {k : Nat} {x : α} (h : l[k]? = some x) (hx : f x = false) : l.all f = false :=
  List.all_eq_false.2 ⟨x, List.mem_of_getElem? h, by rw [hx]; simp⟩

set_option maxRecDepth 100000 in
set_option maxHeartbeats 1000000 in
theorem book_answer (K : ByteArray → Option AnsD) (t : TabD) (v : Value) (w : World) (mb n c : Nat) (h : MapS Try.prog 9 w mb n c (ansF K)) (ht : TabAt w (Old w) t v) (hs : smallT t) (hl : t.ins.length ≤ 3) :
    Calls Try.prog 40 #[v, .map (some mb)] w fun e w' => e = .returned (ansVal (ansOf K t)) ∧ Below w.heap.size w w' := by
  have HM := Lib.hid h
  have HST := Lib.hid hs
  have HSI := Lib.hid (small_ins hs)
  have HT := Lib.hid ht
  have HE1 : Hid (t.ins.all (foundA K) = false → ansOf K t = (t.name, false, 0)) := fun hh => by unfold ansOf; rw [if_neg (by rw [hh]; decide)]
  have HE2 : Hid (t.ins.all (foundA K) = true → ansOf K t = (t.name, (saysV t (t.ins.map (numA K))).2.1, (saysV t (t.ins.map (numA K))).1)) := fun hh => by unfold ansOf; rw [if_pos hh]
  generalize ansOf K t = R at *
  clear h hs
  obtain ⟨vi, vr, rfl, hi, hr⟩ := ht
  have HI := Lib.hid hi
  obtain ⟨Ai, ci, rfl, hi1, hi2, -⟩ := hi
  obtain ⟨Ar, cr, rfl, hr1, hr2, -⟩ := hr
  unfold maxLen at hi2
  have hb0 := below_alloc1 w (.cells #[.string t.name, .int .i64 t.pol, .bool t.comp, .slice Ai t.ins.length ci, .slice Ar t.rules.length cr] 25)
  have C0 := Lib.hid (Cs.new w [.string t.name, .int .i64 t.pol, .bool t.comp, .slice Ai t.ins.length ci, .slice Ar t.rules.length cr] 25)
  have hz0 : (w.alloc (.cells #[.string t.name, .int .i64 t.pol, .bool t.comp, .slice Ai t.ins.length ci, .slice Ar t.rules.length cr] 25)).heap.size = w.heap.size + 1 := by simp
  change Hid (Cs (w.alloc (.cells #[.string t.name, .int .i64 t.pol, .bool t.comp, .slice Ai t.ins.length ci, .slice Ar t.rules.length cr] 25)) _ _) at C0
  generalize hw0 : w.alloc (.cells #[.string t.name, .int .i64 t.pol, .bool t.comp, .slice Ai t.ins.length ci, .slice Ar t.rules.length cr] 25) = w0 at *
  have hb1 := below_alloc1 w0 (.cells #[.string ⟨#[]⟩, .bool false, .int .i64 0] 59)
  have C1 := Lib.hid (Cs.new w0 [.string ⟨#[]⟩, .bool false, .int .i64 0] 59)
  have hz1 : (w0.alloc (.cells #[.string ⟨#[]⟩, .bool false, .int .i64 0] 59)).heap.size = w.heap.size + 2 := by simp; omega
  change Hid (Cs (w0.alloc (.cells #[.string ⟨#[]⟩, .bool false, .int .i64 0] 59)) _ _) at C1
  rw [hz0] at C1
  generalize hw1 : w0.alloc (.cells #[.string ⟨#[]⟩, .bool false, .int .i64 0] 59) = w1 at *
  have hb2 := below_alloc1 w1 (.cells #[.string t.name, .bool false, .int .i64 0] 59)
  have C2 := Lib.hid (Cs.new w1 [.string t.name, .bool false, .int .i64 0] 59)
  change Hid (Cs (w1.alloc (.cells #[.string t.name, .bool false, .int .i64 0] 59)) _ _) at C2
  rw [hz1] at C2
  have C12 := Lib.hid (C1.out.next hb2)
  have C01 := Lib.hid (C0.out.next hb1)
  have C02 := Lib.hid (C01.out.next hb2)
  have hb02 := bx hb0 (bx hb1 hb2)
  have k0 := C01.out.at 0 rfl
  have k3 := C02.out.at 3 rfl
  go_enter Try.func40, Try.ntmps40
  go_wp2
  generalize hw2 : w1.alloc (.cells #[.string t.name, .bool false, .int .i64 0] 59) = w2 at *
  go_loopw [6, 15] (fun u i wr => ∃ k : Nat, k ≤ t.ins.length ∧ i = .int .i64 k ∧ Hid (OwnG Enc.int wr w2.heap.size w2.heap.size 3 u ((t.ins.take k).map (numA K))) ∧ Hid ((t.ins.take k).all (foundA K) = true) ∧ Below w2.heap.size w2 wr) (fun _ i _ => t.ins.length - (intOf i).toNat)
  case atStart => exact ⟨0, Nat.zero_le _, rfl, OwnG.nil, rfl, Below.refl _ _⟩
  case round =>
    clear hw0 hw1 hw2 k0 k3 hb0 hb1 hb2
    obtain ⟨k, hk, rfl, HO, HF, hbl⟩ := hrel
    have hb := bx hb02 hbl
    have C0r := Lib.hid (C02.out.next hbl)
    have C1r := Lib.hid (C12.out.next hbl)
    have C2r := Lib.hid (C2.out.next hbl)
    have HMr := Lib.hid (HM.out.below hb)
    by_cases hlt : k < t.ins.length
    · obtain ⟨bb, o, x, rfl, _, hx, c1⟩ := (HI.out.onOld hb).str_at hlt
      have HSX := Lib.hid (HSI.out x (List.mem_of_getElem? hx.out))
      have hlk := ansF_get K x
      have HFO := Lib.hid (found_get K x)
      have HNU := Lib.hid (num_get K x)
      obtain ⟨⟨an, af, am⟩, hq⟩ : ∃ q : AnsD, q = (K x).getD zeroA := ⟨_, rfl⟩
      rw [← hq] at hlk HFO HNU
      clear hq
      rw [show ansVal (an, af, am) = .agg #[.string an, .bool af, .int .i64 am] from rfl] at hlk
      have HLK := Lib.hid hlk
      clear hlk
      simp only at HFO HNU
      have p0 := C2r.out.at 0 rfl
      have p1 := C2r.out.at 1 rfl
      have p2 := C2r.out.at 2 rfl
      have r0 := C1r.out.at 0 rfl
      have r1 := C1r.out.at 1 rfl
      have r2 := C1r.out.at 2 rfl
      have f0 := C1r.out.2.2 0 (by decide)
      have f1 := C1r.out.2.2 1 (by decide)
      have f2 := C1r.out.2.2 2 (by decide)
      cases af
      · have HR : Hid (R = (t.name, false, 0)) := HE1.out (all_no hx.out HFO.out.symm)
        go_wp2_with (at_lookup; refine wpList_lookS _ rfl _ _ 55 rfl 9 59 Try.underlying9 a_under (a_zero _) mb n c (ansF K) rfl HMr.out x rfl HSX.out (.agg #[.string an, .bool false, .int .i64 am]) HLK.out ?_; first | refine wpList_fieldS _ rfl _ 59 1 rfl _ _ rfl (ans_field1 an false am _) ?_ | refine wpList_fieldS _ rfl _ 59 2 rfl _ _ rfl (ans_field2 an false am _) ?_)
        (try simp only [Exit.inBlock, Exit.then])
        refine bodyPost_ret (ret_ansX (b := w.heap.size + 1) rfl rfl (((C1r.out.set 0 (by simp) _).set 1 (by simp) _).set 2 (by simp) _)) rfl ⟨?_, ((hb.setCell (by simp) _).setCell (by simp) _).setCell (by simp) _⟩
        rw [HR.out]; rfl
      · have HF2 := Lib.hid (all_more HF.out hx.out HFO.out.symm)
        have hbz := below_alloc1 wr (.cells #[.int .i64 am] 3)
        have HOa := Lib.hid (HO.out.alloc (.cells #[.int .i64 am] 3))
        have hbz2 := bx hbl hbz
        have hszz := hbz2.size
        have hlen : ((t.ins.take k).map (numA K)).length ≤ 3 := by rw [List.length_map, List.length_take]; omega
        go_wp2_with (first | (at_lookup; refine wpList_lookS _ rfl _ _ 55 rfl 9 59 Try.underlying9 a_under (a_zero _) mb n c (ansF K) rfl HMr.out x rfl HSX.out (.agg #[.string an, .bool true, .int .i64 am]) HLK.out ?_; first | refine wpList_fieldS _ rfl _ 59 1 rfl _ _ rfl (ans_field1 an true am _) ?_ | refine wpList_fieldS _ rfl _ 59 2 rfl _ _ rfl (ans_field2 an true am _) ?_) | (at_builtin; refine wpList_append_one (E := Enc.int) _ rfl _ _ 28 rfl w2.heap.size w2.heap.size 3 8 (.int .i64 0) under_intsT infoIntT rfl (by decide) _ _ rfl HOa.out ⟨wr.heap.size, 0, none⟩ am [.int .i64 am] rfl rfl (cell_one_new _ _ _) (by omega) (by unfold maxLen; omega) hszz ?_; intro v' w5 hown' hgrow5 hmv5))
        refine ⟨⟨k + 1, by omega, by go_num, ?_, HF2, hbz2.grown hgrow5 hszz (fun _ hr => (HOa.out.lt _ hr).1)⟩, by simp [intOf]; omega⟩
        show OwnG _ _ _ _ _ _ _
        rw [take_at hx.out, List.map_append]
        have e : numA K x = am := HNU.out.symm
        simp only [List.map_cons, List.map_nil, e]
        exact hown'
    · have e : t.ins.take k = t.ins := List.take_of_length_le (by omega)
      rw [e] at HO HF
      clear e
      have HR := Lib.hid (HE2.out HF.out)
      have q0 := C0r.out.at 0 rfl
      have q1 := C0r.out.at 1 rfl
      have q2 := C0r.out.at 2 rfl
      have q3 := C0r.out.at 3 rfl
      have q4 := C0r.out.at 4 rfl
      have HTr := Lib.hid (HT.out.onOld hb)
      have HSL := Lib.hid (HO.out.slOld (Nat.le_refl _))
      go_wp2_with fail
      refine (table_Says t _ _ _ _ HTr.out HSL.out HST.out).mono ?_
      rintro e w3 ⟨rfl, hb3⟩
      have hb03 := bx hb hb3
      have C1s := Lib.hid (C1r.out.next hb3)
      have C2s := Lib.hid (C2r.out.next hb3)
      clear q0 q1 q2 q3 q4
      generalize saysV t (t.ins.map (numA K)) = q at *
      obtain ⟨n1, n2, n3⟩ := q
      simp only at HR ⊢
      have p0 := C2s.out.at 0 rfl
      have p1 := C2s.out.at 1 rfl
      have p2 := C2s.out.at 2 rfl
      have g1 := C2s.out.2.2 1 (by simp)
      have g2 := C2s.out.2.2 2 (by simp)
      have D2 := Lib.hid ((C2s.out.set 2 (by simp) (.int .i64 n1)).set 1 (by simp) (.bool n2))
      have D1 := Lib.hid (((C1s.out.keep (w' := w3.setCell ⟨w.heap.size + 2, 2, none⟩ (.int .i64 n1)) (RowKit.Below.heap_setCell _ _ _ _ (by show w.heap.size + 1 ≠ w.heap.size + 2; omega)) (by simp [World.setCell])).keep (w' := (w3.setCell ⟨w.heap.size + 2, 2, none⟩ (.int .i64 n1)).setCell ⟨w.heap.size + 2, 1, none⟩ (.bool n2)) (RowKit.Below.heap_setCell _ _ _ _ (by show w.heap.size + 1 ≠ w.heap.size + 2; omega)) (by simp [World.setCell])))
      have e0 := D2.out.at 0 rfl
      have e1 := D2.out.at 1 rfl
      have e2 := D2.out.at 2 rfl
      have r0 := D1.out.at 0 rfl
      have r1 := D1.out.at 1 rfl
      have r2 := D1.out.at 2 rfl
      have f0 := D1.out.2.2 0 (by decide)
      have f1 := D1.out.2.2 1 (by decide)
      have f2 := D1.out.2.2 2 (by decide)
      go_wp2
      (try simp only [Exit.inBlock, Exit.then])
      refine bodyPost_ret (ret_ansX (b := w.heap.size + 1) rfl rfl (((D1.out.set 0 (by simp) _).set 1 (by simp) _).set 2 (by simp) _)) rfl ⟨?_, ((((hb03.setCell (by simp) _).setCell (by simp) _).setCell (by simp) _).setCell (by simp) _).setCell (by simp) _⟩
      rw [HR.out]; rfl

end Go.Proofs.Ythnfkghgaagaiab
