/- book.answer, as a Lean function of what its arguments read as. Conditions: the table reads as lists in old memory; names and lists fit into 2^47 bytes; it has at most three inputs; the map of what is known reads as a function of names. book.Ask, as a Lean function of what its arguments read as. Conditions: the book and the numbers read as lists in old memory; names and lists fit into 2^47 bytes. book.Ask, as a Lean function of what its arguments read as. Conditions: the book and the numbers read as lists in old memory; names and lists fit into 2^47 bytes. -/
import Derived.Test.YtmdljknlbmlacabGreatDoorBookE
import Derived.Test.YtmdljknlbmlacabGreatDoorTableF
import Derived.Test.YtmdljknlbmlacabGreatDoorBookJ
import Derived.Test.YtmdljknlbmlacabGreatDoorMemMore
namespace Go.Proofs.YtmdljknlbmlacabGreatDoor
open Go.RowKit

theorem a_under : Tryz.prog.underlying 85 = some (.map 9 84) := by kernel_rfl
theorem a_zero (w : World) : (zeroValue 84).run Tryz.prog w = .ok (ansVal zeroA) w := by kernel_rfl
theorem a_make (w : World) : (Instr.makeMap 85 none).run Tryz.prog w = .ok (.map (some w.heap.size)) (w.alloc (.map #[] 0)) := rfl
theorem ans_look {w : World} {b n c : Nat} {k : ByteArray → Option AnsD} (h : MapS Tryz.prog 9 w b n c (ansF k)) (s : ByteArray) (hs : s.size ≤ maxLen) :
    (Instr.lookup 85 (.map (some b)) (.string s) false).run Tryz.prog w = .ok (ansVal ((k s).getD zeroA)) w := by
  rw [h.look Tryz.underlying9 a_under (a_zero w) hs, ansF_get]
theorem wpList_fieldS {P : Program} (w : World) {ops : Array Oper} {rest : List Oper} {o : Oper} {a : Act} {Q : Exit → Act → World → Prop} (hg : o.guard = none) (x : Operand) (t : TypeId) (i : Nat) (hop : o.op = Op.field t x i) (u v : Value) (hx : a.eval x = u) (hrun : (Instr.field t u i).run P w = .ok v w)
    (hK : wpList P ops Q rest (a.put o.dst v) w) : wpList P ops Q (o :: rest) a w := by
  refine wpList_plain hg fun K' hK' => ?_
  unfold Oper.wp
  simp [execOp, hop, hx, hrun, Result.andThen]
  exact hK' _ _ hK
/-- the same two behind a guard that is met -/
theorem wpList_lookG {P : Program} (w : World) {ops : Array Oper} {rest : List Oper} {o : Oper} {a : Act} {Q : Exit → Act → World → Prop} (hw : Region.wanted o (yielded ops a.tmps) = true) (m x : Operand) (t : TypeId) (hop : o.op = Op.lookup t m x false) (k e : TypeId) (hk : P.underlying k = some .string) (ht : P.underlying t = some (.map k e)) {z : Value} (hz : (zeroValue e).run P w = .ok z w)
    (b n c : Nat) (f : ByteArray → Option Value) (hm : a.eval m = .map (some b)) (hown : MapS P k w b n c f) (s : ByteArray) (hx : a.eval x = .string s) (hs : s.size ≤ maxLen) (v : Value) (hv : (f s).getD z = v)
    (hK : wpList P ops Q rest (a.put o.dst v) w) : wpList P ops Q (o :: rest) a w := by
  show if Region.wanted o (yielded ops a.tmps) = true then _ else _
  rw [if_pos hw]
  left
  unfold Oper.wp
  simp [execOp, hop, hm, hx, hown.look hk ht hz hs, hv, Result.andThen]
  exact hK
theorem wpList_fieldG {P : Program} (w : World) {ops : Array Oper} {rest : List Oper} {o : Oper} {a : Act} {Q : Exit → Act → World → Prop} (hw : Region.wanted o (yielded ops a.tmps) = true) (x : Operand) (t : TypeId) (i : Nat) (hop : o.op = Op.field t x i) (u v : Value) (hx : a.eval x = u) (hrun : (Instr.field t u i).run P w = .ok v w)
    (hK : wpList P ops Q rest (a.put o.dst v) w) : wpList P ops Q (o :: rest) a w := by
  show if Region.wanted o (yielded ops a.tmps) = true then _ else _
  rw [if_pos hw]
  left
  unfold Oper.wp
  simp [execOp, hop, hx, hrun, Result.andThen]
  exact hK
theorem ans_field1 (s : ByteArray) (f : Bool) (n : Int) (w : World) : (Instr.field 84 (.agg #[.string s, .bool f, .int .i64 n]) 1).run Tryz.prog w = .ok (.bool f) w := by kernel_rfl
theorem ans_field2 (s : ByteArray) (f : Bool) (n : Int) (w : World) : (Instr.field 84 (.agg #[.string s, .bool f, .int .i64 n]) 2).run Tryz.prog w = .ok (.int .i64 n) w := by kernel_rfl
theorem ret_ansX {fn : Func} {p : Tmp} {tmps : Array Value} {W : World} {b : Nat} {x y z : Value} (h : fn.results = #[.cell p 84]) (hp : tmps.getD p undef = .pointer (some ⟨b, 0, none⟩)) (ht : Cs W b [x, y, z]) :
    (results fn tmps).run Tryz.prog W = .ok (.agg #[x, y, z]) W := by
  have q0 := ht.at 0 rfl
  have q1 := ht.at 1 rfl
  have q2 := ht.at 2 rfl
  have hp' : tmps[p]?.getD undef = .pointer (some ⟨b, 0, none⟩) := by simpa using hp
  simp [results, h, hp', go_sem, q0, q1, q2]
theorem all_more {α : Type} {f : α → Bool} {l : List α} {k : Nat} {x : α} (h0 : (l.take k).all f = true) (h : l[k]? = some x) (hx : f x = true) : (l.take (k + 1)).all f = true := by
  rw [take_at h, List.all_append, h0]; simp [hx]
theorem all_no {α : Type} {f : α → Bool} {l : List α} {k : Nat} {x : α} (h : l[k]? = some x) (hx : f x = false) : l.all f = false :=
  List.all_eq_false.2 ⟨x, List.mem_of_getElem? h, by rw [hx]; simp⟩

set_option maxRecDepth 100000 in
set_option maxHeartbeats 1000000 in
theorem book_answer (K : ByteArray → Option AnsD) (t : TabD) (v : Value) (w : World) (mb n c : Nat) (h : MapS Tryz.prog 9 w mb n c (ansF K)) (ht : TabAt w (Old w) t v) (hs : smallT t) (hl : t.ins.length ≤ 3) :
    Calls Tryz.prog 35 #[v, .map (some mb)] w fun e w' => e = .returned (ansVal (ansOf K t)) ∧ Below w.heap.size w w' := by
  have HM := Lib.hid h
  have HST := Lib.hid hs
  have HSI := Lib.hid (small_ins hs)
  have HT := Lib.hid ht
  have HE1 : Hid (t.ins.all (foundA K) = false → ansOf K t = (t.name, false, 0)) := fun hh => by unfold ansOf; rw [if_neg (by rw [hh]; decide)]
  have HE2 : Hid (t.ins.all (foundA K) = true → ansOf K t = (t.name, (saysV t (t.ins.map (numA K))).2.1, (saysV t (t.ins.map (numA K))).1)) := fun hh => by unfold ansOf; rw [if_pos hh]
  generalize ansOf K t = R at *
  clear h hs
  obtain ⟨vi, vr, rfl, hi, hr⟩ := ht
  have HI := Lib.hid hi
  obtain ⟨Ai, ci, rfl, hi1, hi2, -⟩ := hi
  obtain ⟨Ar, cr, rfl, hr1, hr2, -⟩ := hr
  unfold maxLen at hi2
  have hb0 := below_alloc1 w (.cells #[.string t.name, .int .i64 t.pol, .bool t.comp, .slice Ai t.ins.length ci, .slice Ar t.rules.length cr] 59)
  have C0 := Lib.hid (Cs.new w [.string t.name, .int .i64 t.pol, .bool t.comp, .slice Ai t.ins.length ci, .slice Ar t.rules.length cr] 59)
  have hz0 : (w.alloc (.cells #[.string t.name, .int .i64 t.pol, .bool t.comp, .slice Ai t.ins.length ci, .slice Ar t.rules.length cr] 59)).heap.size = w.heap.size + 1 := by simp
  change Hid (Cs (w.alloc (.cells #[.string t.name, .int .i64 t.pol, .bool t.comp, .slice Ai t.ins.length ci, .slice Ar t.rules.length cr] 59)) _ _) at C0
  generalize hw0 : w.alloc (.cells #[.string t.name, .int .i64 t.pol, .bool t.comp, .slice Ai t.ins.length ci, .slice Ar t.rules.length cr] 59) = w0 at *
  have hb1 := below_alloc1 w0 (.cells #[.string ⟨#[]⟩, .bool false, .int .i64 0] 84)
  have C1 := Lib.hid (Cs.new w0 [.string ⟨#[]⟩, .bool false, .int .i64 0] 84)
  have hz1 : (w0.alloc (.cells #[.string ⟨#[]⟩, .bool false, .int .i64 0] 84)).heap.size = w.heap.size + 2 := by simp; omega
  change Hid (Cs (w0.alloc (.cells #[.string ⟨#[]⟩, .bool false, .int .i64 0] 84)) _ _) at C1
  rw [hz0] at C1
  generalize hw1 : w0.alloc (.cells #[.string ⟨#[]⟩, .bool false, .int .i64 0] 84) = w1 at *
  have hb2 := below_alloc1 w1 (.cells #[.string t.name, .bool false, .int .i64 0] 84)
  have C2 := Lib.hid (Cs.new w1 [.string t.name, .bool false, .int .i64 0] 84)
  change Hid (Cs (w1.alloc (.cells #[.string t.name, .bool false, .int .i64 0] 84)) _ _) at C2
  rw [hz1] at C2
  have C12 := Lib.hid (C1.out.next hb2)
  have C01 := Lib.hid (C0.out.next hb1)
  have C02 := Lib.hid (C01.out.next hb2)
  have hb02 := bx hb0 (bx hb1 hb2)
  have k0 := C01.out.at 0 rfl
  have k3 := C02.out.at 3 rfl
  go_enter Tryz.func35, Tryz.ntmps35
  go_wp2
  generalize hw2 : w1.alloc (.cells #[.string t.name, .bool false, .int .i64 0] 84) = w2 at *
  go_loopw [6, 15] (fun u i wr => ∃ k : Nat, k ≤ t.ins.length ∧ i = .int .i64 k ∧ Hid (OwnG Enc.int wr w2.heap.size w2.heap.size 3 u ((t.ins.take k).map (numA K))) ∧ Hid ((t.ins.take k).all (foundA K) = true) ∧ Below w2.heap.size w2 wr) (fun _ i _ => t.ins.length - (intOf i).toNat)
  case atStart => exact ⟨0, Nat.zero_le _, rfl, OwnG.nil, rfl, Below.refl _ _⟩
  case round =>
    clear hw0 hw1 hw2 k0 k3 hb0 hb1 hb2
    obtain ⟨k, hk, rfl, HO, HF, hbl⟩ := hrel
    have hb := bx hb02 hbl
    have C0r := Lib.hid (C02.out.next hbl)
    have C1r := Lib.hid (C12.out.next hbl)
    have C2r := Lib.hid (C2.out.next hbl)
    have HMr := Lib.hid (HM.out.below hb)
    by_cases hlt : k < t.ins.length
    · obtain ⟨bb, o, x, rfl, _, hx, c1⟩ := (HI.out.onOld hb).str_at hlt
      have HSX := Lib.hid (HSI.out x (List.mem_of_getElem? hx.out))
      have hlk := ansF_get K x
      have HFO := Lib.hid (found_get K x)
      have HNU := Lib.hid (num_get K x)
      obtain ⟨⟨an, af, am⟩, hq⟩ : ∃ q : AnsD, q = (K x).getD zeroA := ⟨_, rfl⟩
      rw [← hq] at hlk HFO HNU
      clear hq
      rw [show ansVal (an, af, am) = .agg #[.string an, .bool af, .int .i64 am] from rfl] at hlk
      have HLK := Lib.hid hlk
      clear hlk
      simp only at HFO HNU
      have p0 := C2r.out.at 0 rfl
      have p1 := C2r.out.at 1 rfl
      have p2 := C2r.out.at 2 rfl
      have r0 := C1r.out.at 0 rfl
      have r1 := C1r.out.at 1 rfl
      have r2 := C1r.out.at 2 rfl
      have f0 := C1r.out.2.2 0 (by decide)
      have f1 := C1r.out.2.2 1 (by decide)
      have f2 := C1r.out.2.2 2 (by decide)
      cases af
      · have HR : Hid (R = (t.name, false, 0)) := HE1.out (all_no hx.out HFO.out.symm)
        go_wp2_with (at_lookup; refine wpList_lookS _ rfl _ _ 85 rfl 9 84 Tryz.underlying9 a_under (a_zero _) mb n c (ansF K) rfl HMr.out x rfl HSX.out (.agg #[.string an, .bool false, .int .i64 am]) HLK.out ?_; first | refine wpList_fieldS _ rfl _ 84 1 rfl _ _ rfl (ans_field1 an false am _) ?_ | refine wpList_fieldS _ rfl _ 84 2 rfl _ _ rfl (ans_field2 an false am _) ?_)
        (try simp only [Exit.inBlock, Exit.then])
        refine bodyPost_ret (ret_ansX (b := w.heap.size + 1) rfl rfl (((C1r.out.set 0 (by simp) _).set 1 (by simp) _).set 2 (by simp) _)) rfl ⟨?_, ((hb.setCell (by simp) _).setCell (by simp) _).setCell (by simp) _⟩
        rw [HR.out]; rfl
      · have HF2 := Lib.hid (all_more HF.out hx.out HFO.out.symm)
        have hbz := below_alloc1 wr (.cells #[.int .i64 am] 3)
        have HOa := Lib.hid (HO.out.alloc (.cells #[.int .i64 am] 3))
        have hbz2 := bx hbl hbz
        have hszz := hbz2.size
        have hlen : ((t.ins.take k).map (numA K)).length ≤ 3 := by rw [List.length_map, List.length_take]; omega
        go_wp2_with (first | (at_lookup; refine wpList_lookS _ rfl _ _ 85 rfl 9 84 Tryz.underlying9 a_under (a_zero _) mb n c (ansF K) rfl HMr.out x rfl HSX.out (.agg #[.string an, .bool true, .int .i64 am]) HLK.out ?_; first | refine wpList_fieldS _ rfl _ 84 1 rfl _ _ rfl (ans_field1 an true am _) ?_ | refine wpList_fieldS _ rfl _ 84 2 rfl _ _ rfl (ans_field2 an true am _) ?_) | (at_builtin; refine wpList_append_one (E := Enc.int) _ rfl _ _ 27 rfl w2.heap.size w2.heap.size 3 8 (.int .i64 0) under_intsT infoIntT rfl (by decide) _ _ rfl HOa.out ⟨wr.heap.size, 0, none⟩ am [.int .i64 am] rfl rfl (cell_one_new _ _ _) (by omega) (by unfold maxLen; omega) hszz ?_; intro v' w5 hown' hgrow5 hmv5))
        refine ⟨⟨k + 1, by omega, by go_num, ?_, HF2, hbz2.grown hgrow5 hszz (fun _ hr => (HOa.out.lt _ hr).1)⟩, by simp [intOf]; omega⟩
        show OwnG _ _ _ _ _ _ _
        rw [take_at hx.out, List.map_append]
        have e : numA K x = am := HNU.out.symm
        simp only [List.map_cons, List.map_nil, e]
        exact hown'
    · have e : t.ins.take k = t.ins := List.take_of_length_le (by omega)
      rw [e] at HO HF
      clear e
      have HR := Lib.hid (HE2.out HF.out)
      have q0 := C0r.out.at 0 rfl
      have q1 := C0r.out.at 1 rfl
      have q2 := C0r.out.at 2 rfl
      have q3 := C0r.out.at 3 rfl
      have q4 := C0r.out.at 4 rfl
      have HTr := Lib.hid (HT.out.onOld hb)
      have HSL := Lib.hid (HO.out.slOld (Nat.le_refl _))
      go_wp2_with fail
      refine (table_Says t _ _ _ _ HTr.out HSL.out HST.out).mono ?_
      rintro e w3 ⟨rfl, hb3⟩
      have hb03 := bx hb hb3
      have C1s := Lib.hid (C1r.out.next hb3)
      have C2s := Lib.hid (C2r.out.next hb3)
      clear q0 q1 q2 q3 q4
      generalize saysV t (t.ins.map (numA K)) = q at *
      obtain ⟨n1, n2, n3⟩ := q
      simp only at HR ⊢
      have p0 := C2s.out.at 0 rfl
      have p1 := C2s.out.at 1 rfl
      have p2 := C2s.out.at 2 rfl
      have g1 := C2s.out.2.2 1 (by simp)
      have g2 := C2s.out.2.2 2 (by simp)
      have D2 := Lib.hid ((C2s.out.set 2 (by simp) (.int .i64 n1)).set 1 (by simp) (.bool n2))
      have D1 := Lib.hid (((C1s.out.keep (w' := w3.setCell ⟨w.heap.size + 2, 2, none⟩ (.int .i64 n1)) (RowKit.Below.heap_setCell _ _ _ _ (by show w.heap.size + 1 ≠ w.heap.size + 2; omega)) (by simp [World.setCell])).keep (w' := (w3.setCell ⟨w.heap.size + 2, 2, none⟩ (.int .i64 n1)).setCell ⟨w.heap.size + 2, 1, none⟩ (.bool n2)) (RowKit.Below.heap_setCell _ _ _ _ (by show w.heap.size + 1 ≠ w.heap.size + 2; omega)) (by simp [World.setCell])))
      have e0 := D2.out.at 0 rfl
      have e1 := D2.out.at 1 rfl
      have e2 := D2.out.at 2 rfl
      have r0 := D1.out.at 0 rfl
      have r1 := D1.out.at 1 rfl
      have r2 := D1.out.at 2 rfl
      have f0 := D1.out.2.2 0 (by decide)
      have f1 := D1.out.2.2 1 (by decide)
      have f2 := D1.out.2.2 2 (by decide)
      go_wp2
      (try simp only [Exit.inBlock, Exit.then])
      refine bodyPost_ret (ret_ansX (b := w.heap.size + 1) rfl rfl (((D1.out.set 0 (by simp) _).set 1 (by simp) _).set 2 (by simp) _)) rfl ⟨?_, ((((hb03.setCell (by simp) _).setCell (by simp) _).setCell (by simp) _).setCell (by simp) _).setCell (by simp) _⟩
      rw [HR.out]; rfl

end Go.Proofs.YtmdljknlbmlacabGreatDoor
namespace Go.Proofs.YtmdljknlbmlacabGreatDoor
open Go.RowKit

def Enc.ans : Enc AnsD := Enc.str.pair (Enc.bool.pair Enc.int)
theorem Enc.ans_rd {w : World} {S : Nat → Prop} {d : AnsD} {cs : List Value} : Enc.ans.rd w S d cs ↔ cs = [.string d.1, .bool d.2.1, .int .i64 d.2.2] := by
  constructor
  · rintro ⟨c1, _, rfl, h1, c2, c3, rfl, h2, h3⟩
    have h1' : c1 = [.string d.1] := h1
    have h2' : c2 = [.bool d.2.1] := h2
    have h3' : c3 = [.int .i64 d.2.2] := h3
    subst h1' h2' h3'
    rfl
  · rintro rfl
    exact ⟨[.string d.1], _, rfl, rfl, [.bool d.2.1], _, rfl, rfl, rfl⟩
theorem Sl.ans_at {w : World} {S : Nat → Prop} {l : List AnsD} {A : Option Addr} {n c : Nat} (h : Sl Enc.ans w S l (.slice A n c)) {k : Nat} (hk : k < l.length) :
    ∃ b o nm f m, A = some ⟨b, o, none⟩ ∧ S b ∧ Hid (l[k]? = some (nm, f, m)) ∧ w.cell? ⟨b, o + k * 3, none⟩ = some (.string nm) ∧ w.cell? ⟨b, o + k * 3 + 1, none⟩ = some (.bool f) ∧ w.cell? ⟨b, o + k * 3 + 2, none⟩ = some (.int .i64 m) := by
  obtain ⟨b, o, cs, rfl, hS, hr, hc⟩ := h.at hk
  rw [Enc.ans_rd] at hr
  subst hr
  exact ⟨b, o, l[k].1, l[k].2.1, l[k].2.2, rfl, hS, List.getElem?_eq_getElem hk, hc 0 _ rfl, hc 1 _ rfl, hc 2 _ rfl⟩
theorem ans_under : Tryz.prog.underlying 35 = some (.slice 84) := by kernel_rfl
theorem ans_info : (Tryz.prog.info? 84).map (fun i => (i.zero, i.size, i.bytes)) = some (some (.agg #[.string ⟨#[]⟩, .bool false, .int .i64 0]), 3, 32) := by kernel_rfl
theorem cell_new3 (w : World) (x y z : Value) (e : Nat) : ∀ j u, [x, y, z][j]? = some u → (w.alloc (.cells #[x, y, z] e)).cell? ((⟨w.heap.size, 0, none⟩ : Addr).add j) = some u := by
  intro j u hu
  have ea : (⟨w.heap.size, 0, none⟩ : Addr).add j = ⟨w.heap.size, 0 + j, none⟩ := by unfold Addr.add; split <;> simp_all
  rw [ea, Nat.zero_add]
  exact cell_new _ _ _ _ _ (by simpa using hu)
def AskPost (R : List AnsD × Int) (w : World) (e : Ending) (w' : World) : Prop := ∃ v, e = .returned (.tuple #[v, .int .i64 R.2]) ∧ Sl Enc.ans w' (From w.heap.size w') R.1 v ∧ Below w.heap.size w w'
theorem AskPost.no {R : List AnsD × Int} {w w' : World} {c : Int} (h : R = ([], c)) (hb : Below w.heap.size w w') : AskPost R w (.returned (.tuple #[.slice none 0 0, .int .i64 c])) w' := by
  subst h; exact ⟨_, rfl, Sl.nil, hb⟩

theorem domK_snoc {d : DomD} {n : Int} : ∀ (ds : List DomD) (l : List Int) (K : ByteArray → Option AnsD), ds.length = l.length → domK (ds ++ [d]) (l ++ [n]) K = putA (domK ds l K) d.1 (d.1, true, n)
  | [], [], K, _ => rfl
  | a :: ds, m :: l, K, h => by simp only [List.cons_append, domK]; exact domK_snoc ds l _ (by simpa using h)
  | [], _ :: _, _, h => by simp at h
  | _ :: _, [], _, h => by simp at h
theorem inDoms_snoc {d : DomD} {n : Int} : ∀ (ds : List DomD) (l : List Int), ds.length = l.length → inDoms (ds ++ [d]) (l ++ [n]) = (inDoms ds l && (decide (d.2.1 ≤ n) && decide (n ≤ d.2.2)))
  | [], [], _ => by simp [inDoms]
  | a :: ds, m :: l, h => by simp only [List.cons_append, inDoms]; rw [inDoms_snoc ds l (by simpa using h)]; simp [Bool.and_assoc]
  | [], _ :: _, h => by simp at h
  | _ :: _, [], h => by simp at h
theorem inDoms_front : ∀ {ds : List DomD} {l : List Int} (k : Nat), inDoms ds l = true → inDoms (ds.take k) (l.take k) = true
  | [], l, k, _ => by simp [inDoms]
  | a :: ds, [], k, _ => by cases k <;> simp [inDoms]
  | a :: ds, m :: l, 0, _ => rfl
  | a :: ds, m :: l, k + 1, h => by
    simp only [inDoms, Bool.and_eq_true] at h
    simp only [List.take_succ_cons, inDoms, Bool.and_eq_true]
    exact ⟨h.1, inDoms_front k h.2⟩
theorem dom_more {ds : List DomD} {l : List Int} (hl : ds.length = l.length) {k : Nat} {d : DomD} {n : Int} (h : ds[k]? = some d) (h' : l[k]? = some n) (K : ByteArray → Option AnsD) :
    domK (ds.take (k + 1)) (l.take (k + 1)) K = putA (domK (ds.take k) (l.take k) K) d.1 (d.1, true, n) ∧ inDoms (ds.take (k + 1)) (l.take (k + 1)) = (inDoms (ds.take k) (l.take k) && (decide (d.2.1 ≤ n) && decide (n ≤ d.2.2))) := by
  have e : (ds.take k).length = (l.take k).length := by rw [List.length_take, List.length_take, hl]
  rw [take_at h, take_at h']
  exact ⟨domK_snoc _ _ _ e, inDoms_snoc _ _ e⟩
theorem inDoms_no {ds : List DomD} {l : List Int} (hl : ds.length = l.length) {k : Nat} {d : DomD} {n : Int} (h : ds[k]? = some d) (h' : l[k]? = some n) (hx : (decide (d.2.1 ≤ n) && decide (n ≤ d.2.2)) = false) : inDoms ds l = false := by
  cases hh : inDoms ds l
  · rfl
  · have := inDoms_front (k + 1) hh
    rw [(dom_more hl h h' (fun _ => none)).2, hx] at this
    simp at this
theorem askK_snoc {ts : List TabD} {s : ByteArray} : ∀ (l : List ByteArray) (K : ByteArray → Option AnsD), askK ts (l ++ [s]) K = putA (askK ts l K) s (ansOf (askK ts l K) ((findT ts s).getD zeroT))
  | [], K => rfl
  | a :: l, K => by simp only [List.cons_append, askK]; exact askK_snoc l _
theorem ask_check {b : BookD} {l : List Int} (h : (checkV b).2.2 ≠ 0) : askV b l = ([], (checkV b).2.2) := by unfold askV; rw [if_pos h]
theorem ask_len {b : BookD} {l : List Int} (h : (checkV b).2.2 = 0) (hl : l.length ≠ b.doms.length) : askV b l = ([], 1) := by unfold askV; rw [if_neg (by simp [h]), if_pos hl]
theorem ask_range {b : BookD} {l : List Int} (h : (checkV b).2.2 = 0) (hl : l.length = b.doms.length) (hi : inDoms b.doms l = false) : askV b l = ([], 2) := by unfold askV; rw [if_neg (by simp [h]), if_neg (by simp [hl]), if_pos hi]
theorem ask_all {b : BookD} {l : List Int} (h : (checkV b).2.2 = 0) (hl : l.length = b.doms.length) (hi : inDoms b.doms l = true) : askV b l = (ansL b l, 0) := by unfold askV; rw [if_neg (by simp [h]), if_neg (by simp [hl]), if_neg (by simp [hi])]; rfl

end Go.Proofs.YtmdljknlbmlacabGreatDoor
namespace Go.Proofs.YtmdljknlbmlacabGreatDoor
open Go.RowKit

theorem MapS.ansPut {w' : World} {mb n c : Nat} {K : ByteArray → Option AnsD} {s : ByteArray} {a : AnsD} (hm : MapS Tryz.prog 9 w' mb (n + 1) (if (ansF K s).isSome then c else c + 1) (fun x => if sameS x s then some (ansVal a) else ansF K x)) : ∃ cc, MapS Tryz.prog 9 w' mb (n + 1) cc (ansF (putA K s a)) :=
  ⟨_, hm.congr fun x => ansF_put K s x a⟩

set_option maxRecDepth 100000 in
set_option maxHeartbeats 2000000 in
theorem book_Ask (b : BookD) (l : List Int) (v vl : Value) (w : World) (h : BookAt w (Old w) b v) (hl : Sl Enc.int w (Old w) l vl) (hs : smallB b) :
    Calls Tryz.prog 12 #[v, vl] w (AskPost (askV b l) w) := by
  have HS := Lib.hid hs
  have HB := Lib.hid h
  have HL := Lib.hid hl
  have HX1 : Hid ((checkV b).2.2 ≠ 0 → askV b l = ([], (checkV b).2.2)) := ask_check
  have HX2 : Hid ((checkV b).2.2 = 0 → l.length ≠ b.doms.length → askV b l = ([], 1)) := ask_len
  have HX3 : Hid ((checkV b).2.2 = 0 → l.length = b.doms.length → inDoms b.doms l = false → askV b l = ([], 2)) := ask_range
  have HX4 : Hid ((checkV b).2.2 = 0 → l.length = b.doms.length → inDoms b.doms l = true → askV b l = (ansL b l, 0)) := ask_all
  clear hs
  generalize askV b l = R at *
  obtain ⟨vd, vt, rfl, h1, h2⟩ := h
  have HD := Lib.hid h1
  have HTS := Lib.hid h2
  obtain ⟨A, c, rfl, hc1, hc2, -⟩ := h1
  obtain ⟨B, d, rfl, hd1, hd2, -⟩ := h2
  obtain ⟨L, e, rfl, he1, he2, -⟩ := hl
  unfold maxLen at hc2 hd2 he2
  have hb0 := below_alloc1 w (.cells #[.slice A b.doms.length c, .slice B b.tabs.length d] 25)
  have C0 := Lib.hid (Cs.new w [.slice A b.doms.length c, .slice B b.tabs.length d] 25)
  change Hid (Cs (w.alloc (.cells #[.slice A b.doms.length c, .slice B b.tabs.length d] 25)) _ _) at C0
  generalize hw0 : w.alloc (.cells #[.slice A b.doms.length c, .slice B b.tabs.length d] 25) = w0 at *
  have k0 := C0.out.at 0 rfl
  have k1 := C0.out.at 1 rfl
  have HB0 := Lib.hid (HB.out.onOld hb0)
  go_enter Tryz.func12, Tryz.ntmps12
  go_wp2_with fail
  clear hw0
  refine (book_Check b _ _ HB0.out HS.out).mono ?_
  rintro ee w1 ⟨v1, rfl, hn1, hb1⟩
  obtain ⟨A1, c1, rfl, -, -⟩ := hn1.form
  clear hn1 k0 k1
  have hb01 := bx hb0 hb1
  have C1 := Lib.hid (C0.out.next hb1)
  have k0 := C1.out.at 0 rfl
  have k1 := C1.out.at 1 rfl
  by_cases hcd : ¬ (checkV b).2.2 = 0
  · have HR := Lib.hid (HX1.out hcd)
    generalize (checkV b).2.2 = cd at *
    have hcd' : (cd == 0) = false := by simpa using hcd
    go_wp2
    go_ret2
    exact AskPost.no HR.out hb01
  have hcd := Decidable.not_not.1 hcd
  have HC0 := Lib.hid hcd
  rw [hcd]
  clear hcd HX1
  by_cases hll : ¬ l.length = b.doms.length
  · have HR := Lib.hid (HX2.out HC0.out hll)
    have hll' : ((l.length : Int) == (b.doms.length : Int)) = false := beq_eq_false_iff_ne.2 (by omega)
    go_wp2
    go_ret2
    exact AskPost.no HR.out hb01
  have hll := Decidable.not_not.1 hll
  have HLL := Lib.hid hll
  have hll' : ((l.length : Int) == (b.doms.length : Int)) = true := by rw [beq_iff_eq]; omega
  have HX5 := Lib.hid (HX3.out HC0.out hll)
  have HX6 := Lib.hid (HX4.out HC0.out hll)
  have HOK := Lib.hid (check_ok HC0.out)
  have hd4 : b.doms.length ≤ 4 := HOK.out.1
  have ht4 : b.tabs.length ≤ 4 := HOK.out.2.1
  have hl4 : l.length ≤ 4 := by omega
  clear HX2 HX3 HX4 hll
  have hbm := below_alloc1 w1 (.map #[] 0)
  have M1 := Lib.hid (MapS.made Tryz.prog 9 w1)
  have hmk := a_make w1
  have CM := Lib.hid (C1.out.next hbm)
  have hb0m := bx hb01 hbm
  generalize hwm : w1.alloc (.map #[] 0) = wm at *
  have km0 := CM.out.at 0 rfl
  have hmbw : w.heap.size < w1.heap.size := C1.out.1
  go_wp2
  have hne : ((l.length : Int) != (b.doms.length : Int)) = false := by simp only [bne, hll']; rfl
  simp only [hne]
  go_loopw [40] (fun i wr => ∃ k cc : Nat, k ≤ b.doms.length ∧ i = .int .i64 k ∧ Hid (MapS Tryz.prog 9 wr w1.heap.size k cc (ansF (domK (b.doms.take k) (l.take k) fun _ => none))) ∧ Hid (inDoms (b.doms.take k) (l.take k) = true) ∧ Hid (Cs wr w.heap.size [.slice A b.doms.length c, .slice B b.tabs.length d]) ∧ Below w.heap.size w wr) (fun i _ => b.doms.length - (intOf i).toNat)
  case atStart => exact ⟨0, 0, Nat.zero_le _, rfl, M1, rfl, CM, hb0m⟩
  case round =>
    clear k0 k1 km0 hmk hwm hbm hb0m hb01 hb0 hb1 HB0 C0 C1 CM M1 hll'
    obtain ⟨k, cc, hk, rfl, HM, HIN, CB, hb⟩ := hrel
    by_cases hlt : k < b.doms.length
    · obtain ⟨bb, o, nm, lo, hi, rfl, hSb, hx, c1, c2, c3⟩ := (HD.out.onOld hb).dom_at hlt
      obtain ⟨bi, oi, nn, rfl, hSi, hxn, ci⟩ := (HL.out.onOld hb).num_at (k := k) (by have := HLL.out; omega)
      have hbz := below_alloc1 wr (.cells #[.string nm, .int .i64 lo, .int .i64 hi] 69)
      have hb2 := bx hb hbz
      have CN := Lib.hid (Cs.new wr [.string nm, .int .i64 lo, .int .i64 hi] 69)
      change Hid (Cs (wr.alloc (.cells #[.string nm, .int .i64 lo, .int .i64 hi] 69)) _ _) at CN
      have CBa := Lib.hid (CB.out.next hbz)
      have HMa := Lib.hid (HM.out.below hbz)
      have q0 := CN.out.at 0 rfl
      have q1 := CN.out.at 1 rfl
      have q2 := CN.out.at 2 rfl
      have cia := (hbz.cell (p := ⟨bi, oi + k, none⟩) hSi).trans ci
      have HNM : Hid (nm.size ≤ maxLen) := by have := HS.out.1 _ (List.mem_of_getElem? hx.out); show _ ≤ _; unfold maxLen; simp only at this; omega
      have HDM := Lib.hid (dom_more HLL.out.symm hx.out hxn.out (fun _ => none))
      have HDN := Lib.hid (inDoms_no HLL.out.symm hx.out hxn.out)
      have hk0 : (0 : Int) ≤ k := by omega
      have hk1 : (k : Int) < l.length := by have := HLL.out; omega
      have hkm : k < maxLen := by unfold maxLen; omega
      generalize hwa : wr.alloc (.cells #[.string nm, .int .i64 lo, .int .i64 hi] 69) = wa at *
      by_cases h1 : nn < lo
      · have HR := Lib.hid (HX5.out (HDN.out (by simp; omega)))
        go_wp2_with fail
        go_quiet (fail)
        go_wp2
        go_ret2
        exact AskPost.no HR.out (below_drewN hb2 _)
      · have h1' : decide (nn < lo) = false := decide_eq_false h1
        by_cases h2 : hi < nn
        · have HR := Lib.hid (HX5.out (HDN.out (by simp; omega)))
          go_wp2_with fail
          go_quiet (fail)
          go_wp2
          go_ret2
          exact AskPost.no HR.out (below_drewN hb2 _)
        · have h2' : decide (hi < nn) = false := decide_eq_false h2
          have HIN2 : Hid (inDoms (b.doms.take (k + 1)) (l.take (k + 1)) = true) := by
            show _ = _
            rw [HDM.out.2, HIN.out]; simp; omega
          go_wp2_with fail
          go_quiet (fail)
          obtain ⟨w3, hw3⟩ : ∃ w3, wa.drewN nq = w3 := ⟨_, rfl⟩
          have q0 : w3.cell? ⟨wr.heap.size, 0, none⟩ = some (.string nm) := by subst hw3; exact q0
          have cia : w3.cell? ⟨bi, oi + k, none⟩ = some (.int .i64 nn) := by subst hw3; exact cia
          have hb3 : Below w.heap.size w w3 := by subst hw3; exact below_drewN hb2 _
          have HM3 : Hid (MapS Tryz.prog 9 w3 w1.heap.size k cc (ansF (domK (b.doms.take k) (l.take k) fun _ => none))) := by subst hw3; exact HMa.out
          have CB3 : Hid (Cs w3 w.heap.size [.slice (some ⟨bb, o, none⟩) b.doms.length c, .slice B b.tabs.length d]) := by subst hw3; exact CBa.out.next (below_drewN (Below.refl _ _) _)
          rw [hw3]
          clear hw3 h1' h2'
          go_wp2_with fail
          go_still_tail 10, (by kernel_rfl)
          go_wp2_with (at_mapUpdate; refine wpList_putS _ rfl _ _ _ 85 rfl 9 84 Tryz.underlying9 a_under w1.heap.size k cc _ rfl (by exact HM3.out) nm rfl HNM.out hkm (ansVal (nm, true, nn)) rfl ?_; intro w4 hm4 hg4)
          obtain ⟨cc4, hm5⟩ := MapS.ansPut (a := (nm, true, nn)) hm4
          rw [← HDM.out.1] at hm5
          have hd3 : Below w3.heap.size w3 w3.drew := (Below.refl _ _).drew
          have hb3d := bx hb3 hd3
          exact ⟨⟨k + 1, cc4, by omega, by go_num, hm5, HIN2, (CB3.out.next hd3).grown hg4 (by omega), hb3d.grown hg4 hb3d.size (fun _ hj => by injection hj with hj; omega)⟩, by simp [intOf]; omega⟩
    · have ek : k = b.doms.length := by omega
      subst ek
      rw [List.take_length, List.take_of_length_le (by have := HLL.out; omega)] at HM HIN
      have HR := Lib.hid (HX6.out HIN.out)
      clear hlt hk HIN HX5 HX6
      obtain ⟨ol, ho⟩ := HOK.out.2.2.2.2.2.1
      have hnd := good_nodup HOK.out.2.2.2.1
      have hol : ol.length ≤ 4 := by rw [order_length hnd ho]; exact ht4
      have HHO := Lib.hid ho
      have HND := Lib.hid hnd
      have HAK : Hid (askR b l = askK b.tabs ol (domK b.doms l fun _ => none)) := by show _ = _; unfold askR; rw [ho]; rfl
      clear ho hnd
      generalize hK0 : domK b.doms l (fun _ => none) = K0 at *
      have HBa := Lib.hid (HB.out.onOld hb)
      have k0 := CB.out.at 0 rfl
      have k1 := CB.out.at 1 rfl
      have hmlt := HM.out.lt
      go_wp2_with fail
      refine (book_Order b _ _ HBa.out HS.out HND.out (by omega)).mono ?_
      rintro ee w5 ⟨v5, rfl, hn5, hb5⟩
      have ho5 := HHO.out
      rw [ho5] at hn5 ⊢
      simp only [Option.getD_some, Option.isSome_some] at hn5 ⊢
      have HN5 := Lib.hid hn5
      obtain ⟨A5, c5, rfl, hA5, hA5'⟩ := hn5.form
      unfold maxLen at hA5'
      have hb05 := bx hb hb5
      have CB5 := Lib.hid (CB.out.next hb5)
      have HM5 := Lib.hid (HM.out.below hb5)
      have hmlt5 := HM5.out.lt
      clear hn5 ho5 k0 k1
      go_wp2
      go_loopw [79] (fun i w6 => ∃ k cc : Nat, k ≤ ol.length ∧ i = .int .i64 k ∧ Hid (MapS Tryz.prog 9 w6 w1.heap.size (b.doms.length + k) cc (ansF (askK b.tabs (ol.take k) K0))) ∧ Hid (w5.grownBy w6 (some w1.heap.size))) (fun i _ => ol.length - (intOf i).toNat)
      case atStart => exact ⟨0, cc, Nat.zero_le _, rfl, HM5, grown_of_below (Below.refl _ _)⟩
      case round =>
        clear HM CB HBa HM5
        rename World => w6
        obtain ⟨k, cc6, hk, rfl, HM6, HG6⟩ := hrel
        have hb6 : Below w.heap.size w w6 := hb05.grown HG6.out hb05.size (fun _ hj => by injection hj with hj; omega)
        have CB6 := Lib.hid (CB5.out.grown HG6.out (by omega))
        by_cases hlt : k < ol.length
        · have HN6 : Sl Enc.str w6 (From wr.heap.size w5) ol (.slice A5 ol.length c5) := HN5.out.keep (fun p hp => World.cell?_of_block (HG6.out.block _ hp.2 (by intro e; injection e with e; have := hp.1; omega)))
          obtain ⟨b5, o5, x, rfl, hS5, hx, cx⟩ := HN6.str_at hlt
          clear HN6
          have HB6 := Lib.hid (HB.out.onOld hb6)
          have k0 := CB6.out.at 0 rfl
          have k1 := CB6.out.at 1 rfl
          have HAS := Lib.hid (askK_snoc (ts := b.tabs) (s := x) (ol.take k) K0)
          rw [← take_at hx.out] at HAS
          have HST := Lib.hid (findT_small HS.out x)
          have HNX : Hid (x.size ≤ maxLen) := by
            have hm := (orderO_facts HND.out HHO.out).mem x
            obtain ⟨t, ht, e⟩ := List.mem_map.1 (hm.1 (List.mem_of_getElem? hx.out))
            subst e
            exact small_name (HS.out.2 t ht)
          have HIL : Hid (((findT b.tabs x).getD zeroT).ins.length ≤ 3) := by
            show _ ≤ _
            cases hf : findT b.tabs x with
            | none => simp [zeroT]
            | some t => exact (goodIns_iff.1 (goodT_iff.1 (good_tab HOK.out.2.2.2.1 (findT_some hf).1)).2.2.2.1).2.1
          go_wp2_with fail
          refine (book_FindTable b x _ _ HB6.out).mono ?_
          rintro ee w7 ⟨vt7, rfl, ht7, hb7⟩
          generalize hnt : (findT b.tabs x).getD zeroT = nt at *
          clear hnt
          have HT7 := Lib.hid ht7
          obtain ⟨vi, vr, rfl, hi7, hr7⟩ := ht7
          obtain ⟨Ai, ci, rfl, -, -⟩ := hi7.form
          obtain ⟨Ar, cr, rfl, -, -⟩ := hr7.form
          clear hi7 hr7 k0 k1
          have hbz := below_alloc1 w7 (.cells #[.string nt.name, .int .i64 nt.pol, .bool nt.comp, .slice Ai nt.ins.length ci, .slice Ar nt.rules.length cr] 59)
          have CN := Lib.hid (Cs.new w7 [.string nt.name, .int .i64 nt.pol, .bool nt.comp, .slice Ai nt.ins.length ci, .slice Ar nt.rules.length cr] 59)
          change Hid (Cs (w7.alloc (.cells #[.string nt.name, .int .i64 nt.pol, .bool nt.comp, .slice Ai nt.ins.length ci, .slice Ar nt.rules.length cr] 59)) _ _) at CN
          have HT8 := Lib.hid (HT7.out.onOld hbz)
          have hb78 := bx hb7 hbz
          have HM8 := Lib.hid (HM6.out.below hb78)
          have q0 := CN.out.at 0 rfl
          have q1 := CN.out.at 1 rfl
          have q2 := CN.out.at 2 rfl
          have q3 := CN.out.at 3 rfl
          have q4 := CN.out.at 4 rfl
          generalize hw8 : w7.alloc (.cells #[.string nt.name, .int .i64 nt.pol, .bool nt.comp, .slice Ai nt.ins.length ci, .slice Ar nt.rules.length cr] 59) = w8 at *
          have hkm : b.doms.length + k < maxLen := by unfold maxLen; omega
          go_wp2_with fail
          clear hw8
          refine (book_answer _ nt _ _ w1.heap.size _ _ HM8.out HT8.out HST.out HIL.out).mono ?_
          rintro ee w9 ⟨rfl, hb9⟩
          have HM9 := Lib.hid (HM8.out.below hb9)
          have hb69 := bx hb78 hb9
          clear q0 q1 q2 q3 q4
          generalize hAN : ansOf (askK b.tabs (ol.take k) K0) nt = AN at *
          go_wp2_with (at_mapUpdate; refine wpList_putS _ rfl _ _ _ 85 rfl 9 84 Tryz.underlying9 a_under w1.heap.size (b.doms.length + k) cc6 _ rfl HM9.out x rfl HNX.out hkm (ansVal AN) rfl ?_; intro wt hmt hgt)
          obtain ⟨cct, hmt'⟩ := MapS.ansPut (a := AN) hmt
          rw [← HAS.out] at hmt'
          exact ⟨⟨k + 1, cct, by omega, by go_num, hmt', World.grownBy.trans' (World.grownBy.trans' HG6.out (grown_of_below hb69)) hgt⟩, by simp [intOf]; omega⟩
        · have ek : k = ol.length := by omega
          subst ek
          rw [List.take_length, ← HAK.out] at HM6
          clear hlt hk
          generalize hKK : askR b l = KK at *
          have k1 := CB6.out.at 1 rfl
          have HR2 : Hid (R = (b.tabs.map (fun t => (KK t.name).getD zeroA), 0)) := by show _ = _; rw [HR.out, ← hKK]; rfl
          go_wp2
          go_loopw [18, 98] (fun u i wr => ∃ k : Nat, k ≤ b.tabs.length ∧ i = .int .i64 k ∧ Hid (OwnG Enc.ans wr w6.heap.size w6.heap.size 84 u ((b.tabs.take k).map (fun t => (KK t.name).getD zeroA))) ∧ Below w6.heap.size w6 wr) (fun _ i _ => b.tabs.length - (intOf i).toNat)
          case atStart => exact ⟨0, Nat.zero_le _, rfl, OwnG.nil, Below.refl _ _⟩
          case round =>
            clear k1
            rename World => wt
            obtain ⟨k, hk, rfl, HO, hbl⟩ := hrel
            have hbt := bx hb6 hbl
            by_cases hlt : k < b.tabs.length
            · obtain ⟨bb, o, nm, pol, comp, ins, rules, vi, vr, rfl, hSb, hx, c1, c2, c3, c4, c5', hi, hr⟩ := (HTS.out.onOld hbt).tab_at hlt
              obtain ⟨Ai, ci, rfl, -, -⟩ := hi.form
              obtain ⟨Ar, cr, rfl, -, -⟩ := hr.form
              clear hi hr
              have hbz := below_alloc1 wt (.cells #[.string nm, .int .i64 pol, .bool comp, .slice Ai ins.length ci, .slice Ar rules.length cr] 59)
              have CN := Lib.hid (Cs.new wt [.string nm, .int .i64 pol, .bool comp, .slice Ai ins.length ci, .slice Ar rules.length cr] 59)
              change Hid (Cs (wt.alloc (.cells #[.string nm, .int .i64 pol, .bool comp, .slice Ai ins.length ci, .slice Ar rules.length cr] 59)) _ _) at CN
              have hblz := bx hbl hbz
              have HOz := Lib.hid (HO.out.next hbz)
              have hlk := ans_look (HM6.out.below hblz) nm (small_name (HS.out.2 _ (List.mem_of_getElem? hx.out)))
              obtain ⟨⟨an, af, am⟩, hq⟩ : ∃ q : AnsD, q = (KK nm).getD zeroA := ⟨_, rfl⟩
              rw [← hq, show ansVal (an, af, am) = .agg #[.string an, .bool af, .int .i64 am] from rfl] at hlk
              have HQ := Lib.hid hq
              clear hq
              have q0 := CN.out.at 0 rfl
              generalize hwa : wt.alloc (.cells #[.string nm, .int .i64 pol, .bool comp, .slice Ai ins.length ci, .slice Ar rules.length cr] 59) = wa at *
              have hbb := below_alloc1 wa (.cells #[.string an, .bool af, .int .i64 am] 84)
              have HOb := Lib.hid (HOz.out.next hbb)
              have hblb := bx hblz hbb
              have hszb := hblb.size
              have hlen : ((b.tabs.take k).map (fun t => (KK t.name).getD zeroA)).length ≤ 4 := by rw [List.length_map, List.length_take]; omega
              have HY : Hid (Enc.ans.rd (wa.alloc (.cells #[.string an, .bool af, .int .i64 am] 84)) (Off w6.heap.size (wa.alloc (.cells #[.string an, .bool af, .int .i64 am] 84)) u18) (an, af, am) [.string an, .bool af, .int .i64 am]) := Enc.ans_rd.2 rfl
              have HTK : Hid ((b.tabs.take (k + 1)).map (fun t => (KK t.name).getD zeroA) = (b.tabs.take k).map (fun t => (KK t.name).getD zeroA) ++ [(an, af, am)]) := by
                show _ = _
                rw [take_at hx.out, List.map_append]
                simp only [List.map_cons, List.map_nil]
                rw [HQ.out]
              go_wp2_with (at_builtin; refine wpList_append_one (E := Enc.ans) _ rfl _ _ 35 rfl w6.heap.size w6.heap.size 84 32 (.agg #[.string ⟨#[]⟩, .bool false, .int .i64 0]) ans_under ans_info rfl (by decide) _ _ rfl HOb.out ⟨wa.heap.size, 0, none⟩ (an, af, am) [.string an, .bool af, .int .i64 am] rfl HY.out (cell_new3 _ _ _ _ _) (by omega) (by unfold maxLen; omega) hszb ?_; intro v' wz hown' hgrowz hmvz)
              refine ⟨⟨k + 1, by omega, by go_num, ?_, hblb.grown hgrowz hszb (fun _ hr => (HOb.out.lt _ hr).1)⟩, by simp [intOf]; omega⟩
              show OwnG _ _ _ _ _ _ _
              rw [HTK.out]
              exact hown'
            · have e : b.tabs.take k = b.tabs := List.take_of_length_le (by omega)
              rw [e] at HO
              go_wp2
              go_ret2
              rw [HR2.out]
              exact ⟨_, rfl, (HO.out.sl (Nat.le_refl _)).more (fun k hk => ⟨Nat.le_trans hb6.size hk.1, hk.2⟩), hbt⟩

end Go.Proofs.YtmdljknlbmlacabGreatDoor
