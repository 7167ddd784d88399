/- Structs in memory: pairs of readings; cells, rules and tables. No condition; no program is named. -/
import Derived.Test.YtmdljknlbmlacabGreatDoorMem
namespace Go.Proofs.YtmdljknlbmlacabGreatDoor
open Go.RowKit

/-- a reading behind another -/
def Enc.pair {α β : Type} (E : Enc α) (F : Enc β) : Enc (α × β) where
  size := E.size + F.size
  rd w S x cs := ∃ c1 c2, cs = c1 ++ c2 ∧ E.rd w S x.1 c1 ∧ F.rd w S x.2 c2
  len := by rintro w S x cs ⟨c1, c2, rfl, h1, h2⟩; rw [List.length_append, E.len h1, F.len h2]
  keep := by rintro w w' S x cs ⟨c1, c2, rfl, h1, h2⟩ hk; exact ⟨c1, c2, rfl, E.keep h1 hk, F.keep h2 hk⟩
  more := by rintro w S S' x cs ⟨c1, c2, rfl, h1, h2⟩ hk; exact ⟨c1, c2, rfl, E.more h1 hk, F.more h2 hk⟩
  one := by
    rintro w S x cs ⟨c1, c2, rfl, h1, h2⟩ u hu
    rcases List.mem_append.1 hu with h | h
    · exact E.one h1 u h
    · exact F.one h2 u h

/-- Not, Ranges -/
abbrev CellD := Bool × List (Int × Int)
/-- Cells, Out -/
abbrev RuleD := List CellD × Int
structure TabD where
  name : ByteArray
  pol : Int
  comp : Bool
  ins : List ByteArray
  rules : List RuleD

def Enc.cell : Enc CellD := Enc.bool.pair Enc.rng.slice
def Enc.rule : Enc RuleD := Enc.cell.slice.pair Enc.int
def Enc.tabP : Enc (ByteArray × Int × Bool × List ByteArray × List RuleD) := Enc.str.pair (Enc.int.pair (Enc.bool.pair (Enc.str.slice.pair Enc.rule.slice)))
def TabD.prod (t : TabD) : ByteArray × Int × Bool × List ByteArray × List RuleD := (t.name, t.pol, t.comp, t.ins, t.rules)
def TabD.of (t : ByteArray × Int × Bool × List ByteArray × List RuleD) : TabD := ⟨t.1, t.2.1, t.2.2.1, t.2.2.2.1, t.2.2.2.2⟩
def Enc.tab : Enc TabD := ⟨5, fun w S t cs => Enc.tabP.rd w S t.prod cs, fun h => Enc.tabP.len h, fun h k => Enc.tabP.keep h k, fun h k => Enc.tabP.more h k, fun h => Enc.tabP.one h⟩

theorem Enc.cell_rd {w : World} {S : Nat → Prop} {x : CellD} {cs : List Value} : Enc.cell.rd w S x cs ↔ ∃ v, cs = [.bool x.1, v] ∧ Sl Enc.rng w S x.2 v := by
  constructor
  · rintro ⟨c1, c2, rfl, h1, v, rfl, h2⟩
    have h1' : c1 = [.bool x.1] := h1
    subst h1'
    exact ⟨v, rfl, h2⟩
  · rintro ⟨v, rfl, h2⟩
    exact ⟨[.bool x.1], [v], rfl, rfl, v, rfl, h2⟩
theorem Enc.rule_rd {w : World} {S : Nat → Prop} {x : RuleD} {cs : List Value} : Enc.rule.rd w S x cs ↔ ∃ v, cs = [v, .int .i64 x.2] ∧ Sl Enc.cell w S x.1 v := by
  constructor
  · rintro ⟨c1, c2, rfl, ⟨v, rfl, h2⟩, h1⟩
    have h1' : c2 = [.int .i64 x.2] := h1
    subst h1'
    exact ⟨v, rfl, h2⟩
  · rintro ⟨v, rfl, h2⟩
    exact ⟨[v], [.int .i64 x.2], rfl, ⟨v, rfl, h2⟩, rfl⟩
theorem Enc.tab_rd {w : World} {S : Nat → Prop} {t : TabD} {cs : List Value} : Enc.tab.rd w S t cs ↔ ∃ vi vr, cs = [.string t.name, .int .i64 t.pol, .bool t.comp, vi, vr] ∧ Sl Enc.str w S t.ins vi ∧ Sl Enc.rule w S t.rules vr := by
  constructor
  · rintro ⟨c1, _, rfl, h1, c2, _, rfl, h2, c3, _, rfl, h3, c4, c5, rfl, ⟨vi, rfl, h4⟩, ⟨vr, rfl, h5⟩⟩
    have h1' : c1 = [.string t.name] := h1
    have h2' : c2 = [.int .i64 t.pol] := h2
    have h3' : c3 = [.bool t.comp] := h3
    subst h1' h2' h3'
    exact ⟨vi, vr, rfl, h4, h5⟩
  · rintro ⟨vi, vr, rfl, h4, h5⟩
    exact ⟨[.string t.name], _, rfl, rfl, [.int .i64 t.pol], _, rfl, rfl, [.bool t.comp], _, rfl, rfl, [vi], [vr], rfl, ⟨vi, rfl, h4⟩, ⟨vr, rfl, h5⟩⟩

/-- one element of a slice -/
theorem Sl.at {α : Type} {E : Enc α} {w : World} {S : Nat → Prop} {l : List α} {A : Option Addr} {n c : Nat} (h : Sl E w S l (.slice A n c)) {k : Nat} (hk : k < l.length) :
    ∃ b o cs, A = some ⟨b, o, none⟩ ∧ S b ∧ E.rd w S l[k] cs ∧ ∀ j v, cs[j]? = some v → w.cell? ⟨b, o + k * E.size + j, none⟩ = some v := by
  obtain ⟨A, c, e, h2, h3, _, h4⟩ := h
  injection e with e1 e2 e3
  subst e1 e2 e3
  obtain ⟨b, o, rfl, h6, h7⟩ := h4 (by omega)
  obtain ⟨cs, h8, h9⟩ := h7 k l[k] (List.getElem?_eq_getElem hk)
  exact ⟨b, o, cs, rfl, h6, h8, h9⟩
theorem Sl.cell_at {w : World} {S : Nat → Prop} {l : List CellD} {A : Option Addr} {n c : Nat} (h : Sl Enc.cell w S l (.slice A n c)) {k : Nat} (hk : k < l.length) :
    ∃ b o ng rs v, A = some ⟨b, o, none⟩ ∧ S b ∧ Hid (l[k]? = some (ng, rs)) ∧ w.cell? ⟨b, o + k * 2, none⟩ = some (.bool ng) ∧ w.cell? ⟨b, o + k * 2 + 1, none⟩ = some v ∧ Sl Enc.rng w S rs v := by
  obtain ⟨b, o, cs, rfl, hS, hr, hc⟩ := h.at hk
  obtain ⟨v, rfl, hv⟩ := Enc.cell_rd.1 hr
  exact ⟨b, o, l[k].1, l[k].2, v, rfl, hS, List.getElem?_eq_getElem hk, hc 0 _ rfl, hc 1 _ rfl, hv⟩
theorem Sl.rule_at {w : World} {S : Nat → Prop} {l : List RuleD} {A : Option Addr} {n c : Nat} (h : Sl Enc.rule w S l (.slice A n c)) {k : Nat} (hk : k < l.length) :
    ∃ b o cs x v, A = some ⟨b, o, none⟩ ∧ S b ∧ Hid (l[k]? = some (cs, x)) ∧ w.cell? ⟨b, o + k * 2, none⟩ = some v ∧ w.cell? ⟨b, o + k * 2 + 1, none⟩ = some (.int .i64 x) ∧ Sl Enc.cell w S cs v := by
  obtain ⟨b, o, cs, rfl, hS, hr, hc⟩ := h.at hk
  obtain ⟨v, rfl, hv⟩ := Enc.rule_rd.1 hr
  exact ⟨b, o, l[k].1, l[k].2, v, rfl, hS, List.getElem?_eq_getElem hk, hc 0 _ rfl, hc 1 _ rfl, hv⟩
theorem Sl.str_at {w : World} {S : Nat → Prop} {l : List ByteArray} {A : Option Addr} {n c : Nat} (h : Sl Enc.str w S l (.slice A n c)) {k : Nat} (hk : k < l.length) :
    ∃ b o x, A = some ⟨b, o, none⟩ ∧ S b ∧ Hid (l[k]? = some x) ∧ w.cell? ⟨b, o + k, none⟩ = some (.string x) := by
  obtain ⟨b, o, cs, rfl, hS, hr, hc⟩ := h.at hk
  have hr' : cs = [.string l[k]] := hr
  subst hr'
  refine ⟨b, o, l[k], rfl, hS, List.getElem?_eq_getElem hk, ?_⟩
  have := hc 0 _ rfl
  have es : Enc.str.size = 1 := rfl
  rw [es, Nat.mul_one, Nat.add_zero] at this
  exact this

/-- a table as a value -/
def TabAt (w : World) (S : Nat → Prop) (t : TabD) (v : Value) : Prop := ∃ vi vr, v = .agg #[.string t.name, .int .i64 t.pol, .bool t.comp, vi, vr] ∧ Sl Enc.str w S t.ins vi ∧ Sl Enc.rule w S t.rules vr
theorem TabAt.onOld {w w' : World} {t : TabD} {v : Value} (h : TabAt w (Old w) t v) (hb : Below w.heap.size w w') : TabAt w' (Old w') t v := by
  obtain ⟨vi, vr, e, h1, h2⟩ := h
  exact ⟨vi, vr, e, h1.onOld hb, h2.onOld hb⟩

/-- domains: Name, Lo, Hi -/
def Enc.dom : Enc (ByteArray × Int × Int) := Enc.str.pair (Enc.int.pair Enc.int)
def domV (d : ByteArray × Int × Int) : Value := .agg #[.string d.1, .int .i64 d.2.1, .int .i64 d.2.2]
theorem Enc.dom_rd {w : World} {S : Nat → Prop} {d : ByteArray × Int × Int} {cs : List Value} : Enc.dom.rd w S d cs ↔ cs = [.string d.1, .int .i64 d.2.1, .int .i64 d.2.2] := by
  constructor
  · rintro ⟨c1, _, rfl, h1, c2, c3, rfl, h2, h3⟩
    have h1' : c1 = [.string d.1] := h1
    have h2' : c2 = [.int .i64 d.2.1] := h2
    have h3' : c3 = [.int .i64 d.2.2] := h3
    subst h1' h2' h3'
    rfl
  · rintro rfl
    exact ⟨[.string d.1], _, rfl, rfl, [.int .i64 d.2.1], _, rfl, rfl, rfl⟩
theorem Sl.dom_at {w : World} {S : Nat → Prop} {l : List (ByteArray × Int × Int)} {A : Option Addr} {n c : Nat} (h : Sl Enc.dom w S l (.slice A n c)) {k : Nat} (hk : k < l.length) :
    ∃ b o nm lo hi, A = some ⟨b, o, none⟩ ∧ S b ∧ Hid (l[k]? = some (nm, lo, hi)) ∧ w.cell? ⟨b, o + k * 3, none⟩ = some (.string nm) ∧ w.cell? ⟨b, o + k * 3 + 1, none⟩ = some (.int .i64 lo) ∧ w.cell? ⟨b, o + k * 3 + 2, none⟩ = some (.int .i64 hi) := by
  obtain ⟨b, o, cs, rfl, hS, hr, hc⟩ := h.at hk
  rw [Enc.dom_rd] at hr
  subst hr
  exact ⟨b, o, l[k].1, l[k].2.1, l[k].2.2, rfl, hS, List.getElem?_eq_getElem hk, hc 0 _ rfl, hc 1 _ rfl, hc 2 _ rfl⟩
theorem Sl.tab_at {w : World} {S : Nat → Prop} {l : List TabD} {A : Option Addr} {n c : Nat} (h : Sl Enc.tab w S l (.slice A n c)) {k : Nat} (hk : k < l.length) :
    ∃ b o nm pol comp ins rules vi vr, A = some ⟨b, o, none⟩ ∧ S b ∧ Hid (l[k]? = some ⟨nm, pol, comp, ins, rules⟩) ∧ w.cell? ⟨b, o + k * 5, none⟩ = some (.string nm) ∧ w.cell? ⟨b, o + k * 5 + 1, none⟩ = some (.int .i64 pol) ∧ w.cell? ⟨b, o + k * 5 + 2, none⟩ = some (.bool comp) ∧ w.cell? ⟨b, o + k * 5 + 3, none⟩ = some vi ∧ w.cell? ⟨b, o + k * 5 + 4, none⟩ = some vr ∧ Sl Enc.str w S ins vi ∧ Sl Enc.rule w S rules vr := by
  obtain ⟨b, o, cs, rfl, hS, hr, hc⟩ := h.at hk
  obtain ⟨vi, vr, rfl, h4, h5⟩ := Enc.tab_rd.1 hr
  exact ⟨b, o, l[k].name, l[k].pol, l[k].comp, l[k].ins, l[k].rules, vi, vr, rfl, hS, List.getElem?_eq_getElem hk, hc 0 _ rfl, hc 1 _ rfl, hc 2 _ rfl, hc 3 _ rfl, hc 4 _ rfl, h4, h5⟩

end Go.Proofs.YtmdljknlbmlacabGreatDoor
