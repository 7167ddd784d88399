/- The text of tables and domains, and its parser, as Lean functions over lists of bytes; what is printed of a good table or domain is read as it. No condition; no program is named. -/
import Derived.Test.YtmdljknlbmlacabGreatDoorTabs
import Derived.Lib.ItoaNum
import Derived.Lib.AtoiAll
import Derived.Lib.AtoiTie
import Derived.Lib.SlTrimSet
import Derived.Lib.Join
namespace Go.Proofs.YtmdljknlbmlacabGreatDoor
open Go.RowKit

abbrev Bs := List UInt8
/-- what the parser has not read yet; whether an error has occurred -/
structure PS where
  rest : Bs
  bad : Bool

def spB (b : UInt8) : Bool := [32, 10].contains b
def skipL (l : Bs) : Bs := l.dropWhile spB
def digB (b : UInt8) : Bool := decide (48 ≤ b.toNat) && decide (b.toNat ≤ 57)

def wordP (p : PS) : Bs × PS := ((skipL p.rest).takeWhile letterB, ⟨(skipL p.rest).dropWhile letterB, p.bad⟩)
def takesP (sym : Bs) (p : PS) : Bool × PS := (sym.isPrefixOf (skipL p.rest), ⟨if sym.isPrefixOf (skipL p.rest) then (skipL p.rest).drop sym.length else skipL p.rest, p.bad⟩)
def wantsP (sym : Bs) (p : PS) : PS := ⟨(takesP sym p).2.rest, p.bad || !(takesP sym p).1⟩
def numLen (l : Bs) : Nat := if [45].isPrefixOf l then 1 + ((l.drop 1).takeWhile digB).length else (l.takeWhile digB).length
def numV (s : Bs) : Option Int := match Lib.atoiAll s with
  | .ok v => if Lib.itoa v = s then some v else none
  | _ => none
def numberP (p : PS) : Int × PS := match numV ((skipL p.rest).take (numLen (skipL p.rest))) with
  | some v => (v, ⟨(skipL p.rest).drop (numLen (skipL p.rest)), p.bad⟩)
  | none => (0, ⟨(skipL p.rest).drop (numLen (skipL p.rest)), true⟩)
def optionP (word : Bs) (p : PS) : Bool × PS := (decide ((wordP p).1 = word), ⟨(wordP p).2.rest, p.bad || (decide ((wordP p).1 ≠ []) && decide ((wordP p).1 ≠ word))⟩)
def rangeP (p : PS) : (Int × Int) × PS :=
  if (takesP [46, 46] (numberP p).2).1 then
    (((numberP p).1, (numberP (takesP [46, 46] (numberP p).2).2).1), ⟨(numberP (takesP [46, 46] (numberP p).2).2).2.rest, (numberP (takesP [46, 46] (numberP p).2).2).2.bad || decide ((numberP (takesP [46, 46] (numberP p).2).2).1 ≤ (numberP p).1)⟩)
  else (((numberP p).1, (numberP p).1), (takesP [46, 46] (numberP p).2).2)
/-- as long as the symbol follows: one item more -/
def sepP {α : Type} (item : PS → α × PS) (sym : Bs) : Nat → PS → List α × PS
  | 0, p => ([], p)
  | n + 1, p => if (takesP sym p).1 then ((item (takesP sym p).2).1 :: (sepP item sym n (item (takesP sym p).2).2).1, (sepP item sym n (item (takesP sym p).2).2).2) else ([], (takesP sym p).2)
def listP {α : Type} (item : PS → α × PS) (sym : Bs) (p : PS) : List α × PS :=
  ((item p).1 :: (sepP item sym ((item p).2.rest.length + 1) (item p).2).1, (sepP item sym ((item p).2.rest.length + 1) (item p).2).2)
def rangesP : PS → List (Int × Int) × PS := listP rangeP [124]
def cellP (p : PS) : CellD × PS :=
  if (takesP [42] p).1 then ((false, []), (takesP [42] p).2)
  else (((optionP [110, 111, 116] (takesP [42] p).2).1, (rangesP (optionP [110, 111, 116] (takesP [42] p).2).2).1), (rangesP (optionP [110, 111, 116] (takesP [42] p).2).2).2)
def cellsP : PS → List CellD × PS := listP cellP [44]
def ruleP (p : PS) : RuleD × PS :=
  (((cellsP p).1, (numberP (wantsP [61, 62] (cellsP p).2)).1), wantsP [59] (numberP (wantsP [61, 62] (cellsP p).2)).2)
def rulesP : Nat → PS → List RuleD × PS
  | 0, p => ([], p)
  | n + 1, p => if p.bad then ([], p) else if (takesP [125] p).1 then ([], (takesP [125] p).2)
    else ((ruleP (takesP [125] p).2).1 :: (rulesP n (ruleP (takesP [125] p).2).2).1, (rulesP n (ruleP (takesP [125] p).2).2).2)
def polW : List Bs := [[117, 110, 105, 113, 117, 101], [97, 110, 121], [102, 105, 114, 115, 116], [108, 101, 97, 115, 116], [109, 111, 115, 116], [115, 117, 109], [99, 111, 117, 110, 116]]
def polT (n : Int) : Bs := polW.getD (n.toNat - 1) []
def polP (p : PS) : Int × PS := match polW.findIdx? (· == (wordP p).1) with
  | some k => ((k : Int) + 1, (wordP p).2)
  | none => (0, ⟨(wordP p).2.rest, true⟩)
def strP (p : PS) : ByteArray × PS := (⟨(wordP p).1.toArray⟩, (wordP p).2)
def inputsP : PS → List ByteArray × PS := listP strP [44]
abbrev DomD := ByteArray × Int × Int
def domP (p : PS) : DomD × PS :=
  (((strP p).1, (numberP (strP p).2).1, (numberP (wantsP [46, 46] (numberP (strP p).2).2)).1), (numberP (wantsP [46, 46] (numberP (strP p).2).2)).2)
/-- what follows the word table: the state ahead of the rules -/
def headP (p : PS) : TabD × PS :=
  let a := strP p
  let b := polP a.2
  let c := optionP [99, 111, 109, 112, 108, 101, 116, 101] b.2
  let i := inputsP (wantsP [40] c.2)
  (⟨a.1, b.1, c.1, i.1, []⟩, wantsP [123] (wantsP [41] i.2))
def needP (p : PS) : Nat := if p.bad then 0 else p.rest.length + 1
def tabP (p : PS) : TabD × PS :=
  let h := headP p
  let r := rulesP (needP h.2 + 1) h.2
  (⟨h.1.name, h.1.pol, h.1.comp, h.1.ins, r.1⟩, r.2)
def endedB (p : PS) : Bool := !p.bad && (skipL p.rest).isEmpty
def goodD (d : DomD) : Bool := nameB d.1 && decide (-1000000 ≤ d.2.1) && decide (d.2.1 ≤ d.2.2) && decide (d.2.2 ≤ 1000000)
def zeroD : DomD := (⟨#[]⟩, 0, 0)
def zeroT : TabD := ⟨⟨#[]⟩, 0, false, [], []⟩
def domainW : Bs := [100, 111, 109, 97, 105, 110]
def tableW : Bs := [116, 97, 98, 108, 101]
def parseV (s : Bs) : DomD × TabD × Bool × Int :=
  if 2000 < s.length then (zeroD, zeroT, false, 5)
  else if (wordP ⟨s, false⟩).1 = domainW ∧ endedB (domP (wordP ⟨s, false⟩).2).2 = true ∧ goodD (domP (wordP ⟨s, false⟩).2).1 = true then ((domP (wordP ⟨s, false⟩).2).1, zeroT, false, 0)
  else if (wordP ⟨s, false⟩).1 = tableW ∧ endedB (tabP (wordP ⟨s, false⟩).2).2 = true ∧ goodT (tabP (wordP ⟨s, false⟩).2).1 = true then (zeroD, (tabP (wordP ⟨s, false⟩).2).1, true, 0)
  else (zeroD, zeroT, false, 1)

/- printing -/
def endsT (a b : Int) : Bs := Lib.itoa a ++ [46, 46] ++ Lib.itoa b
def rangeT (r : Int × Int) : Bs := if r.1 < r.2 then endsT r.1 r.2 else Lib.itoa r.1
def cellT (c : CellD) : Bs := if c.2.length = 0 then [42] else (if c.1 then [110, 111, 116, 32] else []) ++ Lib.join (c.2.map rangeT) [124]
def ruleT (r : RuleD) : Bs := Lib.join (r.1.map cellT) [44] ++ [32, 61, 62, 32] ++ Lib.itoa r.2
def headT (t : TabD) : Bs := Lib.join ([tableW, t.name.data.toList, polT t.pol] ++ (if t.comp then [[99, 111, 109, 112, 108, 101, 116, 101]] else []) ++ [[40] ++ Lib.join (t.ins.map (·.data.toList)) [44] ++ [41], [123, 10]]) [32]
def tabTx (t : TabD) : Bs := Lib.join ([headT t] ++ (t.rules.map fun r => [32, 32] ++ ruleT r ++ [59, 10]) ++ [[125, 10]]) []
def domT (d : DomD) : Bs := domainW ++ [32] ++ d.1.data.toList ++ [32] ++ endsT d.2.1 d.2.2 ++ [10]

end Go.Proofs.YtmdljknlbmlacabGreatDoor
