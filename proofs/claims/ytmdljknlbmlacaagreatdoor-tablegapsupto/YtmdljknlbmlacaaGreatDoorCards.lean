/-
  DERIVED. GIVEN WITH THE SEED: THE CARDS: each row of YtmdljknlbmlacaaGreatDoorRows.lean that lists a variable, with what it lists TIED to the program's text (the seventh form; the later family's looks); each row that meets fmt, with fmt's text TOLD by the authors' own Lean function (tested against real Go, not proved from fmt's source: count such statements apart). THE CARD IS WHAT COUNTS. Prove the row's statement (the work); the ties are given (YtmdljknlbmlacaaGreatDoorTie.lean); close each card by the builder's one call (the guide's Derived/Test/ToyasCard.lean, 'card_holds'). Laid BY PROGRAM, IN A SANDBOX (cutbox-door.mjs). By AI agents, Wed Nov 11 2026. No macro, syntax, notation, axiom, sorry.
-/
import Derived.Test.YtmdljknlbmlacaaGreatDoorRows
import GoSem.ClaimSeven
namespace Go.Proofs.YtmdljknlbmlacaaGreatDoor
namespace Rows

/-- THE TIED CARD OF 'ratebooklaw.TableGaps'. -/
def tableGapsCard : Claim7 := { stood := { row := tableGapsRow, standIns := [], harness := (true, "b66ca7de7a75ef1f16e5657aa5ac7622c2e2fd2744b648fd87e0883b4cc61239"), looks := false }, kinds := [], alts := [], laidByText := true, laidKinds := [.data, .pinned], laidTests := true, laidLooks := .later }
def TableGapsCardSaid : Prop := Claim7.holds Tryz.pinned (.plain (OpenSpec.ofChange tableGapsSpec)) tableGapsCard

/-- THE SECOND FORM's CARD OF 'ratebooklaw.TableGaps'. -/
def tableGapsUptoCard : Claim7 := { stood := { row := tableGapsUptoRow, standIns := [], harness := (true, "b66ca7de7a75ef1f16e5657aa5ac7622c2e2fd2744b648fd87e0883b4cc61239"), looks := false }, kinds := [], alts := [], laidByText := true, laidKinds := [.data, .pinned], laidTests := true, laidLooks := .later }
def TableGapsUptoCardSaid : Prop := Claim7.holds Tryz.pinned (.plain (OpenSpec.upto tableGapsSpec)) tableGapsUptoCard
end Rows
end Go.Proofs.YtmdljknlbmlacaaGreatDoor
