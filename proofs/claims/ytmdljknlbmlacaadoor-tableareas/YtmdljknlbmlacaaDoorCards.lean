/-
  DERIVED. GIVEN WITH THE SEED: THE CARDS: each row of YtmdljknlbmlacaaDoorRows.lean that lists a variable, with what it lists TIED to the program's text (the seventh form; the later family's looks); each row that meets fmt, with fmt's text TOLD by the authors' own Lean function (tested against real Go, not proved from fmt's source: count such statements apart). THE CARD IS WHAT COUNTS. Prove the row's statement (the work); the ties are given (YtmdljknlbmlacaaDoorTie.lean); close each card by the builder's one call (the guide's Derived/Test/ToyasCard.lean, 'card_holds'). Laid BY PROGRAM, IN A SANDBOX (cutbox-door.mjs). By AI agents, Wed Nov 11 2026. No macro, syntax, notation, axiom, sorry.
-/
import Derived.Test.YtmdljknlbmlacaaDoorRows
import GoSem.ClaimSeven
namespace Go.Proofs.YtmdljknlbmlacaaDoor
namespace Rows

/-- THE TIED CARD OF 'ratebooklaw.TableTells'. -/
def tableTellsCard : Claim7 := { stood := { row := tableTellsRow, standIns := [], harness := (true, "a17b6d131d7a920b3d082736f0ec779ea8e416fc5993354da76c5ddd53927dc2"), looks := false }, kinds := [], alts := [], laidByText := true, laidKinds := [.data, .pinned], laidTests := true, laidLooks := .later }
def TableTellsCardSaid : Prop := Claim7.holds Tryd.pinned (.plain (OpenSpec.ofChange tableTellsSpec)) tableTellsCard

/-- THE TIED CARD OF 'ratebooklaw.TableAreas'. -/
def tableAreasCard : Claim7 := { stood := { row := tableAreasRow, standIns := [], harness := (true, "a17b6d131d7a920b3d082736f0ec779ea8e416fc5993354da76c5ddd53927dc2"), looks := false }, kinds := [], alts := [], laidByText := true, laidKinds := [.data, .pinned], laidTests := true, laidLooks := .later }
def TableAreasCardSaid : Prop := Claim7.holds Tryd.pinned (.plain (OpenSpec.ofChange tableAreasSpec)) tableAreasCard

/-- THE SECOND FORM's CARD OF 'ratebooklaw.TableTells'. -/
def tableTellsUptoCard : Claim7 := { stood := { row := tableTellsUptoRow, standIns := [], harness := (true, "a17b6d131d7a920b3d082736f0ec779ea8e416fc5993354da76c5ddd53927dc2"), looks := false }, kinds := [], alts := [], laidByText := true, laidKinds := [.data, .pinned], laidTests := true, laidLooks := .later }
def TableTellsUptoCardSaid : Prop := Claim7.holds Tryd.pinned (.plain (OpenSpec.upto tableTellsSpec)) tableTellsUptoCard

/-- THE SECOND FORM's CARD OF 'ratebooklaw.TableAreas'. -/
def tableAreasUptoCard : Claim7 := { stood := { row := tableAreasUptoRow, standIns := [], harness := (true, "a17b6d131d7a920b3d082736f0ec779ea8e416fc5993354da76c5ddd53927dc2"), looks := false }, kinds := [], alts := [], laidByText := true, laidKinds := [.data, .pinned], laidTests := true, laidLooks := .later }
def TableAreasUptoCardSaid : Prop := Claim7.holds Tryd.pinned (.plain (OpenSpec.upto tableAreasSpec)) tableAreasUptoCard
end Rows
end Go.Proofs.YtmdljknlbmlacaaDoor
