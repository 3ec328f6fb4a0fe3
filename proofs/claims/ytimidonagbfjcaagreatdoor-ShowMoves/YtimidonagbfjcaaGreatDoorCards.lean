/-
  DERIVED. GIVEN WITH THE SEED: THE CARDS: each row of YtimidonagbfjcaaGreatDoorRows.lean that lists a variable, with what it lists TIED to the program's text (the seventh form; the later family's looks); each row that meets fmt, with fmt's text TOLD by the authors' own Lean function (tested against real Go, not proved from fmt's source: count such statements apart). THE CARD IS WHAT COUNTS. Prove the row's statement (the work); the ties are given (YtimidonagbfjcaaGreatDoorTie.lean); close each card by the builder's one call (the guide's Derived/Test/ToyasCard.lean, 'card_holds'). Laid BY PROGRAM, IN A SANDBOX (cutbox-door.mjs). By AI agents, Wed Nov 11 2026. No macro, syntax, notation, axiom, sorry.
-/
import Derived.Test.YtimidonagbfjcaaGreatDoorRows
import GoSem.ClaimSeven
namespace Go.Proofs.YtimidonagbfjcaaGreatDoor
namespace Rows

/-- THE TIED CARD OF 'jacquardlaw04.ShowMoves'. -/
def showMovesCard : Claim7 := { stood := { row := showMovesRow, standIns := [], harness := (true, "eed8ee929e5cd5e591cfb39a3c4e373f59a2887dbf71f9e10a8d075ca982713f"), looks := false }, kinds := [], alts := [], laidByText := true, laidKinds := [.data, .data, .data], laidTests := true, laidLooks := .later }
def ShowMovesCardSaid : Prop := Claim7.holds Tryz.pinned (.plain (OpenSpec.ofChange showMovesSpec)) showMovesCard

/-- THE SECOND FORM's CARD OF 'jacquardlaw04.ShowMoves'. -/
def showMovesUptoCard : Claim7 := { stood := { row := showMovesUptoRow, standIns := [], harness := (true, "eed8ee929e5cd5e591cfb39a3c4e373f59a2887dbf71f9e10a8d075ca982713f"), looks := false }, kinds := [], alts := [], laidByText := true, laidKinds := [.data, .data, .data], laidTests := true, laidLooks := .later }
def ShowMovesUptoCardSaid : Prop := Claim7.holds Tryz.pinned (.plain (OpenSpec.upto showMovesSpec)) showMovesUptoCard
end Rows
end Go.Proofs.YtimidonagbfjcaaGreatDoor
