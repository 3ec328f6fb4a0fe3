/-
  DERIVED. GIVEN WITH THE SEED: THE CARDS: each row of YtgfdbhbkmjabcabGreatDoorRows.lean that lists a variable, with what it lists TIED to the program's text (the seventh form; the later family's looks); each row that meets fmt, with fmt's text TOLD by the authors' own Lean function (tested against real Go, not proved from fmt's source: count such statements apart). THE CARD IS WHAT COUNTS. Prove the row's statement (the work); the ties are given (YtgfdbhbkmjabcabGreatDoorTie.lean); close each card by the builder's one call (the guide's Derived/Test/ToyasCard.lean, 'card_holds'). Laid BY PROGRAM, IN A SANDBOX (cutbox-door.mjs). By AI agents, Wed Nov 11 2026. No macro, syntax, notation, axiom, sorry.
-/
import Derived.Test.YtgfdbhbkmjabcabGreatDoorRows
import GoSem.ClaimSeven
namespace Go.Proofs.YtgfdbhbkmjabcabGreatDoor
namespace Rows

/-- THE TIED CARD OF 'jacquardlaw04.ShowPlain'. -/
def showPlainCard : Claim7 := { stood := { row := showPlainRow, standIns := [], harness := (true, "5f7251b3c95e3f222ef1e597621ebcbea8b41fb826d9e72f77f18d14684f9846"), looks := false }, kinds := [], alts := [], laidByText := true, laidKinds := [.data, .data, .data], laidTests := true, laidLooks := .later }
def ShowPlainCardSaid : Prop := Claim7.holds Tryz.pinned (.plain (OpenSpec.ofChange showPlainSpec)) showPlainCard

/-- THE SECOND FORM's CARD OF 'jacquardlaw04.ShowPlain'. -/
def showPlainUptoCard : Claim7 := { stood := { row := showPlainUptoRow, standIns := [], harness := (true, "5f7251b3c95e3f222ef1e597621ebcbea8b41fb826d9e72f77f18d14684f9846"), looks := false }, kinds := [], alts := [], laidByText := true, laidKinds := [.data, .data, .data], laidTests := true, laidLooks := .later }
def ShowPlainUptoCardSaid : Prop := Claim7.holds Tryz.pinned (.plain (OpenSpec.upto showPlainSpec)) showPlainUptoCard
end Rows
end Go.Proofs.YtgfdbhbkmjabcabGreatDoor
