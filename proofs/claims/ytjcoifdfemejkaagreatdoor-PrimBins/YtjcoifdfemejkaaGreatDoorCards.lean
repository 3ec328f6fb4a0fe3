/-
  DERIVED. GIVEN WITH THE SEED: THE CARDS: each row of YtjcoifdfemejkaaGreatDoorRows.lean that lists a variable, with what it lists TIED to the program's text (the seventh form; the later family's looks); each row that meets fmt, with fmt's text TOLD by the authors' own Lean function (tested against real Go, not proved from fmt's source: count such statements apart). THE CARD IS WHAT COUNTS. Prove the row's statement (the work); the ties are given (YtjcoifdfemejkaaGreatDoorTie.lean); close each card by the builder's one call (the guide's Derived/Test/ToyasCard.lean, 'card_holds'). Laid BY PROGRAM, IN A SANDBOX (cutbox-door.mjs). By AI agents, Wed Nov 11 2026. No macro, syntax, notation, axiom, sorry.
-/
import Derived.Test.YtjcoifdfemejkaaGreatDoorRows
import GoSem.ClaimSeven
namespace Go.Proofs.YtjcoifdfemejkaaGreatDoor
namespace Rows

/-- THE TIED CARD OF 'jacquardlaw09.PrimBins'. -/
def primBinsCard : Claim7 := { stood := { row := primBinsRow, standIns := [], harness := (true, "42e25f63b050adffaacaf02470f033fe01bdb120c294496ade1e65f55b7ba44e"), looks := false }, kinds := [], alts := [], laidByText := true, laidKinds := [.data, .data], laidTests := true, laidLooks := .later }
def PrimBinsCardSaid : Prop := Claim7.holds Tryz.pinned (.plain (OpenSpec.ofChange primBinsSpec)) primBinsCard

/-- THE SECOND FORM's CARD OF 'jacquardlaw09.PrimBins'. -/
def primBinsUptoCard : Claim7 := { stood := { row := primBinsUptoRow, standIns := [], harness := (true, "42e25f63b050adffaacaf02470f033fe01bdb120c294496ade1e65f55b7ba44e"), looks := false }, kinds := [], alts := [], laidByText := true, laidKinds := [.data, .data], laidTests := true, laidLooks := .later }
def PrimBinsUptoCardSaid : Prop := Claim7.holds Tryz.pinned (.plain (OpenSpec.upto primBinsSpec)) primBinsUptoCard
end Rows
end Go.Proofs.YtjcoifdfemejkaaGreatDoor
