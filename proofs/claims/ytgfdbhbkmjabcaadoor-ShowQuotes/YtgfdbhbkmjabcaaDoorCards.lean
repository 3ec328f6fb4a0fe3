/-
  DERIVED. GIVEN WITH THE SEED: THE CARDS: each row of YtgfdbhbkmjabcaaDoorRows.lean that lists a variable, with what it lists TIED to the program's text (the seventh form; the later family's looks); each row that meets fmt, with fmt's text TOLD by the authors' own Lean function (tested against real Go, not proved from fmt's source: count such statements apart). THE CARD IS WHAT COUNTS. Prove the row's statement (the work); the ties are given (YtgfdbhbkmjabcaaDoorTie.lean); close each card by the builder's one call (the guide's Derived/Test/ToyasCard.lean, 'card_holds'). Laid BY PROGRAM, IN A SANDBOX (cutbox-door.mjs). By AI agents, Wed Nov 11 2026. No macro, syntax, notation, axiom, sorry.
-/
import Derived.Test.YtgfdbhbkmjabcaaDoorRows
import GoSem.ClaimSeven
namespace Go.Proofs.YtgfdbhbkmjabcaaDoor
namespace Rows

/-- THE TIED CARD OF 'jacquardlaw04.ShowQuotes'. -/
def showQuotesCard : Claim7 := { stood := { row := showQuotesRow, standIns := [], harness := (true, "0393c73d4baafa0daa419cbe60739e5fea03ec7d36e3d25c7117e5b70a4b1ec5"), looks := false }, kinds := [], alts := [], laidByText := true, laidKinds := [.data, .data, .data], laidTests := true, laidLooks := .later }
def ShowQuotesCardSaid : Prop := Claim7.holds Tryd.pinned (.plain (OpenSpec.ofChange showQuotesSpec)) showQuotesCard

/-- THE SECOND FORM's CARD OF 'jacquardlaw04.ShowQuotes'. -/
def showQuotesUptoCard : Claim7 := { stood := { row := showQuotesUptoRow, standIns := [], harness := (true, "0393c73d4baafa0daa419cbe60739e5fea03ec7d36e3d25c7117e5b70a4b1ec5"), looks := false }, kinds := [], alts := [], laidByText := true, laidKinds := [.data, .data, .data], laidTests := true, laidLooks := .later }
def ShowQuotesUptoCardSaid : Prop := Claim7.holds Tryd.pinned (.plain (OpenSpec.upto showQuotesSpec)) showQuotesUptoCard
end Rows
end Go.Proofs.YtgfdbhbkmjabcaaDoor
