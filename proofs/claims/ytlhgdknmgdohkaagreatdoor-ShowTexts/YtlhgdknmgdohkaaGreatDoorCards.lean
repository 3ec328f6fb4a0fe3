/-
  DERIVED. GIVEN WITH THE SEED: THE CARDS: each row of YtlhgdknmgdohkaaGreatDoorRows.lean that lists a variable, with what it lists TIED to the program's text (the seventh form; the later family's looks); each row that meets fmt, with fmt's text TOLD by the authors' own Lean function (tested against real Go, not proved from fmt's source: count such statements apart). THE CARD IS WHAT COUNTS. Prove the row's statement (the work); the ties are given (YtlhgdknmgdohkaaGreatDoorTie.lean); close each card by the builder's one call (the guide's Derived/Test/ToyasCard.lean, 'card_holds'). Laid BY PROGRAM, IN A SANDBOX (cutbox-door.mjs). By AI agents, Wed Nov 11 2026. No macro, syntax, notation, axiom, sorry.
-/
import Derived.Test.YtlhgdknmgdohkaaGreatDoorRows
import GoSem.ClaimSeven
namespace Go.Proofs.YtlhgdknmgdohkaaGreatDoor
namespace Rows

/-- THE TIED CARD OF 'jacquardlaw04.ShowSames'. -/
def showSamesCard : Claim7 := { stood := { row := showSamesRow, standIns := [], harness := (true, "ad99629892291f8ff1a2b378a74f6f6803da6c1f064a330541666b8246f044ff"), looks := false }, kinds := [], alts := [], laidByText := true, laidKinds := [.data, .data, .data], laidTests := true, laidLooks := .later }
def ShowSamesCardSaid : Prop := Claim7.holds Tryz.pinned (.plain (OpenSpec.ofChange showSamesSpec)) showSamesCard

/-- THE TIED CARD OF 'jacquardlaw04.ShowTexts'. -/
def showTextsCard : Claim7 := { stood := { row := showTextsRow, standIns := [], harness := (true, "ad99629892291f8ff1a2b378a74f6f6803da6c1f064a330541666b8246f044ff"), looks := false }, kinds := [], alts := [], laidByText := true, laidKinds := [.data, .data, .data], laidTests := true, laidLooks := .later }
def ShowTextsCardSaid : Prop := Claim7.holds Tryz.pinned (.plain (OpenSpec.ofChange showTextsSpec)) showTextsCard

/-- THE TIED CARD OF 'jacquardlaw04.ShowRules'. -/
def showRulesCard : Claim7 := { stood := { row := showRulesRow, standIns := [], harness := (true, "ad99629892291f8ff1a2b378a74f6f6803da6c1f064a330541666b8246f044ff"), looks := false }, kinds := [], alts := [], laidByText := true, laidKinds := [.data, .data, .data], laidTests := true, laidLooks := .later }
def ShowRulesCardSaid : Prop := Claim7.holds Tryz.pinned (.plain (OpenSpec.ofChange showRulesSpec)) showRulesCard

/-- THE TIED CARD OF 'jacquardlaw04.ShowMoves'. -/
def showMovesCard : Claim7 := { stood := { row := showMovesRow, standIns := [], harness := (true, "ad99629892291f8ff1a2b378a74f6f6803da6c1f064a330541666b8246f044ff"), looks := false }, kinds := [], alts := [], laidByText := true, laidKinds := [.data, .data, .data], laidTests := true, laidLooks := .later }
def ShowMovesCardSaid : Prop := Claim7.holds Tryz.pinned (.plain (OpenSpec.ofChange showMovesSpec)) showMovesCard

/-- THE SECOND FORM's CARD OF 'jacquardlaw04.ShowSames'. -/
def showSamesUptoCard : Claim7 := { stood := { row := showSamesUptoRow, standIns := [], harness := (true, "ad99629892291f8ff1a2b378a74f6f6803da6c1f064a330541666b8246f044ff"), looks := false }, kinds := [], alts := [], laidByText := true, laidKinds := [.data, .data, .data], laidTests := true, laidLooks := .later }
def ShowSamesUptoCardSaid : Prop := Claim7.holds Tryz.pinned (.plain (OpenSpec.upto showSamesSpec)) showSamesUptoCard

/-- THE SECOND FORM's CARD OF 'jacquardlaw04.ShowTexts'. -/
def showTextsUptoCard : Claim7 := { stood := { row := showTextsUptoRow, standIns := [], harness := (true, "ad99629892291f8ff1a2b378a74f6f6803da6c1f064a330541666b8246f044ff"), looks := false }, kinds := [], alts := [], laidByText := true, laidKinds := [.data, .data, .data], laidTests := true, laidLooks := .later }
def ShowTextsUptoCardSaid : Prop := Claim7.holds Tryz.pinned (.plain (OpenSpec.upto showTextsSpec)) showTextsUptoCard

/-- THE SECOND FORM's CARD OF 'jacquardlaw04.ShowRules'. -/
def showRulesUptoCard : Claim7 := { stood := { row := showRulesUptoRow, standIns := [], harness := (true, "ad99629892291f8ff1a2b378a74f6f6803da6c1f064a330541666b8246f044ff"), looks := false }, kinds := [], alts := [], laidByText := true, laidKinds := [.data, .data, .data], laidTests := true, laidLooks := .later }
def ShowRulesUptoCardSaid : Prop := Claim7.holds Tryz.pinned (.plain (OpenSpec.upto showRulesSpec)) showRulesUptoCard

/-- THE SECOND FORM's CARD OF 'jacquardlaw04.ShowMoves'. -/
def showMovesUptoCard : Claim7 := { stood := { row := showMovesUptoRow, standIns := [], harness := (true, "ad99629892291f8ff1a2b378a74f6f6803da6c1f064a330541666b8246f044ff"), looks := false }, kinds := [], alts := [], laidByText := true, laidKinds := [.data, .data, .data], laidTests := true, laidLooks := .later }
def ShowMovesUptoCardSaid : Prop := Claim7.holds Tryz.pinned (.plain (OpenSpec.upto showMovesSpec)) showMovesUptoCard
end Rows
end Go.Proofs.YtlhgdknmgdohkaaGreatDoor
