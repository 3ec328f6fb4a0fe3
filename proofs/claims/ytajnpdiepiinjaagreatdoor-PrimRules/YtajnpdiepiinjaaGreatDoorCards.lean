/-
  DERIVED. GIVEN WITH THE SEED: THE CARDS: each row of YtajnpdiepiinjaaGreatDoorRows.lean that lists a variable, with what it lists TIED to the program's text (the seventh form; the later family's looks); each row that meets fmt, with fmt's text TOLD by the authors' own Lean function (tested against real Go, not proved from fmt's source: count such statements apart). THE CARD IS WHAT COUNTS. Prove the row's statement (the work); the ties are given (YtajnpdiepiinjaaGreatDoorTie.lean); close each card by the builder's one call (the guide's Derived/Test/ToyasCard.lean, 'card_holds'). Laid BY PROGRAM, IN A SANDBOX (cutbox-door.mjs). By AI agents, Wed Nov 11 2026. No macro, syntax, notation, axiom, sorry.
-/
import Derived.Test.YtajnpdiepiinjaaGreatDoorRows
import GoSem.ClaimSeven
namespace Go.Proofs.YtajnpdiepiinjaaGreatDoor
namespace Rows

/-- THE TIED CARD OF 'jacquardlaw09.PrimBins'. -/
def primBinsCard : Claim7 := { stood := { row := primBinsRow, standIns := [], harness := (true, "30ba780aa47119653ab3e8081b0a33507b5c2ddb5d70185776cadd84b12b0ea8"), looks := false }, kinds := [], alts := [], laidByText := true, laidKinds := [.data, .data], laidTests := true, laidLooks := .later }
def PrimBinsCardSaid : Prop := Claim7.holds Tryz.pinned (.plain (OpenSpec.ofChange primBinsSpec)) primBinsCard

/-- THE TIED CARD OF 'jacquardlaw09.PrimRules'. -/
def primRulesCard : Claim7 := { stood := { row := primRulesRow, standIns := [], harness := (true, "30ba780aa47119653ab3e8081b0a33507b5c2ddb5d70185776cadd84b12b0ea8"), looks := false }, kinds := [], alts := [], laidByText := true, laidKinds := [.data, .data], laidTests := true, laidLooks := .later }
def PrimRulesCardSaid : Prop := Claim7.holds Tryz.pinned (.plain (OpenSpec.ofChange primRulesSpec)) primRulesCard

/-- THE TIED CARD OF 'jacquardlaw09.PrimJoins'. -/
def primJoinsCard : Claim7 := { stood := { row := primJoinsRow, standIns := [], harness := (true, "30ba780aa47119653ab3e8081b0a33507b5c2ddb5d70185776cadd84b12b0ea8"), looks := false }, kinds := [], alts := [], laidByText := true, laidKinds := [.data, .data, .data, .data, .data, .data, .data], laidTests := true, laidLooks := .later }
def PrimJoinsCardSaid : Prop := Claim7.holds Tryz.pinned (.plain (OpenSpec.ofChange primJoinsSpec)) primJoinsCard

/-- THE TIED CARD OF 'jacquardlaw09.PrimStacks'. -/
def primStacksCard : Claim7 := { stood := { row := primStacksRow, standIns := [], harness := (true, "30ba780aa47119653ab3e8081b0a33507b5c2ddb5d70185776cadd84b12b0ea8"), looks := false }, kinds := [], alts := [], laidByText := true, laidKinds := [.data, .data, .data, .data, .data, .data, .data], laidTests := true, laidLooks := .later }
def PrimStacksCardSaid : Prop := Claim7.holds Tryz.pinned (.plain (OpenSpec.ofChange primStacksSpec)) primStacksCard

/-- THE TIED CARD OF 'jacquardlaw09.PrimRecords'. -/
def primRecordsCard : Claim7 := { stood := { row := primRecordsRow, standIns := [], harness := (true, "30ba780aa47119653ab3e8081b0a33507b5c2ddb5d70185776cadd84b12b0ea8"), looks := false }, kinds := [], alts := [], laidByText := true, laidKinds := [.data, .data, .data, .data, .data, .data, .data], laidTests := true, laidLooks := .later }
def PrimRecordsCardSaid : Prop := Claim7.holds Tryz.pinned (.plain (OpenSpec.ofChange primRecordsSpec)) primRecordsCard

/-- THE SECOND FORM's CARD OF 'jacquardlaw09.PrimBins'. -/
def primBinsUptoCard : Claim7 := { stood := { row := primBinsUptoRow, standIns := [], harness := (true, "30ba780aa47119653ab3e8081b0a33507b5c2ddb5d70185776cadd84b12b0ea8"), looks := false }, kinds := [], alts := [], laidByText := true, laidKinds := [.data, .data], laidTests := true, laidLooks := .later }
def PrimBinsUptoCardSaid : Prop := Claim7.holds Tryz.pinned (.plain (OpenSpec.upto primBinsSpec)) primBinsUptoCard

/-- THE SECOND FORM's CARD OF 'jacquardlaw09.PrimRules'. -/
def primRulesUptoCard : Claim7 := { stood := { row := primRulesUptoRow, standIns := [], harness := (true, "30ba780aa47119653ab3e8081b0a33507b5c2ddb5d70185776cadd84b12b0ea8"), looks := false }, kinds := [], alts := [], laidByText := true, laidKinds := [.data, .data], laidTests := true, laidLooks := .later }
def PrimRulesUptoCardSaid : Prop := Claim7.holds Tryz.pinned (.plain (OpenSpec.upto primRulesSpec)) primRulesUptoCard

/-- THE SECOND FORM's CARD OF 'jacquardlaw09.PrimJoins'. -/
def primJoinsUptoCard : Claim7 := { stood := { row := primJoinsUptoRow, standIns := [], harness := (true, "30ba780aa47119653ab3e8081b0a33507b5c2ddb5d70185776cadd84b12b0ea8"), looks := false }, kinds := [], alts := [], laidByText := true, laidKinds := [.data, .data, .data, .data, .data, .data, .data], laidTests := true, laidLooks := .later }
def PrimJoinsUptoCardSaid : Prop := Claim7.holds Tryz.pinned (.plain (OpenSpec.upto primJoinsSpec)) primJoinsUptoCard

/-- THE SECOND FORM's CARD OF 'jacquardlaw09.PrimStacks'. -/
def primStacksUptoCard : Claim7 := { stood := { row := primStacksUptoRow, standIns := [], harness := (true, "30ba780aa47119653ab3e8081b0a33507b5c2ddb5d70185776cadd84b12b0ea8"), looks := false }, kinds := [], alts := [], laidByText := true, laidKinds := [.data, .data, .data, .data, .data, .data, .data], laidTests := true, laidLooks := .later }
def PrimStacksUptoCardSaid : Prop := Claim7.holds Tryz.pinned (.plain (OpenSpec.upto primStacksSpec)) primStacksUptoCard

/-- THE SECOND FORM's CARD OF 'jacquardlaw09.PrimRecords'. -/
def primRecordsUptoCard : Claim7 := { stood := { row := primRecordsUptoRow, standIns := [], harness := (true, "30ba780aa47119653ab3e8081b0a33507b5c2ddb5d70185776cadd84b12b0ea8"), looks := false }, kinds := [], alts := [], laidByText := true, laidKinds := [.data, .data, .data, .data, .data, .data, .data], laidTests := true, laidLooks := .later }
def PrimRecordsUptoCardSaid : Prop := Claim7.holds Tryz.pinned (.plain (OpenSpec.upto primRecordsSpec)) primRecordsUptoCard
end Rows
end Go.Proofs.YtajnpdiepiinjaaGreatDoor
