/-
  DERIVED. GIVEN WITH THE SEED: THE CARDS: each row of YtajnpdiepiinjaaDoorRows.lean that lists a variable, with what it lists TIED to the program's text (the seventh form; the later family's looks); each row that meets fmt, with fmt's text TOLD by the authors' own Lean function (tested against real Go, not proved from fmt's source: count such statements apart). THE CARD IS WHAT COUNTS. Prove the row's statement (the work); the ties are given (YtajnpdiepiinjaaDoorTie.lean); close each card by the builder's one call (the guide's Derived/Test/ToyasCard.lean, 'card_holds'). Laid BY PROGRAM, IN A SANDBOX (cutbox-door.mjs). By AI agents, Wed Nov 11 2026. No macro, syntax, notation, axiom, sorry.
-/
import Derived.Test.YtajnpdiepiinjaaDoorRows
import GoSem.ClaimSeven
namespace Go.Proofs.YtajnpdiepiinjaaDoor
namespace Rows

/-- THE TIED CARD OF 'jacquardlaw09.PrimTables'. -/
def primTablesCard : Claim7 := { stood := { row := primTablesRow, standIns := [], harness := (true, "ef4e5b09e5a8914ce277f28de66399fb57ce633a9b14c657b2ba1bc635f1f6dd"), looks := false }, kinds := [], alts := [], laidByText := true, laidKinds := [.data, .data, .data, .data], laidTests := true, laidLooks := .later }
def PrimTablesCardSaid : Prop := Claim7.holds Tryd.pinned (.plain (OpenSpec.ofChange primTablesSpec)) primTablesCard

/-- THE SECOND FORM's CARD OF 'jacquardlaw09.PrimTables'. -/
def primTablesUptoCard : Claim7 := { stood := { row := primTablesUptoRow, standIns := [], harness := (true, "ef4e5b09e5a8914ce277f28de66399fb57ce633a9b14c657b2ba1bc635f1f6dd"), looks := false }, kinds := [], alts := [], laidByText := true, laidKinds := [.data, .data, .data, .data], laidTests := true, laidLooks := .later }
def PrimTablesUptoCardSaid : Prop := Claim7.holds Tryd.pinned (.plain (OpenSpec.upto primTablesSpec)) primTablesUptoCard
end Rows
end Go.Proofs.YtajnpdiepiinjaaDoor
