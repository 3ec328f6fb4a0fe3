/-
  DERIVED. GIVEN WITH THE SEED: THE CARDS: each row of YtekkjpecdflajaaDoorRows.lean that lists a variable, with what it lists TIED to the program's text (the seventh form; the later family's looks); each row that meets fmt, with fmt's text TOLD by the authors' own Lean function (tested against real Go, not proved from fmt's source: count such statements apart). THE CARD IS WHAT COUNTS. Prove the row's statement (the work); the ties are given (YtekkjpecdflajaaDoorTie.lean); close each card by the builder's one call (the guide's Derived/Test/ToyasCard.lean, 'card_holds'). Laid BY PROGRAM, IN A SANDBOX (cutbox-door.mjs). By AI agents, Wed Nov 11 2026. No macro, syntax, notation, axiom, sorry.
-/
import Derived.Test.YtekkjpecdflajaaDoorRows
import GoSem.ClaimSeven
namespace Go.Proofs.YtekkjpecdflajaaDoor
namespace Rows

/-- THE TIED CARD OF 'jacquardlaw08.ScopePrims'. -/
def scopePrimsCard : Claim7 := { stood := { row := scopePrimsRow, standIns := [], harness := (true, "0dfd061f7d647a7fe0a16d2407df84fcc1cf1336d7c3073b8a2618a8960aea87"), looks := false }, kinds := [], alts := [], laidByText := true, laidKinds := [.data, .data], laidTests := true, laidLooks := .later }
def ScopePrimsCardSaid : Prop := Claim7.holds Tryd.pinned (.plain (OpenSpec.ofChange scopePrimsSpec)) scopePrimsCard

/-- THE TIED CARD OF 'jacquardlaw08.ScopeNumbers'. -/
def scopeNumbersCard : Claim7 := { stood := { row := scopeNumbersRow, standIns := [], harness := (true, "0dfd061f7d647a7fe0a16d2407df84fcc1cf1336d7c3073b8a2618a8960aea87"), looks := false }, kinds := [], alts := [], laidByText := true, laidKinds := [.data, .data], laidTests := true, laidLooks := .later }
def ScopeNumbersCardSaid : Prop := Claim7.holds Tryd.pinned (.plain (OpenSpec.ofChange scopeNumbersSpec)) scopeNumbersCard

/-- THE SECOND FORM's CARD OF 'jacquardlaw08.ScopePrims'. -/
def scopePrimsUptoCard : Claim7 := { stood := { row := scopePrimsUptoRow, standIns := [], harness := (true, "0dfd061f7d647a7fe0a16d2407df84fcc1cf1336d7c3073b8a2618a8960aea87"), looks := false }, kinds := [], alts := [], laidByText := true, laidKinds := [.data, .data], laidTests := true, laidLooks := .later }
def ScopePrimsUptoCardSaid : Prop := Claim7.holds Tryd.pinned (.plain (OpenSpec.upto scopePrimsSpec)) scopePrimsUptoCard

/-- THE SECOND FORM's CARD OF 'jacquardlaw08.ScopeNumbers'. -/
def scopeNumbersUptoCard : Claim7 := { stood := { row := scopeNumbersUptoRow, standIns := [], harness := (true, "0dfd061f7d647a7fe0a16d2407df84fcc1cf1336d7c3073b8a2618a8960aea87"), looks := false }, kinds := [], alts := [], laidByText := true, laidKinds := [.data, .data], laidTests := true, laidLooks := .later }
def ScopeNumbersUptoCardSaid : Prop := Claim7.holds Tryd.pinned (.plain (OpenSpec.upto scopeNumbersSpec)) scopeNumbersUptoCard
end Rows
end Go.Proofs.YtekkjpecdflajaaDoor
