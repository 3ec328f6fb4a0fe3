/-
  DERIVED. GIVEN WITH THE SEED: THE CARDS: each row of YtjcefklbmioeoaaDoorRows.lean that lists a variable, with what it lists TIED to the program's text (the seventh form; the later family's looks); each row that meets fmt, with fmt's text TOLD by the authors' own Lean function (tested against real Go, not proved from fmt's source: count such statements apart). THE CARD IS WHAT COUNTS. Prove the row's statement (the work); the ties are given (YtjcefklbmioeoaaDoorTie.lean); close each card by the builder's one call (the guide's Derived/Test/ToyasCard.lean, 'card_holds'). Laid BY PROGRAM, IN A SANDBOX (cutbox-door.mjs). By AI agents, Wed Nov 11 2026. No macro, syntax, notation, axiom, sorry.
-/
import Derived.Test.YtjcefklbmioeoaaDoorRows
import GoSem.ClaimSeven
namespace Go.Proofs.YtjcefklbmioeoaaDoor
namespace Rows

/-- THE TIED CARD OF 'jacquardlaw11.VerifyChecks'. -/
def verifyChecksCard : Claim7 := { stood := { row := verifyChecksRow, standIns := [], harness := (true, "bf98603f10869f3e48e6e801a88e22ee42e8af4e5dbb7edcb6791b240bbdc05e"), looks := false }, kinds := [], alts := [], laidByText := true, laidKinds := [.data], laidTests := true, laidLooks := .later }
def VerifyChecksCardSaid : Prop := Claim7.holds Tryd.pinned (.plain (OpenSpec.ofChange verifyChecksSpec)) verifyChecksCard

/-- THE TIED CARD OF 'jacquardlaw11.VerifyHeights'. -/
def verifyHeightsCard : Claim7 := { stood := { row := verifyHeightsRow, standIns := [], harness := (true, "bf98603f10869f3e48e6e801a88e22ee42e8af4e5dbb7edcb6791b240bbdc05e"), looks := false }, kinds := [], alts := [], laidByText := true, laidKinds := [.data], laidTests := true, laidLooks := .later }
def VerifyHeightsCardSaid : Prop := Claim7.holds Tryd.pinned (.plain (OpenSpec.ofChange verifyHeightsSpec)) verifyHeightsCard

/-- THE TIED CARD OF 'jacquardlaw11.VerifyRight'. -/
def verifyRightCard : Claim7 := { stood := { row := verifyRightRow, standIns := [], harness := (true, "bf98603f10869f3e48e6e801a88e22ee42e8af4e5dbb7edcb6791b240bbdc05e"), looks := false }, kinds := [], alts := [], laidByText := true, laidKinds := [.data], laidTests := true, laidLooks := .later }
def VerifyRightCardSaid : Prop := Claim7.holds Tryd.pinned (.plain (OpenSpec.ofChange verifyRightSpec)) verifyRightCard

/-- THE TIED CARD OF 'jacquardlaw11.VerifyGrows'. -/
def verifyGrowsCard : Claim7 := { stood := { row := verifyGrowsRow, standIns := [], harness := (true, "bf98603f10869f3e48e6e801a88e22ee42e8af4e5dbb7edcb6791b240bbdc05e"), looks := false }, kinds := [], alts := [], laidByText := true, laidKinds := [.data], laidTests := true, laidLooks := .later }
def VerifyGrowsCardSaid : Prop := Claim7.holds Tryd.pinned (.plain (OpenSpec.ofChange verifyGrowsSpec)) verifyGrowsCard

/-- THE TIED CARD OF 'jacquardlaw11.VerifyStraight'. -/
def verifyStraightCard : Claim7 := { stood := { row := verifyStraightRow, standIns := [], harness := (true, "bf98603f10869f3e48e6e801a88e22ee42e8af4e5dbb7edcb6791b240bbdc05e"), looks := false }, kinds := [], alts := [], laidByText := true, laidKinds := [.data], laidTests := true, laidLooks := .later }
def VerifyStraightCardSaid : Prop := Claim7.holds Tryd.pinned (.plain (OpenSpec.ofChange verifyStraightSpec)) verifyStraightCard

/-- THE SECOND FORM's CARD OF 'jacquardlaw11.VerifyChecks'. -/
def verifyChecksUptoCard : Claim7 := { stood := { row := verifyChecksUptoRow, standIns := [], harness := (true, "bf98603f10869f3e48e6e801a88e22ee42e8af4e5dbb7edcb6791b240bbdc05e"), looks := false }, kinds := [], alts := [], laidByText := true, laidKinds := [.data], laidTests := true, laidLooks := .later }
def VerifyChecksUptoCardSaid : Prop := Claim7.holds Tryd.pinned (.plain (OpenSpec.upto verifyChecksSpec)) verifyChecksUptoCard

/-- THE SECOND FORM's CARD OF 'jacquardlaw11.VerifyHeights'. -/
def verifyHeightsUptoCard : Claim7 := { stood := { row := verifyHeightsUptoRow, standIns := [], harness := (true, "bf98603f10869f3e48e6e801a88e22ee42e8af4e5dbb7edcb6791b240bbdc05e"), looks := false }, kinds := [], alts := [], laidByText := true, laidKinds := [.data], laidTests := true, laidLooks := .later }
def VerifyHeightsUptoCardSaid : Prop := Claim7.holds Tryd.pinned (.plain (OpenSpec.upto verifyHeightsSpec)) verifyHeightsUptoCard

/-- THE SECOND FORM's CARD OF 'jacquardlaw11.VerifyRight'. -/
def verifyRightUptoCard : Claim7 := { stood := { row := verifyRightUptoRow, standIns := [], harness := (true, "bf98603f10869f3e48e6e801a88e22ee42e8af4e5dbb7edcb6791b240bbdc05e"), looks := false }, kinds := [], alts := [], laidByText := true, laidKinds := [.data], laidTests := true, laidLooks := .later }
def VerifyRightUptoCardSaid : Prop := Claim7.holds Tryd.pinned (.plain (OpenSpec.upto verifyRightSpec)) verifyRightUptoCard

/-- THE SECOND FORM's CARD OF 'jacquardlaw11.VerifyGrows'. -/
def verifyGrowsUptoCard : Claim7 := { stood := { row := verifyGrowsUptoRow, standIns := [], harness := (true, "bf98603f10869f3e48e6e801a88e22ee42e8af4e5dbb7edcb6791b240bbdc05e"), looks := false }, kinds := [], alts := [], laidByText := true, laidKinds := [.data], laidTests := true, laidLooks := .later }
def VerifyGrowsUptoCardSaid : Prop := Claim7.holds Tryd.pinned (.plain (OpenSpec.upto verifyGrowsSpec)) verifyGrowsUptoCard

/-- THE SECOND FORM's CARD OF 'jacquardlaw11.VerifyStraight'. -/
def verifyStraightUptoCard : Claim7 := { stood := { row := verifyStraightUptoRow, standIns := [], harness := (true, "bf98603f10869f3e48e6e801a88e22ee42e8af4e5dbb7edcb6791b240bbdc05e"), looks := false }, kinds := [], alts := [], laidByText := true, laidKinds := [.data], laidTests := true, laidLooks := .later }
def VerifyStraightUptoCardSaid : Prop := Claim7.holds Tryd.pinned (.plain (OpenSpec.upto verifyStraightSpec)) verifyStraightUptoCard
end Rows
end Go.Proofs.YtjcefklbmioeoaaDoor
