/- The document's lists compared: the contract. -/
import Derived.Test.YtimidonagbfjcaaGreatDoorK1
set_option linter.unusedSimpArgs false
set_option linter.unusedVariables false
namespace Go.Proofs.YtimidonagbfjcaaGreatDoor
open Go Go.RowKit

/-- Are two lists the same from place i on? -/
def smFrom (x y : List Int) (i : Nat) : Bool := decide (x.drop i = y.drop i)

theorem drop_step (x y : List Int) (i : Nat) (hx : i < x.length) (hy : i < y.length) : (x.drop i = y.drop i) ↔ (x[i] = y[i] ∧ x.drop (i + 1) = y.drop (i + 1)) := by
  rw [List.drop_eq_getElem_cons hx, List.drop_eq_getElem_cons hy, List.cons.injEq]



end Go.Proofs.YtimidonagbfjcaaGreatDoor

