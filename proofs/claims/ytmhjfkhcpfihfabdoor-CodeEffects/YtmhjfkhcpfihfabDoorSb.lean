/- The document's Same, of images that are the same: the contract. -/
import Derived.Test.YtmhjfkhcpfihfabDoorSa
set_option linter.unusedSimpArgs false
set_option linter.unusedVariables false
namespace Go.Proofs.YtmhjfkhcpfihfabDoor
open Go Go.RowKit

theorem map_len {α β : Type} {f : α → β} {a b : List α} {c : List β} (h : a.map f = c) (g : b.map f = c) : b.length = a.length := by
  have e := congrArg List.length (g.trans h.symm)
  simpa using e

theorem map_at {α β : Type} {f : α → β} {a b : List α} {c : List β} (h : a.map f = c) (g : b.map f = c) {i : Nat} (hi : i < a.length) (hj : i < b.length) : f b[i] = f a[i] := by
  have e := congrArg (·[i]?) (g.trans h.symm)
  simpa [hi, hj] using e

section
variable {w w' : World}



end

end Go.Proofs.YtmhjfkhcpfihfabDoor
