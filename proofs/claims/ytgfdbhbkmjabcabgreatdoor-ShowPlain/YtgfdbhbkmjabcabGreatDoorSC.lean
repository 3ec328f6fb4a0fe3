/- strconv.Itoa of 1. -/
import Derived.Test.YtgfdbhbkmjabcabGreatDoorSA
set_option linter.unusedSimpArgs false
set_option linter.unusedVariables false
namespace Go.Proofs.YtgfdbhbkmjabcabGreatDoor
open Go Go.RowKit

set_option maxHeartbeats 4000000 in
theorem itoa_one (w : World) :
    Calls Tryz.prog 39 #[.int .i64 1] w fun e w' => e = .returned (.string ⟨#[49]⟩) ∧ w' = w := by
  go_enter Tryz.func39, Tryz.ntmps39
  go_wp2
  all_goals go_ret
  all_goals exact ⟨rfl, rfl⟩

end Go.Proofs.YtgfdbhbkmjabcabGreatDoor
