/- strconv.Itoa of 1. -/
import Derived.Test.YtgfdbhbkmjabcaaDoorSA
set_option linter.unusedSimpArgs false
set_option linter.unusedVariables false
namespace Go.Proofs.YtgfdbhbkmjabcaaDoor
open Go Go.RowKit

set_option maxHeartbeats 4000000 in
theorem itoa_one (w : World) :
    Calls Tryd.prog 43 #[.int .i64 1] w fun e w' => e = .returned (.string ⟨#[49]⟩) ∧ w' = w := by
  go_enter Tryd.func43, Tryd.ntmps43
  go_wp2
  all_goals go_ret
  all_goals exact ⟨rfl, rfl⟩

end Go.Proofs.YtgfdbhbkmjabcaaDoor
