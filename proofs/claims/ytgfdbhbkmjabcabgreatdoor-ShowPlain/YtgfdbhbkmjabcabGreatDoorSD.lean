/- What the three atoms look like. -/
import Derived.Test.YtgfdbhbkmjabcabGreatDoorSB
set_option linter.unusedSimpArgs false
set_option linter.unusedVariables false
namespace Go.Proofs.YtgfdbhbkmjabcabGreatDoor
open Go Go.RowKit

/-- What an atom looks like. -/
def atomS (v : Int) : ByteArray := if v = 5 then ⟨#[102, 97, 108, 115, 101]⟩ else if v = 9 then ⟨#[116, 114, 117, 101]⟩ else ⟨#[110, 105, 108]⟩

set_option maxHeartbeats 4000000 in
theorem atom_any (v : Int) (w : World) :
    Calls Tryz.prog 42 #[.int .u64 v] w fun e w' => e = .returned (.string (atomS v)) ∧ w' = w := by
  go_enter Tryz.func42, Tryz.ntmps42
  go_wp2
  all_goals go_ret
  all_goals refine ⟨?_, rfl⟩
  all_goals simp_all [atomS]

end Go.Proofs.YtgfdbhbkmjabcabGreatDoor
