/- Small callees of the program's Text: contracts. -/
import Derived.Test.YtgfdbhbkmjabcabGreatDoorSA
set_option linter.unusedSimpArgs false
set_option linter.unusedVariables false
namespace Go.Proofs.YtgfdbhbkmjabcabGreatDoor
open Go Go.RowKit

set_option maxHeartbeats 4000000 in
theorem hasParts_any (k : Int) (w : World) :
    Calls Tryz.prog 21 #[.int .i64 k] w fun e w' => e = .returned (.bool (k == 2 || k == 3 || k == 4)) ∧ w' = w := by
  go_enter Tryz.func21, Tryz.ntmps21
  go_wp2
  all_goals go_ret
  all_goals refine ⟨ret_bool ?_, rfl⟩
  all_goals first | rfl | simp_all

set_option maxHeartbeats 4000000 in
theorem between_any (i : Int) (w : World) :
    Calls Tryz.prog 68 #[.int .i64 i] w fun e w' => e = .returned (.string (if i = 0 then ⟨#[]⟩ else ⟨#[44, 32]⟩)) ∧ w' = w := by
  by_cases h : i = 0
  · have t : (i == 0) = true := by simpa using h
    go_enter Tryz.func68, Tryz.ntmps68
    go_wp2
    all_goals go_ret
    all_goals (refine ⟨?_, rfl⟩; subst h; rfl)
  · have t : (i == 0) = false := by simpa using h
    go_enter Tryz.func68, Tryz.ntmps68
    go_wp2
    all_goals go_ret
    all_goals (refine ⟨?_, rfl⟩; try simp [h])

end Go.Proofs.YtgfdbhbkmjabcabGreatDoor
