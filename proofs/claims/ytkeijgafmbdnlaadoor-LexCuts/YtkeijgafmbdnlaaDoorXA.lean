/- The program's small questions of one byte: the contracts. -/
import Derived.Test.YtkeijgafmbdnlaaDoorDa
set_option linter.unusedSimpArgs false
set_option linter.unusedVariables false
namespace Go.Proofs.YtkeijgafmbdnlaaDoor
open Go Go.RowKit

set_option maxHeartbeats 400000 in
theorem xisBlank_any (c : Int) (w : World) :
    Calls Tryd.prog 19 #[.int .u8 c] w fun e w' => e = .returned (.bool (isBl c)) ∧ w' = w := by
  go_enter Tryd.func19, Tryd.ntmps19
  go_wp2
  all_goals go_ret
  all_goals refine ⟨ret_bool ?_, rfl⟩
  all_goals (rw [Bool.eq_iff_iff]; simp_all [isBl]; try omega)

set_option maxHeartbeats 400000 in
theorem xisDigit_any (c : Int) (w : World) :
    Calls Tryd.prog 29 #[.int .u8 c] w fun e w' => e = .returned (.bool (isDg c)) ∧ w' = w := by
  go_enter Tryd.func29, Tryd.ntmps29
  go_wp2
  all_goals go_ret
  all_goals refine ⟨ret_bool ?_, rfl⟩
  all_goals (rw [Bool.eq_iff_iff]; simp_all [isDg]; try omega)

set_option maxHeartbeats 400000 in
theorem xisLetter_any (c : Int) (w : World) :
    Calls Tryd.prog 30 #[.int .u8 c] w fun e w' => e = .returned (.bool (isLt c)) ∧ w' = w := by
  go_enter Tryd.func30, Tryd.ntmps30
  go_wp2
  all_goals go_ret
  all_goals refine ⟨ret_bool ?_, rfl⟩
  all_goals (rw [Bool.eq_iff_iff]; simp_all [isLt]; try omega)

set_option maxHeartbeats 400000 in
theorem xhexDigit_any (c : Int) (h0 : 0 ≤ c) (h1 : c ≤ 255) (w : World) :
    Calls Tryd.prog 39 #[.int .u8 c] w fun e w' => e = .returned (.tuple #[.int .u8 ((hexV c).getD 0), .bool (hexV c).isSome]) ∧ w' = w := by
  go_enter Tryd.func39, Tryd.ntmps39
  go_wp2
  all_goals go_ret2
  all_goals
    refine ⟨?_, rfl⟩
    first
      | (have e : hexV c = none := by (unfold hexV; repeat' split) <;> first | rfl | omega
         rw [e]; rfl)
      | (have e : hexV c = some (c - 48) := by (unfold hexV; repeat' split) <;> first | rfl | omega
         rw [e]; rfl)
      | (have e : hexV c = some (c - 97 + 10) := by (unfold hexV; repeat' split) <;> first | rfl | omega
         rw [e]; rfl)
      | (have e : hexV c = some (c - 65 + 10) := by (unfold hexV; repeat' split) <;> first | rfl | omega
         rw [e]; rfl)

end Go.Proofs.YtkeijgafmbdnlaaDoor
