/- The document's words of layer 1, as later layers' answers call them: their contracts. -/
import Derived.Test.YtjcoifdfemejkaaGreatDoorM1
import Derived.WalkKit
import Derived.WalkSpells
import Derived.WalkLawsBesides
set_option linter.unusedSimpArgs false
set_option linter.unusedVariables false
namespace Go.Proofs.YtjcoifdfemejkaaGreatDoor
open Go Go.RowKit

set_option maxHeartbeats 400000 in
theorem rint_any (n : Int) (w : World) :
    Calls Tryz.prog 93 #[.int .i64 n] w fun e w' => e = .returned (.int .u64 (mk n)) ∧ w' = w := by
  go_enter Tryz.func93, Tryz.ntmps93
  go_wp2
  go_ret
  exact ⟨ret_int (rint_eq n), rfl⟩

set_option maxHeartbeats 400000 in
theorem rkind_any (v : Int) (hv : U v) (w : World) :
    Calls Tryz.prog 35 #[.int .u64 v] w fun e w' => e = .returned (.int .i64 (kd v)) ∧ w' = w := by
  have h0 : 0 ≤ v := hv.1
  have hd := tdiv4 v hv
  go_enter Tryz.func35, Tryz.ntmps35
  go_wp2
  all_goals
    go_ret
    refine ⟨ret_int ?_, rfl⟩
    clear hd
    try simp only [beq_iff_eq, beq_eq_false_iff_ne, ne_eq] at *
    unfold kd
    repeat' split
    all_goals omega

set_option maxHeartbeats 400000 in
theorem rindex_any (v : Int) (hv : U v) (w : World) :
    Calls Tryz.prog 94 #[.int .u64 v] w fun e w' => e = .returned (.tuple #[.int .i64 (idxV v), .bool (hasI v)]) ∧ w' = w := by
  have h0 : 0 ≤ v := hv.1
  have h1 : v / 4 < 4611686018427387904 := by have := hv.2; omega
  have hd := tdiv4 v hv
  go_enter Tryz.func94, Tryz.ntmps94
  go_wp2_with (go_at_call 35; refine (rkind_any _ hv _).mono ?_; rintro e w' ⟨rfl, rfl⟩)
  all_goals
    go_ret2
    refine ⟨ret_ib ?_ ?_, rfl⟩
    all_goals
      clear hd
      try simp only [ne_eq, bne_iff_ne, bne_eq_false_iff_eq] at *
      first | exact idx_yes (by omega) | exact idx_no (by omega) | exact has_yes (by omega) | exact has_no (by omega)

set_option maxHeartbeats 400000 in
theorem rref_any (i : Int) (w : World) :
    Calls Tryz.prog 69 #[.int .i64 i] w fun e w' => e = .returned (.tuple #[.int .u64 (refV i), .int .i64 (erI i)]) ∧ w' = w := by
  go_enter Tryz.func69, Tryz.ntmps69
  go_wp2
  all_goals
    go_ret2
    refine ⟨ret_ii ?_ ?_, rfl⟩
    all_goals
      first | unfold refV | unfold erI
      split
      all_goals omega

end Go.Proofs.YtjcoifdfemejkaaGreatDoor

