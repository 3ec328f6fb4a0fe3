/- The reckoning's contracts: what Add, Sub, Mul, Neg, Div, Mod and Less return, of any words, and that they leave the world as it is. -/
import Derived.Test.YtfkbodofdpgakabW1
namespace Go.Proofs.Ytfkbodofdpgakab
open Go.RowKit

set_option maxHeartbeats 400000 in
theorem reckon_no (op a b : Int) (ha : U a) (hb : U b) (hn : ¬ (N a ∧ N b)) (w : World) :
    Calls Try.prog 23 #[.int .i64 op, .int .u64 a, .int .u64 b] w fun e w' => e = .returned (.tuple #[.int .u64 0, .int .i64 8]) ∧ w' = w := by
  go_enter Try.func23, Try.ntmps23
  go_wp2_with (go_at_call 24; refine (pair_no _ _ ha hb hn _).mono ?_; rintro e w' ⟨rfl, rfl⟩)
  go_ret2
  exact ⟨rfl, rfl⟩
set_option maxHeartbeats 400000 in
theorem reckon_add (a b : Int) (ha : U a) (hb : U b) (na : N a) (nb : N b) (w : World) :
    Calls Try.prog 23 #[.int .i64 0, .int .u64 a, .int .u64 b] w fun e w' => e = .returned (.tuple #[.int .u64 (mk (nm a + nm b)), .int .i64 0]) ∧ w' = w := by
  have b1 := nm_bd a
  have b2 := nm_bd b
  go_enter Try.func23, Try.ntmps23
  go_wp2_with (first | (go_at_call 24; refine (pair_yes _ _ ha hb na nb _).mono ?_; rintro e w' ⟨rfl, rfl⟩) | (go_at_call 8; refine (int_any _ _).mono ?_; rintro e w' ⟨rfl, rfl⟩))
  all_goals
    go_ret2
    refine ⟨ret_ii ?_ rfl, rfl⟩
    exact congrArg mk (by omega)
set_option maxHeartbeats 400000 in
theorem reckon_sub (a b : Int) (ha : U a) (hb : U b) (na : N a) (nb : N b) (w : World) :
    Calls Try.prog 23 #[.int .i64 1, .int .u64 a, .int .u64 b] w fun e w' => e = .returned (.tuple #[.int .u64 (mk (nm a - nm b)), .int .i64 0]) ∧ w' = w := by
  have b1 := nm_bd a
  have b2 := nm_bd b
  go_enter Try.func23, Try.ntmps23
  go_wp2_with (first | (go_at_call 24; refine (pair_yes _ _ ha hb na nb _).mono ?_; rintro e w' ⟨rfl, rfl⟩) | (go_at_call 8; refine (int_any _ _).mono ?_; rintro e w' ⟨rfl, rfl⟩))
  all_goals
    go_ret2
    refine ⟨ret_ii ?_ rfl, rfl⟩
    exact congrArg mk (by omega)
set_option maxHeartbeats 400000 in
theorem reckon_neg (a b : Int) (ha : U a) (hb : U b) (na : N a) (nb : N b) (w : World) :
    Calls Try.prog 23 #[.int .i64 2, .int .u64 a, .int .u64 b] w fun e w' => e = .returned (.tuple #[.int .u64 (mk (- nm a)), .int .i64 0]) ∧ w' = w := by
  have b1 := nm_bd a
  have b2 := nm_bd b
  go_enter Try.func23, Try.ntmps23
  go_wp2_with (first | (go_at_call 24; refine (pair_yes _ _ ha hb na nb _).mono ?_; rintro e w' ⟨rfl, rfl⟩) | (go_at_call 8; refine (int_any _ _).mono ?_; rintro e w' ⟨rfl, rfl⟩))
  all_goals
    go_ret2
    refine ⟨ret_ii ?_ rfl, rfl⟩
    exact congrArg mk (by omega)
set_option maxHeartbeats 400000 in
theorem reckon_mul (a b : Int) (ha : U a) (hb : U b) (na : N a) (nb : N b) (w : World) :
    Calls Try.prog 23 #[.int .i64 3, .int .u64 a, .int .u64 b] w fun e w' => e = .returned (.tuple #[.int .u64 (mk (nm a * nm b)), .int .i64 0]) ∧ w' = w := by
  have b1 := nm_bd a
  have b2 := nm_bd b
  go_enter Try.func23, Try.ntmps23
  go_wp2_with (first | (go_at_call 24; refine (pair_yes _ _ ha hb na nb _).mono ?_; rintro e w' ⟨rfl, rfl⟩) | (go_at_call 8; refine (int_any _ _).mono ?_; rintro e w' ⟨rfl, rfl⟩))
  all_goals
    go_ret2
    refine ⟨ret_ii ?_ rfl, rfl⟩
    first | exact mk_wrap64 _ | (rw [show nm b = 0 by assumption, Int.mul_zero])
set_option maxHeartbeats 400000 in
theorem reckon_div (a b : Int) (ha : U a) (hb : U b) (na : N a) (nb : N b) (hz : ¬ nm b = 0) (w : World) :
    Calls Try.prog 23 #[.int .i64 4, .int .u64 a, .int .u64 b] w fun e w' => e = .returned (.tuple #[.int .u64 (mk (quo (nm a) (nm b))), .int .i64 0]) ∧ w' = w := by
  have b1 := nm_bd a
  have b2 := nm_bd b
  have hzb : (nm b == 0) = false := by simpa using hz
  go_enter Try.func23, Try.ntmps23
  go_wp2_with (first | (go_at_call 24; refine (pair_yes _ _ ha hb na nb _).mono ?_; rintro e w' ⟨rfl, rfl⟩) | (go_at_call 8; refine (int_any _ _).mono ?_; rintro e w' ⟨rfl, rfl⟩))
  all_goals
    go_ret2
    refine ⟨ret_ii ?_ rfl, rfl⟩
    first | exact mk_wrap64 _ | rfl
set_option maxHeartbeats 400000 in
theorem reckon_mod (a b : Int) (ha : U a) (hb : U b) (na : N a) (nb : N b) (hz : ¬ nm b = 0) (w : World) :
    Calls Try.prog 23 #[.int .i64 5, .int .u64 a, .int .u64 b] w fun e w' => e = .returned (.tuple #[.int .u64 (mk (rest (nm a) (nm b))), .int .i64 0]) ∧ w' = w := by
  have b1 := nm_bd a
  have b2 := nm_bd b
  have hzb : (nm b == 0) = false := by simpa using hz
  go_enter Try.func23, Try.ntmps23
  go_wp2_with (first | (go_at_call 24; refine (pair_yes _ _ ha hb na nb _).mono ?_; rintro e w' ⟨rfl, rfl⟩) | (go_at_call 8; refine (int_any _ _).mono ?_; rintro e w' ⟨rfl, rfl⟩))
  all_goals
    go_ret2
    refine ⟨ret_ii ?_ rfl, rfl⟩
    first | exact mk_wrap64 _ | rfl
set_option maxHeartbeats 400000 in
theorem reckon_zero4 (a b : Int) (ha : U a) (hb : U b) (na : N a) (nb : N b) (hz : (nm b == 0) = true) (w : World) :
    Calls Try.prog 23 #[.int .i64 4, .int .u64 a, .int .u64 b] w fun e w' => e = .returned (.tuple #[.int .u64 0, .int .i64 10]) ∧ w' = w := by
  go_enter Try.func23, Try.ntmps23
  go_wp2_with (go_at_call 24; refine (pair_yes _ _ ha hb na nb _).mono ?_; rintro e w' ⟨rfl, rfl⟩)
  go_ret2
  exact ⟨rfl, rfl⟩
set_option maxHeartbeats 400000 in
theorem reckon_zero5 (a b : Int) (ha : U a) (hb : U b) (na : N a) (nb : N b) (hz : (nm b == 0) = true) (w : World) :
    Calls Try.prog 23 #[.int .i64 5, .int .u64 a, .int .u64 b] w fun e w' => e = .returned (.tuple #[.int .u64 0, .int .i64 10]) ∧ w' = w := by
  go_enter Try.func23, Try.ntmps23
  go_wp2_with (go_at_call 24; refine (pair_yes _ _ ha hb na nb _).mono ?_; rintro e w' ⟨rfl, rfl⟩)
  go_ret2
  exact ⟨rfl, rfl⟩
set_option maxHeartbeats 400000 in
theorem less_no (a b : Int) (ha : U a) (hb : U b) (hn : ¬ (N a ∧ N b)) (w : World) :
    Calls Try.prog 19 #[.int .u64 a, .int .u64 b] w fun e w' => e = .returned (.tuple #[.bool false, .int .i64 8]) ∧ w' = w := by
  go_enter Try.func19, Try.ntmps19
  go_wp2_with (go_at_call 24; refine (pair_no _ _ ha hb hn _).mono ?_; rintro e w' ⟨rfl, rfl⟩)
  go_ret2
  exact ⟨rfl, rfl⟩
set_option maxHeartbeats 400000 in
theorem less_yes (a b : Int) (ha : U a) (hb : U b) (na : N a) (nb : N b) (w : World) :
    Calls Try.prog 19 #[.int .u64 a, .int .u64 b] w fun e w' => e = .returned (.tuple #[.bool (ltB a b), .int .i64 0]) ∧ w' = w := by
  go_enter Try.func19, Try.ntmps19
  go_wp2_with (go_at_call 24; refine (pair_yes _ _ ha hb na nb _).mono ?_; rintro e w' ⟨rfl, rfl⟩)
  go_ret2
  exact ⟨rfl, rfl⟩
end Go.Proofs.Ytfkbodofdpgakab
