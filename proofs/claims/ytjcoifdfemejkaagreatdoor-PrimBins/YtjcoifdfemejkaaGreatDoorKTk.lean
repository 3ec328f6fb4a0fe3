/- Numbers, truths, sums of words: the calls of tag. -/
import Derived.Test.YtjcoifdfemejkaaGreatDoorWTk
set_option linter.unusedSimpArgs false
set_option linter.unusedVariables false
namespace Go.Proofs.YtjcoifdfemejkaaGreatDoor
open Go Go.RowKit

set_option maxHeartbeats 400000 in
theorem tnum_yes (v : Int) (hv : U v) (hn : N v) (w : World) :
    Calls Tryz.prog 59 #[.int .u64 v] w fun e w' => e = .returned (.tuple #[.int .i64 (nm v), .bool true]) ∧ w' = w := by
  have hk : (kd v != 0) = false := by unfold N at hn; simp [kd, hn]
  go_enter Tryz.func59, Tryz.ntmps59
  go_wp2_with (go_at_call 76; refine (kind_any _ hv _).mono ?_; rintro e w' ⟨rfl, rfl⟩)
  go_ret2
  exact ⟨ret_ib (nm_of v) rfl, rfl⟩

set_option maxHeartbeats 400000 in
theorem tnum_no (v : Int) (hv : U v) (hn : ¬ N v) (w : World) :
    Calls Tryz.prog 59 #[.int .u64 v] w fun e w' => e = .returned (.tuple #[.int .i64 0, .bool false]) ∧ w' = w := by
  have hk : (kd v != 0) = true := by
    unfold N at hn; rw [bne_iff_ne]; unfold kd; repeat' split
    all_goals omega
  go_enter Tryz.func59, Tryz.ntmps59
  go_wp2_with (go_at_call 76; refine (kind_any _ hv _).mono ?_; rintro e w' ⟨rfl, rfl⟩)
  go_ret2
  exact ⟨rfl, rfl⟩

set_option maxHeartbeats 400000 in
theorem tnum_any (v : Int) (hv : U v) (w : World) :
    Calls Tryz.prog 59 #[.int .u64 v] w fun e w' => e = .returned (.tuple #[.int .i64 (numV v), .bool (isN v)]) ∧ w' = w := by
  by_cases hn : N v
  · rw [show numV v = nm v from if_pos hn, show isN v = true from decide_eq_true hn]; exact tnum_yes v hv hn w
  · rw [show numV v = 0 from if_neg hn, show isN v = false from decide_eq_false hn]; exact tnum_no v hv hn w

set_option maxHeartbeats 400000 in
theorem ttruth_any (v : Int) (w : World) :
    Calls Tryz.prog 14 #[.int .u64 v] w fun e w' => e = .returned (.bool (tru v)) ∧ w' = w := by
  go_enter Tryz.func14, Tryz.ntmps14
  go_wp2
  all_goals
    go_ret
    refine ⟨ret_bool ?_, rfl⟩
    first | rfl | simp [tru, *]

set_option maxHeartbeats 400000 in
theorem tpair_yes (a b : Int) (ha : U a) (hb : U b) (na : N a) (nb : N b) (w : World) :
    Calls Tryz.prog 118 #[.int .u64 a, .int .u64 b] w fun e w' => e = .returned (.tuple #[.int .i64 (nm a), .int .i64 (nm b), .int .i64 0]) ∧ w' = w := by
  go_enter Tryz.func118, Tryz.ntmps118
  go_wp2_with (go_at_call 59; refine (tnum_yes _ (by assumption) (by assumption) _).mono ?_; rintro e w' ⟨rfl, rfl⟩)
  go_ret3
  exact ⟨rfl, rfl⟩

set_option maxHeartbeats 400000 in
theorem tpair_no (a b : Int) (ha : U a) (hb : U b) (hn : ¬ (N a ∧ N b)) (w : World) :
    Calls Tryz.prog 118 #[.int .u64 a, .int .u64 b] w fun e w' => e = .returned (.tuple #[.int .i64 0, .int .i64 0, .int .i64 8]) ∧ w' = w := by
  by_cases na : N a
  · have nb : ¬ N b := fun h => hn ⟨na, h⟩
    clear hn
    go_enter Tryz.func118, Tryz.ntmps118
    go_wp2_with fail
    refine (tnum_yes _ ha na _).mono ?_; rintro e w' ⟨rfl, rfl⟩
    go_wp2_with fail
    refine (tnum_no _ hb nb _).mono ?_; rintro e w' ⟨rfl, rfl⟩
    go_wp2
    go_ret3
    exact ⟨rfl, rfl⟩
  · clear hn
    go_enter Tryz.func118, Tryz.ntmps118
    go_wp2_with fail
    refine (tnum_no _ ha na _).mono ?_; rintro e w' ⟨rfl, rfl⟩
    go_wp2
    go_ret3
    exact ⟨rfl, rfl⟩

set_option maxHeartbeats 400000 in
theorem treckon_no (op a b : Int) (ha : U a) (hb : U b) (hn : ¬ (N a ∧ N b)) (w : World) :
    Calls Tryz.prog 106 #[.int .i64 op, .int .u64 a, .int .u64 b] w fun e w' => e = .returned (.tuple #[.int .u64 0, .int .i64 8]) ∧ w' = w := by
  go_enter Tryz.func106, Tryz.ntmps106
  go_wp2_with (go_at_call 118; refine (tpair_no _ _ ha hb hn _).mono ?_; rintro e w' ⟨rfl, rfl⟩)
  go_ret2
  exact ⟨rfl, rfl⟩

set_option maxHeartbeats 400000 in
theorem treckon_add (a b : Int) (ha : U a) (hb : U b) (na : N a) (nb : N b) (w : World) :
    Calls Tryz.prog 106 #[.int .i64 0, .int .u64 a, .int .u64 b] w fun e w' => e = .returned (.tuple #[.int .u64 (mk (nm a + nm b)), .int .i64 0]) ∧ w' = w := by
  have b1 := nm_bd a
  have b2 := nm_bd b
  go_enter Tryz.func106, Tryz.ntmps106
  go_wp2_with (first | (go_at_call 118; refine (tpair_yes _ _ ha hb na nb _).mono ?_; rintro e w' ⟨rfl, rfl⟩) | (go_at_call 105; refine (int_any _ _).mono ?_; rintro e w' ⟨rfl, rfl⟩))
  all_goals
    go_ret2
    refine ⟨ret_ii ?_ rfl, rfl⟩
    exact congrArg mk (by omega)

set_option maxHeartbeats 400000 in
theorem treckon_sub (a b : Int) (ha : U a) (hb : U b) (na : N a) (nb : N b) (w : World) :
    Calls Tryz.prog 106 #[.int .i64 1, .int .u64 a, .int .u64 b] w fun e w' => e = .returned (.tuple #[.int .u64 (mk (nm a - nm b)), .int .i64 0]) ∧ w' = w := by
  have b1 := nm_bd a
  have b2 := nm_bd b
  go_enter Tryz.func106, Tryz.ntmps106
  go_wp2_with (first | (go_at_call 118; refine (tpair_yes _ _ ha hb na nb _).mono ?_; rintro e w' ⟨rfl, rfl⟩) | (go_at_call 105; refine (int_any _ _).mono ?_; rintro e w' ⟨rfl, rfl⟩))
  all_goals
    go_ret2
    refine ⟨ret_ii ?_ rfl, rfl⟩
    exact congrArg mk (by omega)

set_option maxHeartbeats 400000 in
theorem treckon_neg (a b : Int) (ha : U a) (hb : U b) (na : N a) (nb : N b) (w : World) :
    Calls Tryz.prog 106 #[.int .i64 2, .int .u64 a, .int .u64 b] w fun e w' => e = .returned (.tuple #[.int .u64 (mk (- nm a)), .int .i64 0]) ∧ w' = w := by
  have b1 := nm_bd a
  have b2 := nm_bd b
  go_enter Tryz.func106, Tryz.ntmps106
  go_wp2_with (first | (go_at_call 118; refine (tpair_yes _ _ ha hb na nb _).mono ?_; rintro e w' ⟨rfl, rfl⟩) | (go_at_call 105; refine (int_any _ _).mono ?_; rintro e w' ⟨rfl, rfl⟩))
  all_goals
    go_ret2
    refine ⟨ret_ii ?_ rfl, rfl⟩
    exact congrArg mk (by omega)

set_option maxHeartbeats 400000 in
theorem treckon_mul (a b : Int) (ha : U a) (hb : U b) (na : N a) (nb : N b) (w : World) :
    Calls Tryz.prog 106 #[.int .i64 3, .int .u64 a, .int .u64 b] w fun e w' => e = .returned (.tuple #[.int .u64 (mk (nm a * nm b)), .int .i64 0]) ∧ w' = w := by
  have b1 := nm_bd a
  have b2 := nm_bd b
  go_enter Tryz.func106, Tryz.ntmps106
  go_wp2_with (first | (go_at_call 118; refine (tpair_yes _ _ ha hb na nb _).mono ?_; rintro e w' ⟨rfl, rfl⟩) | (go_at_call 105; refine (int_any _ _).mono ?_; rintro e w' ⟨rfl, rfl⟩))
  all_goals
    go_ret2
    refine ⟨ret_ii ?_ rfl, rfl⟩
    first | exact mk_wrap64 _ | (rw [show nm b = 0 by assumption, Int.mul_zero])

set_option maxHeartbeats 400000 in
theorem treckon_div (a b : Int) (ha : U a) (hb : U b) (na : N a) (nb : N b) (hz : ¬ nm b = 0) (w : World) :
    Calls Tryz.prog 106 #[.int .i64 4, .int .u64 a, .int .u64 b] w fun e w' => e = .returned (.tuple #[.int .u64 (mk (quo (nm a) (nm b))), .int .i64 0]) ∧ w' = w := by
  have b1 := nm_bd a
  have b2 := nm_bd b
  have hzb : (nm b == 0) = false := by simpa using hz
  go_enter Tryz.func106, Tryz.ntmps106
  go_wp2_with (first | (go_at_call 118; refine (tpair_yes _ _ ha hb na nb _).mono ?_; rintro e w' ⟨rfl, rfl⟩) | (go_at_call 105; refine (int_any _ _).mono ?_; rintro e w' ⟨rfl, rfl⟩))
  all_goals
    go_ret2
    refine ⟨ret_ii ?_ rfl, rfl⟩
    first | exact mk_wrap64 _ | rfl

set_option maxHeartbeats 400000 in
theorem treckon_mod (a b : Int) (ha : U a) (hb : U b) (na : N a) (nb : N b) (hz : ¬ nm b = 0) (w : World) :
    Calls Tryz.prog 106 #[.int .i64 5, .int .u64 a, .int .u64 b] w fun e w' => e = .returned (.tuple #[.int .u64 (mk (rest (nm a) (nm b))), .int .i64 0]) ∧ w' = w := by
  have b1 := nm_bd a
  have b2 := nm_bd b
  have hzb : (nm b == 0) = false := by simpa using hz
  go_enter Tryz.func106, Tryz.ntmps106
  go_wp2_with (first | (go_at_call 118; refine (tpair_yes _ _ ha hb na nb _).mono ?_; rintro e w' ⟨rfl, rfl⟩) | (go_at_call 105; refine (int_any _ _).mono ?_; rintro e w' ⟨rfl, rfl⟩))
  all_goals
    go_ret2
    refine ⟨ret_ii ?_ rfl, rfl⟩
    first | exact mk_wrap64 _ | rfl

set_option maxHeartbeats 400000 in
theorem treckon_zero4 (a b : Int) (ha : U a) (hb : U b) (na : N a) (nb : N b) (hz : (nm b == 0) = true) (w : World) :
    Calls Tryz.prog 106 #[.int .i64 4, .int .u64 a, .int .u64 b] w fun e w' => e = .returned (.tuple #[.int .u64 0, .int .i64 10]) ∧ w' = w := by
  go_enter Tryz.func106, Tryz.ntmps106
  go_wp2_with (go_at_call 118; refine (tpair_yes _ _ ha hb na nb _).mono ?_; rintro e w' ⟨rfl, rfl⟩)
  go_ret2
  exact ⟨rfl, rfl⟩

set_option maxHeartbeats 400000 in
theorem treckon_zero5 (a b : Int) (ha : U a) (hb : U b) (na : N a) (nb : N b) (hz : (nm b == 0) = true) (w : World) :
    Calls Tryz.prog 106 #[.int .i64 5, .int .u64 a, .int .u64 b] w fun e w' => e = .returned (.tuple #[.int .u64 0, .int .i64 10]) ∧ w' = w := by
  go_enter Tryz.func106, Tryz.ntmps106
  go_wp2_with (go_at_call 118; refine (tpair_yes _ _ ha hb na nb _).mono ?_; rintro e w' ⟨rfl, rfl⟩)
  go_ret2
  exact ⟨rfl, rfl⟩

set_option maxHeartbeats 400000 in
theorem tless_no (a b : Int) (ha : U a) (hb : U b) (hn : ¬ (N a ∧ N b)) (w : World) :
    Calls Tryz.prog 82 #[.int .u64 a, .int .u64 b] w fun e w' => e = .returned (.tuple #[.bool false, .int .i64 8]) ∧ w' = w := by
  go_enter Tryz.func82, Tryz.ntmps82
  go_wp2_with (go_at_call 118; refine (tpair_no _ _ ha hb hn _).mono ?_; rintro e w' ⟨rfl, rfl⟩)
  go_ret2
  exact ⟨rfl, rfl⟩

set_option maxHeartbeats 400000 in
theorem tless_yes (a b : Int) (ha : U a) (hb : U b) (na : N a) (nb : N b) (w : World) :
    Calls Tryz.prog 82 #[.int .u64 a, .int .u64 b] w fun e w' => e = .returned (.tuple #[.bool (ltB a b), .int .i64 0]) ∧ w' = w := by
  go_enter Tryz.func82, Tryz.ntmps82
  go_wp2_with (go_at_call 118; refine (tpair_yes _ _ ha hb na nb _).mono ?_; rintro e w' ⟨rfl, rfl⟩)
  go_ret2
  exact ⟨rfl, rfl⟩

def er (a b : Int) : Int := if a % 4 = 0 ∧ b % 4 = 0 then 0 else 8

def erD (a b : Int) : Int := if a % 4 = 0 ∧ b % 4 = 0 then (if nm b = 0 then 10 else 0) else 8

def addV (a b : Int) : Int := if a % 4 = 0 ∧ b % 4 = 0 then mk (nm a + nm b) else 0

def subV (a b : Int) : Int := if a % 4 = 0 ∧ b % 4 = 0 then mk (nm a - nm b) else 0

def mulV (a b : Int) : Int := if a % 4 = 0 ∧ b % 4 = 0 then mk (nm a * nm b) else 0

def divV (a b : Int) : Int := if a % 4 = 0 ∧ b % 4 = 0 then (if nm b = 0 then 0 else mk (quo (nm a) (nm b))) else 0

def modV (a b : Int) : Int := if a % 4 = 0 ∧ b % 4 = 0 then (if nm b = 0 then 0 else mk (rest (nm a) (nm b))) else 0

theorem ter_yes {a b : Int} (na : N a) (nb : N b) : er a b = 0 := if_pos ⟨na, nb⟩

theorem ter_no {a b : Int} (h : ¬ (N a ∧ N b)) : er a b = 8 := if_neg h

theorem ter_bd (a b : Int) : 0 ≤ er a b ∧ er a b ≤ 1000 := by unfold er; split <;> omega

theorem terD_bd (a b : Int) : 0 ≤ erD a b ∧ erD a b ≤ 1000 := by
  unfold erD
  split
  · split <;> omega
  · omega

set_option maxHeartbeats 400000 in
theorem tadd_yes (a b : Int) (ha : U a) (hb : U b) (na : N a) (nb : N b) (w : World) :
    Calls Tryz.prog 77 #[.int .u64 a, .int .u64 b] w fun e w' => e = .returned (.tuple #[.int .u64 (mk (nm a + nm b)), .int .i64 0]) ∧ w' = w := by
  go_enter Tryz.func77, Tryz.ntmps77
  go_wp2_with (go_at_call 106; refine (treckon_add _ _ ha hb na nb _).mono ?_; rintro e w' ⟨rfl, rfl⟩)
  go_ret2
  exact ⟨rfl, rfl⟩

set_option maxHeartbeats 400000 in
theorem tadd_no (a b : Int) (ha : U a) (hb : U b) (hn : ¬ (N a ∧ N b)) (w : World) :
    Calls Tryz.prog 77 #[.int .u64 a, .int .u64 b] w fun e w' => e = .returned (.tuple #[.int .u64 0, .int .i64 8]) ∧ w' = w := by
  go_enter Tryz.func77, Tryz.ntmps77
  go_wp2_with (go_at_call 106; refine (treckon_no _ _ _ ha hb hn _).mono ?_; rintro e w' ⟨rfl, rfl⟩)
  go_ret2
  exact ⟨rfl, rfl⟩

theorem tadd_any (a b : Int) (ha : U a) (hb : U b) (w : World) :
    Calls Tryz.prog 77 #[.int .u64 a, .int .u64 b] w fun e w' => e = .returned (.tuple #[.int .u64 (addV a b), .int .i64 (er a b)]) ∧ w' = w := by
  by_cases h : N a ∧ N b
  · rw [show addV a b = mk (nm a + nm b) from if_pos h, show er a b = 0 from if_pos h]; exact tadd_yes a b ha hb h.1 h.2 w
  · rw [show addV a b = 0 from if_neg h, show er a b = 8 from if_neg h]; exact tadd_no a b ha hb h w

set_option maxHeartbeats 400000 in
theorem tsub_yes (a b : Int) (ha : U a) (hb : U b) (na : N a) (nb : N b) (w : World) :
    Calls Tryz.prog 78 #[.int .u64 a, .int .u64 b] w fun e w' => e = .returned (.tuple #[.int .u64 (mk (nm a - nm b)), .int .i64 0]) ∧ w' = w := by
  go_enter Tryz.func78, Tryz.ntmps78
  go_wp2_with (go_at_call 106; refine (treckon_sub _ _ ha hb na nb _).mono ?_; rintro e w' ⟨rfl, rfl⟩)
  go_ret2
  exact ⟨rfl, rfl⟩

set_option maxHeartbeats 400000 in
theorem tsub_no (a b : Int) (ha : U a) (hb : U b) (hn : ¬ (N a ∧ N b)) (w : World) :
    Calls Tryz.prog 78 #[.int .u64 a, .int .u64 b] w fun e w' => e = .returned (.tuple #[.int .u64 0, .int .i64 8]) ∧ w' = w := by
  go_enter Tryz.func78, Tryz.ntmps78
  go_wp2_with (go_at_call 106; refine (treckon_no _ _ _ ha hb hn _).mono ?_; rintro e w' ⟨rfl, rfl⟩)
  go_ret2
  exact ⟨rfl, rfl⟩

theorem tsub_any (a b : Int) (ha : U a) (hb : U b) (w : World) :
    Calls Tryz.prog 78 #[.int .u64 a, .int .u64 b] w fun e w' => e = .returned (.tuple #[.int .u64 (subV a b), .int .i64 (er a b)]) ∧ w' = w := by
  by_cases h : N a ∧ N b
  · rw [show subV a b = mk (nm a - nm b) from if_pos h, show er a b = 0 from if_pos h]; exact tsub_yes a b ha hb h.1 h.2 w
  · rw [show subV a b = 0 from if_neg h, show er a b = 8 from if_neg h]; exact tsub_no a b ha hb h w

set_option maxHeartbeats 400000 in
theorem tmul_yes (a b : Int) (ha : U a) (hb : U b) (na : N a) (nb : N b) (w : World) :
    Calls Tryz.prog 79 #[.int .u64 a, .int .u64 b] w fun e w' => e = .returned (.tuple #[.int .u64 (mk (nm a * nm b)), .int .i64 0]) ∧ w' = w := by
  go_enter Tryz.func79, Tryz.ntmps79
  go_wp2_with (go_at_call 106; refine (treckon_mul _ _ ha hb na nb _).mono ?_; rintro e w' ⟨rfl, rfl⟩)
  go_ret2
  exact ⟨rfl, rfl⟩

set_option maxHeartbeats 400000 in
theorem tmul_no (a b : Int) (ha : U a) (hb : U b) (hn : ¬ (N a ∧ N b)) (w : World) :
    Calls Tryz.prog 79 #[.int .u64 a, .int .u64 b] w fun e w' => e = .returned (.tuple #[.int .u64 0, .int .i64 8]) ∧ w' = w := by
  go_enter Tryz.func79, Tryz.ntmps79
  go_wp2_with (go_at_call 106; refine (treckon_no _ _ _ ha hb hn _).mono ?_; rintro e w' ⟨rfl, rfl⟩)
  go_ret2
  exact ⟨rfl, rfl⟩

theorem tmul_any (a b : Int) (ha : U a) (hb : U b) (w : World) :
    Calls Tryz.prog 79 #[.int .u64 a, .int .u64 b] w fun e w' => e = .returned (.tuple #[.int .u64 (mulV a b), .int .i64 (er a b)]) ∧ w' = w := by
  by_cases h : N a ∧ N b
  · rw [show mulV a b = mk (nm a * nm b) from if_pos h, show er a b = 0 from if_pos h]; exact tmul_yes a b ha hb h.1 h.2 w
  · rw [show mulV a b = 0 from if_neg h, show er a b = 8 from if_neg h]; exact tmul_no a b ha hb h w

set_option maxHeartbeats 400000 in
theorem tdiv_yes (a b : Int) (ha : U a) (hb : U b) (na : N a) (nb : N b) (hz : ¬ nm b = 0) (w : World) :
    Calls Tryz.prog 80 #[.int .u64 a, .int .u64 b] w fun e w' => e = .returned (.tuple #[.int .u64 (mk (quo (nm a) (nm b))), .int .i64 0]) ∧ w' = w := by
  go_enter Tryz.func80, Tryz.ntmps80
  go_wp2_with (go_at_call 106; refine (treckon_div _ _ ha hb na nb hz _).mono ?_; rintro e w' ⟨rfl, rfl⟩)
  go_ret2
  exact ⟨rfl, rfl⟩

set_option maxHeartbeats 400000 in
theorem tdiv_zero (a b : Int) (ha : U a) (hb : U b) (na : N a) (nb : N b) (hz : (nm b == 0) = true) (w : World) :
    Calls Tryz.prog 80 #[.int .u64 a, .int .u64 b] w fun e w' => e = .returned (.tuple #[.int .u64 0, .int .i64 10]) ∧ w' = w := by
  go_enter Tryz.func80, Tryz.ntmps80
  go_wp2_with (go_at_call 106; refine (treckon_zero4 _ _ ha hb na nb hz _).mono ?_; rintro e w' ⟨rfl, rfl⟩)
  go_ret2
  exact ⟨rfl, rfl⟩

set_option maxHeartbeats 400000 in
theorem tdiv_no (a b : Int) (ha : U a) (hb : U b) (hn : ¬ (N a ∧ N b)) (w : World) :
    Calls Tryz.prog 80 #[.int .u64 a, .int .u64 b] w fun e w' => e = .returned (.tuple #[.int .u64 0, .int .i64 8]) ∧ w' = w := by
  go_enter Tryz.func80, Tryz.ntmps80
  go_wp2_with (go_at_call 106; refine (treckon_no _ _ _ ha hb hn _).mono ?_; rintro e w' ⟨rfl, rfl⟩)
  go_ret2
  exact ⟨rfl, rfl⟩

theorem tdiv_any (a b : Int) (ha : U a) (hb : U b) (w : World) :
    Calls Tryz.prog 80 #[.int .u64 a, .int .u64 b] w fun e w' => e = .returned (.tuple #[.int .u64 (divV a b), .int .i64 (erD a b)]) ∧ w' = w := by
  by_cases h : N a ∧ N b
  · by_cases hz : nm b = 0
    · rw [show divV a b = 0 from (if_pos h).trans (if_pos hz), show erD a b = 10 from (if_pos h).trans (if_pos hz)]; exact tdiv_zero a b ha hb h.1 h.2 (by simpa using hz) w
    · rw [show divV a b = mk (quo (nm a) (nm b)) from (if_pos h).trans (if_neg hz), show erD a b = 0 from (if_pos h).trans (if_neg hz)]; exact tdiv_yes a b ha hb h.1 h.2 hz w
  · rw [show divV a b = 0 from if_neg h, show erD a b = 8 from if_neg h]; exact tdiv_no a b ha hb h w

set_option maxHeartbeats 400000 in
theorem tmod_yes (a b : Int) (ha : U a) (hb : U b) (na : N a) (nb : N b) (hz : ¬ nm b = 0) (w : World) :
    Calls Tryz.prog 81 #[.int .u64 a, .int .u64 b] w fun e w' => e = .returned (.tuple #[.int .u64 (mk (rest (nm a) (nm b))), .int .i64 0]) ∧ w' = w := by
  go_enter Tryz.func81, Tryz.ntmps81
  go_wp2_with (go_at_call 106; refine (treckon_mod _ _ ha hb na nb hz _).mono ?_; rintro e w' ⟨rfl, rfl⟩)
  go_ret2
  exact ⟨rfl, rfl⟩

set_option maxHeartbeats 400000 in
theorem tmod_zero (a b : Int) (ha : U a) (hb : U b) (na : N a) (nb : N b) (hz : (nm b == 0) = true) (w : World) :
    Calls Tryz.prog 81 #[.int .u64 a, .int .u64 b] w fun e w' => e = .returned (.tuple #[.int .u64 0, .int .i64 10]) ∧ w' = w := by
  go_enter Tryz.func81, Tryz.ntmps81
  go_wp2_with (go_at_call 106; refine (treckon_zero5 _ _ ha hb na nb hz _).mono ?_; rintro e w' ⟨rfl, rfl⟩)
  go_ret2
  exact ⟨rfl, rfl⟩

set_option maxHeartbeats 400000 in
theorem tmod_no (a b : Int) (ha : U a) (hb : U b) (hn : ¬ (N a ∧ N b)) (w : World) :
    Calls Tryz.prog 81 #[.int .u64 a, .int .u64 b] w fun e w' => e = .returned (.tuple #[.int .u64 0, .int .i64 8]) ∧ w' = w := by
  go_enter Tryz.func81, Tryz.ntmps81
  go_wp2_with (go_at_call 106; refine (treckon_no _ _ _ ha hb hn _).mono ?_; rintro e w' ⟨rfl, rfl⟩)
  go_ret2
  exact ⟨rfl, rfl⟩

theorem tmod_any (a b : Int) (ha : U a) (hb : U b) (w : World) :
    Calls Tryz.prog 81 #[.int .u64 a, .int .u64 b] w fun e w' => e = .returned (.tuple #[.int .u64 (modV a b), .int .i64 (erD a b)]) ∧ w' = w := by
  by_cases h : N a ∧ N b
  · by_cases hz : nm b = 0
    · rw [show modV a b = 0 from (if_pos h).trans (if_pos hz), show erD a b = 10 from (if_pos h).trans (if_pos hz)]; exact tmod_zero a b ha hb h.1 h.2 (by simpa using hz) w
    · rw [show modV a b = mk (rest (nm a) (nm b)) from (if_pos h).trans (if_neg hz), show erD a b = 0 from (if_pos h).trans (if_neg hz)]; exact tmod_yes a b ha hb h.1 h.2 hz w
  · rw [show modV a b = 0 from if_neg h, show erD a b = 8 from if_neg h]; exact tmod_no a b ha hb h w

def negV (a : Int) : Int := if a % 4 = 0 then mk (- nm a) else 0

def erN (a : Int) : Int := if a % 4 = 0 then 0 else 8

set_option maxHeartbeats 400000 in
theorem tneg_yes (a : Int) (ha : U a) (na : N a) (w : World) :
    Calls Tryz.prog 53 #[.int .u64 a] w fun e w' => e = .returned (.tuple #[.int .u64 (mk (- nm a)), .int .i64 0]) ∧ w' = w := by
  go_enter Tryz.func53, Tryz.ntmps53
  go_wp2_with (go_at_call 106; refine (treckon_neg _ _ ha ha na na _).mono ?_; rintro e w' ⟨rfl, rfl⟩)
  go_ret2
  exact ⟨rfl, rfl⟩

set_option maxHeartbeats 400000 in
theorem tneg_no (a : Int) (ha : U a) (na : ¬ N a) (w : World) :
    Calls Tryz.prog 53 #[.int .u64 a] w fun e w' => e = .returned (.tuple #[.int .u64 0, .int .i64 8]) ∧ w' = w := by
  have hn : ¬ (N a ∧ N a) := fun h => na h.1
  go_enter Tryz.func53, Tryz.ntmps53
  go_wp2_with (go_at_call 106; refine (treckon_no _ _ _ ha ha hn _).mono ?_; rintro e w' ⟨rfl, rfl⟩)
  go_ret2
  exact ⟨rfl, rfl⟩

theorem tneg_any (a : Int) (ha : U a) (w : World) :
    Calls Tryz.prog 53 #[.int .u64 a] w fun e w' => e = .returned (.tuple #[.int .u64 (negV a), .int .i64 (erN a)]) ∧ w' = w := by
  by_cases h : N a
  · rw [show negV a = mk (- nm a) from if_pos h, show erN a = 0 from if_pos h]; exact tneg_yes a ha h w
  · rw [show negV a = 0 from if_neg h, show erN a = 8 from if_neg h]; exact tneg_no a ha h w

theorem terN_bd (a : Int) : 0 ≤ erN a ∧ erN a ≤ 1000 := by unfold erN; split <;> omega

def lessV (a b : Int) : Bool := if a % 4 = 0 ∧ b % 4 = 0 then ltB a b else false

theorem tless_any (a b : Int) (ha : U a) (hb : U b) (w : World) :
    Calls Tryz.prog 82 #[.int .u64 a, .int .u64 b] w fun e w' => e = .returned (.tuple #[.bool (lessV a b), .int .i64 (er a b)]) ∧ w' = w := by
  by_cases h : N a ∧ N b
  · rw [show lessV a b = ltB a b from if_pos h, show er a b = 0 from if_pos h]; exact tless_yes a b ha hb h.1 h.2 w
  · rw [show lessV a b = false from if_neg h, show er a b = 8 from if_neg h]; exact tless_no a b ha hb h w







theorem terI_bd (i : Int) : 0 ≤ erI i ∧ erI i ≤ 1000 := by unfold erI; split <;> omega
/-! the page's examples -/

set_option maxHeartbeats 400000 in
theorem tbool_any (b : Bool) (w : World) :
    Calls Tryz.prog 13 #[.bool b] w fun e w' => e = .returned (.int .u64 (bv b)) ∧ w' = w := by
  cases b
  all_goals
    go_enter Tryz.func13, Tryz.ntmps13
    go_wp2
    go_ret
    exact ⟨rfl, rfl⟩

end Go.Proofs.YtjcoifdfemejkaaGreatDoor

