/- The document's reckoning's contracts: what its sums, differences, products, quotients, what is left, and its order are, of any words; the world stays as it is. -/
import Derived.Test.YtfkbodofdpgakaaRA
namespace Go.Proofs.Ytfkbodofdpgakaa
open Go.RowKit
set_option maxHeartbeats 400000 in
theorem rless_any (a b : Int) (ha : U a) (hb : U b) (w : World) :
    Calls Try.prog 35 #[.int .u64 a, .int .u64 b] w fun e w' => e = .returned (.tuple #[.bool (lessV a b), .int .i64 (er a b)]) ∧ w' = w := by
  by_cases na : a % 4 = 0
  all_goals by_cases nb : b % 4 = 0
  · have ia : isN a = true := decide_eq_true na
    have ib : isN b = true := decide_eq_true nb
    have fin : lessV a b = decide (numV a < numV b) := by simp [lessV, ltB, numV, na, nb]
    have fin' : er a b = 0 := if_pos ⟨na, nb⟩
    rw [fin, fin']; clear fin fin' na nb
    go_enter Try.func35, Try.ntmps35
    go_wp2_with (go_at_call 10; refine (rnum_any _ (by assumption) _).mono ?_; rintro e w' ⟨rfl, rfl⟩)
    go_ret2
    exact ⟨rfl, rfl⟩
  · have ia : isN a = true := decide_eq_true na
    have ib : isN b = false := decide_eq_false nb
    have fin : lessV a b = false := if_neg (fun h => nb h.2)
    have fin' : er a b = 8 := if_neg (fun h => nb h.2)
    rw [fin, fin']; clear fin fin' na nb
    go_enter Try.func35, Try.ntmps35
    go_wp2_with (go_at_call 10; refine (rnum_any _ (by assumption) _).mono ?_; rintro e w' ⟨rfl, rfl⟩)
    go_ret2
    exact ⟨rfl, rfl⟩
  all_goals
    have ia : isN a = false := decide_eq_false na
    have fin : lessV a b = false := if_neg (fun h => na h.1)
    have fin' : er a b = 8 := if_neg (fun h => na h.1)
    rw [fin, fin']; clear fin fin' na nb
    go_enter Try.func35, Try.ntmps35
    go_wp2_with (go_at_call 10; refine (rnum_any _ (by assumption) _).mono ?_; rintro e w' ⟨rfl, rfl⟩)
    go_ret2
    exact ⟨rfl, rfl⟩
theorem rdo_no (op a b : Int) (ha : U a) (hb : U b) (hn : ¬ (N a ∧ N b)) (w : World) :
    Calls Try.prog 28 #[.int .i64 op, .int .u64 a, .int .u64 b] w fun e w' => e = .returned (.tuple #[.int .u64 0, .int .i64 8]) ∧ w' = w := by
  by_cases na : a % 4 = 0
  · have ia : isN a = true := decide_eq_true na
    have ib : isN b = false := decide_eq_false (fun h => hn ⟨na, h⟩)
    clear na hn
    go_enter Try.func28, Try.ntmps28
    go_wp2_with (go_at_call 10; refine (rnum_any _ (by assumption) _).mono ?_; rintro e w' ⟨rfl, rfl⟩)
    go_ret2
    exact ⟨rfl, rfl⟩
  · have ia : isN a = false := decide_eq_false na
    clear na hn
    go_enter Try.func28, Try.ntmps28
    go_wp2_with (go_at_call 10; refine (rnum_any _ (by assumption) _).mono ?_; rintro e w' ⟨rfl, rfl⟩)
    go_ret2
    exact ⟨rfl, rfl⟩
theorem rnum_yes (v : Int) (hv : U v) (hn : N v) (w : World) :
    Calls Try.prog 10 #[.int .u64 v] w fun e w' => e = .returned (.tuple #[.int .i64 (nm v), .bool true]) ∧ w' = w := by
  have h := rnum_any v hv w
  rw [show numV v = nm v from if_pos hn, show isN v = true from decide_eq_true hn] at h
  exact h
set_option maxHeartbeats 400000 in
theorem rdo_add (a b : Int) (ha : U a) (hb : U b) (na : N a) (nb : N b) (w : World) :
    Calls Try.prog 28 #[.int .i64 0, .int .u64 a, .int .u64 b] w fun e w' => e = .returned (.tuple #[.int .u64 (mk (nm a + nm b)), .int .i64 0]) ∧ w' = w := by
  have b1 := nm_bd a
  have b2 := nm_bd b
  go_enter Try.func28, Try.ntmps28
  go_wp2_with (first | (go_at_call 10; refine (rnum_yes _ (by assumption) (by assumption) _).mono ?_; rintro e w' ⟨rfl, rfl⟩) | (go_at_call 23; refine (rint_any _ _).mono ?_; rintro e w' ⟨rfl, rfl⟩))
  go_ret2
  refine ⟨ret_ii ?_ rfl, rfl⟩
  exact congrArg mk (by omega)
set_option maxHeartbeats 400000 in
theorem rdo_sub (a b : Int) (ha : U a) (hb : U b) (na : N a) (nb : N b) (w : World) :
    Calls Try.prog 28 #[.int .i64 1, .int .u64 a, .int .u64 b] w fun e w' => e = .returned (.tuple #[.int .u64 (mk (nm a - nm b)), .int .i64 0]) ∧ w' = w := by
  have b1 := nm_bd a
  have b2 := nm_bd b
  go_enter Try.func28, Try.ntmps28
  go_wp2_with (first | (go_at_call 10; refine (rnum_yes _ (by assumption) (by assumption) _).mono ?_; rintro e w' ⟨rfl, rfl⟩) | (go_at_call 23; refine (rint_any _ _).mono ?_; rintro e w' ⟨rfl, rfl⟩))
  go_ret2
  refine ⟨ret_ii ?_ rfl, rfl⟩
  exact congrArg mk (by omega)
set_option maxHeartbeats 400000 in
theorem rdo_mul (a b : Int) (ha : U a) (hb : U b) (na : N a) (nb : N b) (w : World) :
    Calls Try.prog 28 #[.int .i64 2, .int .u64 a, .int .u64 b] w fun e w' => e = .returned (.tuple #[.int .u64 (mk (nm a * nm b)), .int .i64 0]) ∧ w' = w := by
  have b1 := nm_bd a
  have b2 := nm_bd b
  go_enter Try.func28, Try.ntmps28
  go_wp2_with (first | (go_at_call 10; refine (rnum_yes _ (by assumption) (by assumption) _).mono ?_; rintro e w' ⟨rfl, rfl⟩) | (go_at_call 23; refine (rint_any _ _).mono ?_; rintro e w' ⟨rfl, rfl⟩))
  go_ret2
  refine ⟨ret_ii ?_ rfl, rfl⟩
  exact mk_wrap64 _
theorem rest_eq (x y : Int) : mk (wrap64 (x - wrap64 (wrap64 (x.tdiv y) * y))) = mk (rest x y) := by
  have hq : ∃ k, wrap64 (x.tdiv y) = x.tdiv y + 18446744073709551616 * k := ⟨-((x.tdiv y + 9223372036854775808) / 18446744073709551616), by unfold wrap64; omega⟩
  obtain ⟨k, hk⟩ := hq
  have hr : rest x y = x - x.tdiv y * y := by unfold rest; rw [Int.tmod_def, Int.mul_comm]
  rw [mk_wrap64, hk, hr, Int.add_mul, Int.mul_assoc]
  generalize x.tdiv y * y = p
  generalize k * y = j
  unfold mk wrap64; omega
set_option maxHeartbeats 400000 in
theorem rdo_div (a b : Int) (ha : U a) (hb : U b) (na : N a) (nb : N b) (hz : ¬ nm b = 0) (w : World) :
    Calls Try.prog 28 #[.int .i64 3, .int .u64 a, .int .u64 b] w fun e w' => e = .returned (.tuple #[.int .u64 (mk (quo (nm a) (nm b))), .int .i64 0]) ∧ w' = w := by
  have b1 := nm_bd a
  have b2 := nm_bd b
  have hzb : (nm b == 0) = false := by simpa using hz
  go_enter Try.func28, Try.ntmps28
  go_wp2_with (first | (go_at_call 10; refine (rnum_yes _ (by assumption) (by assumption) _).mono ?_; rintro e w' ⟨rfl, rfl⟩) | (go_at_call 23; refine (rint_any _ _).mono ?_; rintro e w' ⟨rfl, rfl⟩))
  go_ret2
  refine ⟨ret_ii ?_ rfl, rfl⟩
  exact mk_wrap64 _
set_option maxHeartbeats 400000 in
theorem rdo_zero3 (a b : Int) (ha : U a) (hb : U b) (na : N a) (nb : N b) (hz : (nm b == 0) = true) (w : World) :
    Calls Try.prog 28 #[.int .i64 3, .int .u64 a, .int .u64 b] w fun e w' => e = .returned (.tuple #[.int .u64 0, .int .i64 10]) ∧ w' = w := by
  go_enter Try.func28, Try.ntmps28
  go_wp2_with (go_at_call 10; refine (rnum_yes _ (by assumption) (by assumption) _).mono ?_; rintro e w' ⟨rfl, rfl⟩)
  go_ret2
  exact ⟨rfl, rfl⟩
theorem rdo_div_any (a b : Int) (ha : U a) (hb : U b) (w : World) :
    Calls Try.prog 28 #[.int .i64 3, .int .u64 a, .int .u64 b] w fun e w' => e = .returned (.tuple #[.int .u64 (divV a b), .int .i64 (erD a b)]) ∧ w' = w := by
  by_cases h : N a ∧ N b
  · by_cases hz : nm b = 0
    · rw [show divV a b = 0 from (if_pos h).trans (if_pos hz), show erD a b = 10 from (if_pos h).trans (if_pos hz)]; exact rdo_zero3 a b ha hb h.1 h.2 (by simpa using hz) w
    · rw [show divV a b = mk (quo (nm a) (nm b)) from (if_pos h).trans (if_neg hz), show erD a b = 0 from (if_pos h).trans (if_neg hz)]; exact rdo_div a b ha hb h.1 h.2 hz w
  · rw [show divV a b = 0 from if_neg h, show erD a b = 8 from if_neg h]; exact rdo_no 3 a b ha hb h w
set_option maxHeartbeats 400000 in
theorem rdo_mod (a b : Int) (ha : U a) (hb : U b) (na : N a) (nb : N b) (hz : ¬ nm b = 0) (w : World) :
    Calls Try.prog 28 #[.int .i64 4, .int .u64 a, .int .u64 b] w fun e w' => e = .returned (.tuple #[.int .u64 (mk (rest (nm a) (nm b))), .int .i64 0]) ∧ w' = w := by
  have b1 := nm_bd a
  have b2 := nm_bd b
  have hzb : (nm b == 0) = false := by simpa using hz
  go_enter Try.func28, Try.ntmps28
  go_wp2_with (first | (go_at_call 10; refine (rnum_yes _ (by assumption) (by assumption) _).mono ?_; rintro e w' ⟨rfl, rfl⟩) | (go_at_call 23; refine (rint_any _ _).mono ?_; rintro e w' ⟨rfl, rfl⟩))
  go_ret2
  refine ⟨ret_ii ?_ rfl, rfl⟩
  exact rest_eq _ _
set_option maxHeartbeats 400000 in
theorem rdo_zero4 (a b : Int) (ha : U a) (hb : U b) (na : N a) (nb : N b) (hz : (nm b == 0) = true) (w : World) :
    Calls Try.prog 28 #[.int .i64 4, .int .u64 a, .int .u64 b] w fun e w' => e = .returned (.tuple #[.int .u64 0, .int .i64 10]) ∧ w' = w := by
  go_enter Try.func28, Try.ntmps28
  go_wp2_with (go_at_call 10; refine (rnum_yes _ (by assumption) (by assumption) _).mono ?_; rintro e w' ⟨rfl, rfl⟩)
  go_ret2
  exact ⟨rfl, rfl⟩
theorem rdo_mod_any (a b : Int) (ha : U a) (hb : U b) (w : World) :
    Calls Try.prog 28 #[.int .i64 4, .int .u64 a, .int .u64 b] w fun e w' => e = .returned (.tuple #[.int .u64 (modV a b), .int .i64 (erD a b)]) ∧ w' = w := by
  by_cases h : N a ∧ N b
  · by_cases hz : nm b = 0
    · rw [show modV a b = 0 from (if_pos h).trans (if_pos hz), show erD a b = 10 from (if_pos h).trans (if_pos hz)]; exact rdo_zero4 a b ha hb h.1 h.2 (by simpa using hz) w
    · rw [show modV a b = mk (rest (nm a) (nm b)) from (if_pos h).trans (if_neg hz), show erD a b = 0 from (if_pos h).trans (if_neg hz)]; exact rdo_mod a b ha hb h.1 h.2 hz w
  · rw [show modV a b = 0 from if_neg h, show erD a b = 8 from if_neg h]; exact rdo_no 4 a b ha hb h w
theorem rdo_add_any (a b : Int) (ha : U a) (hb : U b) (w : World) :
    Calls Try.prog 28 #[.int .i64 0, .int .u64 a, .int .u64 b] w fun e w' => e = .returned (.tuple #[.int .u64 (addV a b), .int .i64 (er a b)]) ∧ w' = w := by
  by_cases h : N a ∧ N b
  · rw [show addV a b = mk (nm a + nm b) from if_pos h, show er a b = 0 from if_pos h]; exact rdo_add a b ha hb h.1 h.2 w
  · rw [show addV a b = 0 from if_neg h, show er a b = 8 from if_neg h]; exact rdo_no 0 a b ha hb h w
theorem rdo_sub_any (a b : Int) (ha : U a) (hb : U b) (w : World) :
    Calls Try.prog 28 #[.int .i64 1, .int .u64 a, .int .u64 b] w fun e w' => e = .returned (.tuple #[.int .u64 (subV a b), .int .i64 (er a b)]) ∧ w' = w := by
  by_cases h : N a ∧ N b
  · rw [show subV a b = mk (nm a - nm b) from if_pos h, show er a b = 0 from if_pos h]; exact rdo_sub a b ha hb h.1 h.2 w
  · rw [show subV a b = 0 from if_neg h, show er a b = 8 from if_neg h]; exact rdo_no 1 a b ha hb h w
theorem rdo_mul_any (a b : Int) (ha : U a) (hb : U b) (w : World) :
    Calls Try.prog 28 #[.int .i64 2, .int .u64 a, .int .u64 b] w fun e w' => e = .returned (.tuple #[.int .u64 (mulV a b), .int .i64 (er a b)]) ∧ w' = w := by
  by_cases h : N a ∧ N b
  · rw [show mulV a b = mk (nm a * nm b) from if_pos h, show er a b = 0 from if_pos h]; exact rdo_mul a b ha hb h.1 h.2 w
  · rw [show mulV a b = 0 from if_neg h, show er a b = 8 from if_neg h]; exact rdo_no 2 a b ha hb h w
theorem neg_sub (a : Int) : subV 0 a = negV a := by
  unfold subV negV
  by_cases h : a % 4 = 0
  · rw [if_pos ⟨rfl, h⟩, if_pos h]; exact congrArg mk (by rw [show nm 0 = 0 by decide]; omega)
  · rw [if_neg (fun g => h g.2), if_neg h]
theorem neg_er (a : Int) : er 0 a = erN a := by
  unfold er erN
  by_cases h : a % 4 = 0
  · rw [if_pos ⟨rfl, h⟩, if_pos h]
  · rw [if_neg (fun g => h g.2), if_neg h]
theorem u0 : U 0 := by unfold U; decide
theorem rdo_neg_any (a : Int) (ha : U a) (w : World) :
    Calls Try.prog 28 #[.int .i64 1, .int .u64 0, .int .u64 a] w fun e w' => e = .returned (.tuple #[.int .u64 (negV a), .int .i64 (erN a)]) ∧ w' = w := by
  have h := rdo_sub_any 0 a u0 ha w
  rw [neg_sub, neg_er] at h
  exact h
end Go.Proofs.Ytfkbodofdpgakaa
