/- The exported calls' contracts (sums, differences, products, negatives, quotients, what is left, references, primitives) and that the page's examples hold: of any words, the world stays as it is. -/
import Derived.Test.YtfkbodofdpgakabW2
namespace Go.Proofs.Ytfkbodofdpgakab
open Go.RowKit
def er (a b : Int) : Int := if a % 4 = 0 ∧ b % 4 = 0 then 0 else 8
def erD (a b : Int) : Int := if a % 4 = 0 ∧ b % 4 = 0 then (if nm b = 0 then 10 else 0) else 8
def addV (a b : Int) : Int := if a % 4 = 0 ∧ b % 4 = 0 then mk (nm a + nm b) else 0
def subV (a b : Int) : Int := if a % 4 = 0 ∧ b % 4 = 0 then mk (nm a - nm b) else 0
def mulV (a b : Int) : Int := if a % 4 = 0 ∧ b % 4 = 0 then mk (nm a * nm b) else 0
def divV (a b : Int) : Int := if a % 4 = 0 ∧ b % 4 = 0 then (if nm b = 0 then 0 else mk (quo (nm a) (nm b))) else 0
def modV (a b : Int) : Int := if a % 4 = 0 ∧ b % 4 = 0 then (if nm b = 0 then 0 else mk (rest (nm a) (nm b))) else 0
theorem er_yes {a b : Int} (na : N a) (nb : N b) : er a b = 0 := if_pos ⟨na, nb⟩
theorem er_no {a b : Int} (h : ¬ (N a ∧ N b)) : er a b = 8 := if_neg h
theorem er_bd (a b : Int) : 0 ≤ er a b ∧ er a b ≤ 1000 := by unfold er; split <;> omega
theorem erD_bd (a b : Int) : 0 ≤ erD a b ∧ erD a b ≤ 1000 := by
  unfold erD
  split
  · split <;> omega
  · omega
set_option maxHeartbeats 400000 in
theorem add_yes (a b : Int) (ha : U a) (hb : U b) (na : N a) (nb : N b) (w : World) :
    Calls Try.prog 9 #[.int .u64 a, .int .u64 b] w fun e w' => e = .returned (.tuple #[.int .u64 (mk (nm a + nm b)), .int .i64 0]) ∧ w' = w := by
  go_enter Try.func9, Try.ntmps9
  go_wp2_with (go_at_call 23; refine (reckon_add _ _ ha hb na nb _).mono ?_; rintro e w' ⟨rfl, rfl⟩)
  go_ret2
  exact ⟨rfl, rfl⟩
set_option maxHeartbeats 400000 in
theorem add_no (a b : Int) (ha : U a) (hb : U b) (hn : ¬ (N a ∧ N b)) (w : World) :
    Calls Try.prog 9 #[.int .u64 a, .int .u64 b] w fun e w' => e = .returned (.tuple #[.int .u64 0, .int .i64 8]) ∧ w' = w := by
  go_enter Try.func9, Try.ntmps9
  go_wp2_with (go_at_call 23; refine (reckon_no _ _ _ ha hb hn _).mono ?_; rintro e w' ⟨rfl, rfl⟩)
  go_ret2
  exact ⟨rfl, rfl⟩
theorem add_any (a b : Int) (ha : U a) (hb : U b) (w : World) :
    Calls Try.prog 9 #[.int .u64 a, .int .u64 b] w fun e w' => e = .returned (.tuple #[.int .u64 (addV a b), .int .i64 (er a b)]) ∧ w' = w := by
  by_cases h : N a ∧ N b
  · rw [show addV a b = mk (nm a + nm b) from if_pos h, show er a b = 0 from if_pos h]; exact add_yes a b ha hb h.1 h.2 w
  · rw [show addV a b = 0 from if_neg h, show er a b = 8 from if_neg h]; exact add_no a b ha hb h w
set_option maxHeartbeats 400000 in
theorem sub_yes (a b : Int) (ha : U a) (hb : U b) (na : N a) (nb : N b) (w : World) :
    Calls Try.prog 11 #[.int .u64 a, .int .u64 b] w fun e w' => e = .returned (.tuple #[.int .u64 (mk (nm a - nm b)), .int .i64 0]) ∧ w' = w := by
  go_enter Try.func11, Try.ntmps11
  go_wp2_with (go_at_call 23; refine (reckon_sub _ _ ha hb na nb _).mono ?_; rintro e w' ⟨rfl, rfl⟩)
  go_ret2
  exact ⟨rfl, rfl⟩
set_option maxHeartbeats 400000 in
theorem sub_no (a b : Int) (ha : U a) (hb : U b) (hn : ¬ (N a ∧ N b)) (w : World) :
    Calls Try.prog 11 #[.int .u64 a, .int .u64 b] w fun e w' => e = .returned (.tuple #[.int .u64 0, .int .i64 8]) ∧ w' = w := by
  go_enter Try.func11, Try.ntmps11
  go_wp2_with (go_at_call 23; refine (reckon_no _ _ _ ha hb hn _).mono ?_; rintro e w' ⟨rfl, rfl⟩)
  go_ret2
  exact ⟨rfl, rfl⟩
theorem sub_any (a b : Int) (ha : U a) (hb : U b) (w : World) :
    Calls Try.prog 11 #[.int .u64 a, .int .u64 b] w fun e w' => e = .returned (.tuple #[.int .u64 (subV a b), .int .i64 (er a b)]) ∧ w' = w := by
  by_cases h : N a ∧ N b
  · rw [show subV a b = mk (nm a - nm b) from if_pos h, show er a b = 0 from if_pos h]; exact sub_yes a b ha hb h.1 h.2 w
  · rw [show subV a b = 0 from if_neg h, show er a b = 8 from if_neg h]; exact sub_no a b ha hb h w
set_option maxHeartbeats 400000 in
theorem mul_yes (a b : Int) (ha : U a) (hb : U b) (na : N a) (nb : N b) (w : World) :
    Calls Try.prog 10 #[.int .u64 a, .int .u64 b] w fun e w' => e = .returned (.tuple #[.int .u64 (mk (nm a * nm b)), .int .i64 0]) ∧ w' = w := by
  go_enter Try.func10, Try.ntmps10
  go_wp2_with (go_at_call 23; refine (reckon_mul _ _ ha hb na nb _).mono ?_; rintro e w' ⟨rfl, rfl⟩)
  go_ret2
  exact ⟨rfl, rfl⟩
set_option maxHeartbeats 400000 in
theorem mul_no (a b : Int) (ha : U a) (hb : U b) (hn : ¬ (N a ∧ N b)) (w : World) :
    Calls Try.prog 10 #[.int .u64 a, .int .u64 b] w fun e w' => e = .returned (.tuple #[.int .u64 0, .int .i64 8]) ∧ w' = w := by
  go_enter Try.func10, Try.ntmps10
  go_wp2_with (go_at_call 23; refine (reckon_no _ _ _ ha hb hn _).mono ?_; rintro e w' ⟨rfl, rfl⟩)
  go_ret2
  exact ⟨rfl, rfl⟩
theorem mul_any (a b : Int) (ha : U a) (hb : U b) (w : World) :
    Calls Try.prog 10 #[.int .u64 a, .int .u64 b] w fun e w' => e = .returned (.tuple #[.int .u64 (mulV a b), .int .i64 (er a b)]) ∧ w' = w := by
  by_cases h : N a ∧ N b
  · rw [show mulV a b = mk (nm a * nm b) from if_pos h, show er a b = 0 from if_pos h]; exact mul_yes a b ha hb h.1 h.2 w
  · rw [show mulV a b = 0 from if_neg h, show er a b = 8 from if_neg h]; exact mul_no a b ha hb h w
set_option maxHeartbeats 400000 in
theorem div_yes (a b : Int) (ha : U a) (hb : U b) (na : N a) (nb : N b) (hz : ¬ nm b = 0) (w : World) :
    Calls Try.prog 14 #[.int .u64 a, .int .u64 b] w fun e w' => e = .returned (.tuple #[.int .u64 (mk (quo (nm a) (nm b))), .int .i64 0]) ∧ w' = w := by
  go_enter Try.func14, Try.ntmps14
  go_wp2_with (go_at_call 23; refine (reckon_div _ _ ha hb na nb hz _).mono ?_; rintro e w' ⟨rfl, rfl⟩)
  go_ret2
  exact ⟨rfl, rfl⟩
set_option maxHeartbeats 400000 in
theorem div_zero (a b : Int) (ha : U a) (hb : U b) (na : N a) (nb : N b) (hz : (nm b == 0) = true) (w : World) :
    Calls Try.prog 14 #[.int .u64 a, .int .u64 b] w fun e w' => e = .returned (.tuple #[.int .u64 0, .int .i64 10]) ∧ w' = w := by
  go_enter Try.func14, Try.ntmps14
  go_wp2_with (go_at_call 23; refine (reckon_zero4 _ _ ha hb na nb hz _).mono ?_; rintro e w' ⟨rfl, rfl⟩)
  go_ret2
  exact ⟨rfl, rfl⟩
set_option maxHeartbeats 400000 in
theorem div_no (a b : Int) (ha : U a) (hb : U b) (hn : ¬ (N a ∧ N b)) (w : World) :
    Calls Try.prog 14 #[.int .u64 a, .int .u64 b] w fun e w' => e = .returned (.tuple #[.int .u64 0, .int .i64 8]) ∧ w' = w := by
  go_enter Try.func14, Try.ntmps14
  go_wp2_with (go_at_call 23; refine (reckon_no _ _ _ ha hb hn _).mono ?_; rintro e w' ⟨rfl, rfl⟩)
  go_ret2
  exact ⟨rfl, rfl⟩
theorem div_any (a b : Int) (ha : U a) (hb : U b) (w : World) :
    Calls Try.prog 14 #[.int .u64 a, .int .u64 b] w fun e w' => e = .returned (.tuple #[.int .u64 (divV a b), .int .i64 (erD a b)]) ∧ w' = w := by
  by_cases h : N a ∧ N b
  · by_cases hz : nm b = 0
    · rw [show divV a b = 0 from (if_pos h).trans (if_pos hz), show erD a b = 10 from (if_pos h).trans (if_pos hz)]; exact div_zero a b ha hb h.1 h.2 (by simpa using hz) w
    · rw [show divV a b = mk (quo (nm a) (nm b)) from (if_pos h).trans (if_neg hz), show erD a b = 0 from (if_pos h).trans (if_neg hz)]; exact div_yes a b ha hb h.1 h.2 hz w
  · rw [show divV a b = 0 from if_neg h, show erD a b = 8 from if_neg h]; exact div_no a b ha hb h w
set_option maxHeartbeats 400000 in
theorem mod_yes (a b : Int) (ha : U a) (hb : U b) (na : N a) (nb : N b) (hz : ¬ nm b = 0) (w : World) :
    Calls Try.prog 15 #[.int .u64 a, .int .u64 b] w fun e w' => e = .returned (.tuple #[.int .u64 (mk (rest (nm a) (nm b))), .int .i64 0]) ∧ w' = w := by
  go_enter Try.func15, Try.ntmps15
  go_wp2_with (go_at_call 23; refine (reckon_mod _ _ ha hb na nb hz _).mono ?_; rintro e w' ⟨rfl, rfl⟩)
  go_ret2
  exact ⟨rfl, rfl⟩
set_option maxHeartbeats 400000 in
theorem mod_zero (a b : Int) (ha : U a) (hb : U b) (na : N a) (nb : N b) (hz : (nm b == 0) = true) (w : World) :
    Calls Try.prog 15 #[.int .u64 a, .int .u64 b] w fun e w' => e = .returned (.tuple #[.int .u64 0, .int .i64 10]) ∧ w' = w := by
  go_enter Try.func15, Try.ntmps15
  go_wp2_with (go_at_call 23; refine (reckon_zero5 _ _ ha hb na nb hz _).mono ?_; rintro e w' ⟨rfl, rfl⟩)
  go_ret2
  exact ⟨rfl, rfl⟩
set_option maxHeartbeats 400000 in
theorem mod_no (a b : Int) (ha : U a) (hb : U b) (hn : ¬ (N a ∧ N b)) (w : World) :
    Calls Try.prog 15 #[.int .u64 a, .int .u64 b] w fun e w' => e = .returned (.tuple #[.int .u64 0, .int .i64 8]) ∧ w' = w := by
  go_enter Try.func15, Try.ntmps15
  go_wp2_with (go_at_call 23; refine (reckon_no _ _ _ ha hb hn _).mono ?_; rintro e w' ⟨rfl, rfl⟩)
  go_ret2
  exact ⟨rfl, rfl⟩
theorem mod_any (a b : Int) (ha : U a) (hb : U b) (w : World) :
    Calls Try.prog 15 #[.int .u64 a, .int .u64 b] w fun e w' => e = .returned (.tuple #[.int .u64 (modV a b), .int .i64 (erD a b)]) ∧ w' = w := by
  by_cases h : N a ∧ N b
  · by_cases hz : nm b = 0
    · rw [show modV a b = 0 from (if_pos h).trans (if_pos hz), show erD a b = 10 from (if_pos h).trans (if_pos hz)]; exact mod_zero a b ha hb h.1 h.2 (by simpa using hz) w
    · rw [show modV a b = mk (rest (nm a) (nm b)) from (if_pos h).trans (if_neg hz), show erD a b = 0 from (if_pos h).trans (if_neg hz)]; exact mod_yes a b ha hb h.1 h.2 hz w
  · rw [show modV a b = 0 from if_neg h, show erD a b = 8 from if_neg h]; exact mod_no a b ha hb h w
def negV (a : Int) : Int := if a % 4 = 0 then mk (- nm a) else 0
def erN (a : Int) : Int := if a % 4 = 0 then 0 else 8
set_option maxHeartbeats 400000 in
theorem neg_yes (a : Int) (ha : U a) (na : N a) (w : World) :
    Calls Try.prog 12 #[.int .u64 a] w fun e w' => e = .returned (.tuple #[.int .u64 (mk (- nm a)), .int .i64 0]) ∧ w' = w := by
  go_enter Try.func12, Try.ntmps12
  go_wp2_with (go_at_call 23; refine (reckon_neg _ _ ha ha na na _).mono ?_; rintro e w' ⟨rfl, rfl⟩)
  go_ret2
  exact ⟨rfl, rfl⟩
set_option maxHeartbeats 400000 in
theorem neg_no (a : Int) (ha : U a) (na : ¬ N a) (w : World) :
    Calls Try.prog 12 #[.int .u64 a] w fun e w' => e = .returned (.tuple #[.int .u64 0, .int .i64 8]) ∧ w' = w := by
  have hn : ¬ (N a ∧ N a) := fun h => na h.1
  go_enter Try.func12, Try.ntmps12
  go_wp2_with (go_at_call 23; refine (reckon_no _ _ _ ha ha hn _).mono ?_; rintro e w' ⟨rfl, rfl⟩)
  go_ret2
  exact ⟨rfl, rfl⟩
theorem neg_any (a : Int) (ha : U a) (w : World) :
    Calls Try.prog 12 #[.int .u64 a] w fun e w' => e = .returned (.tuple #[.int .u64 (negV a), .int .i64 (erN a)]) ∧ w' = w := by
  by_cases h : N a
  · rw [show negV a = mk (- nm a) from if_pos h, show erN a = 0 from if_pos h]; exact neg_yes a ha h w
  · rw [show negV a = 0 from if_neg h, show erN a = 8 from if_neg h]; exact neg_no a ha h w
theorem erN_bd (a : Int) : 0 ≤ erN a ∧ erN a ≤ 1000 := by unfold erN; split <;> omega
def lessV (a b : Int) : Bool := if a % 4 = 0 ∧ b % 4 = 0 then ltB a b else false
theorem less_any (a b : Int) (ha : U a) (hb : U b) (w : World) :
    Calls Try.prog 19 #[.int .u64 a, .int .u64 b] w fun e w' => e = .returned (.tuple #[.bool (lessV a b), .int .i64 (er a b)]) ∧ w' = w := by
  by_cases h : N a ∧ N b
  · rw [show lessV a b = ltB a b from if_pos h, show er a b = 0 from if_pos h]; exact less_yes a b ha hb h.1 h.2 w
  · rw [show lessV a b = false from if_neg h, show er a b = 8 from if_neg h]; exact less_no a b ha hb h w
set_option maxHeartbeats 400000 in
theorem ref_yes (i : Int) (h0 : 0 ≤ i) (h1 : i ≤ 2147483647) (w : World) :
    Calls Try.prog 20 #[.int .i64 i] w fun e w' => e = .returned (.tuple #[.int .u64 (4 * i + 2), .int .i64 0]) ∧ w' = w := by
  go_enter Try.func20, Try.ntmps20
  go_wp2_with (go_at_call 25; refine (indexed_yes _ _ h0 h1 (by decide) (by decide) _).mono ?_; rintro e w' ⟨rfl, rfl⟩)
  go_ret2
  exact ⟨rfl, rfl⟩
set_option maxHeartbeats 400000 in
theorem ref_no (i : Int) (h : i < 0 ∨ 2147483647 < i) (w : World) :
    Calls Try.prog 20 #[.int .i64 i] w fun e w' => e = .returned (.tuple #[.int .u64 0, .int .i64 1]) ∧ w' = w := by
  go_enter Try.func20, Try.ntmps20
  go_wp2_with (go_at_call 25; refine (indexed_no _ _ h _).mono ?_; rintro e w' ⟨rfl, rfl⟩)
  go_ret2
  exact ⟨rfl, rfl⟩
theorem ref_any (i : Int) (w : World) :
    Calls Try.prog 20 #[.int .i64 i] w fun e w' => e = .returned (.tuple #[.int .u64 (refV i), .int .i64 (erI i)]) ∧ w' = w := by
  by_cases h : 0 ≤ i ∧ i ≤ 2147483647
  · rw [show refV i = 4 * i + 2 from if_pos h, show erI i = 0 from if_pos h]; exact ref_yes i h.1 h.2 w
  · rw [show refV i = 0 from if_neg h, show erI i = 1 from if_neg h]; exact ref_no i (by omega) w
set_option maxHeartbeats 400000 in
theorem prim_yes (i : Int) (h0 : 0 ≤ i) (h1 : i ≤ 2147483647) (w : World) :
    Calls Try.prog 21 #[.int .i64 i] w fun e w' => e = .returned (.tuple #[.int .u64 (4 * i + 3), .int .i64 0]) ∧ w' = w := by
  go_enter Try.func21, Try.ntmps21
  go_wp2_with (go_at_call 25; refine (indexed_yes _ _ h0 h1 (by decide) (by decide) _).mono ?_; rintro e w' ⟨rfl, rfl⟩)
  go_ret2
  exact ⟨rfl, rfl⟩
set_option maxHeartbeats 400000 in
theorem prim_no (i : Int) (h : i < 0 ∨ 2147483647 < i) (w : World) :
    Calls Try.prog 21 #[.int .i64 i] w fun e w' => e = .returned (.tuple #[.int .u64 0, .int .i64 1]) ∧ w' = w := by
  go_enter Try.func21, Try.ntmps21
  go_wp2_with (go_at_call 25; refine (indexed_no _ _ h _).mono ?_; rintro e w' ⟨rfl, rfl⟩)
  go_ret2
  exact ⟨rfl, rfl⟩
theorem prim_any (i : Int) (w : World) :
    Calls Try.prog 21 #[.int .i64 i] w fun e w' => e = .returned (.tuple #[.int .u64 (primV i), .int .i64 (erI i)]) ∧ w' = w := by
  by_cases h : 0 ≤ i ∧ i ≤ 2147483647
  · rw [show primV i = 4 * i + 3 from if_pos h, show erI i = 0 from if_pos h]; exact prim_yes i h.1 h.2 w
  · rw [show primV i = 0 from if_neg h, show erI i = 1 from if_neg h]; exact prim_no i (by omega) w
theorem erI_bd (i : Int) : 0 ≤ erI i ∧ erI i ≤ 1000 := by unfold erI; split <;> omega
/-! the page's examples -/
theorem lv_div (w : World) : Calls Try.prog 14 #[.int .u64 (mk (-7)), .int .u64 (mk 2)] w fun e w' => e = .returned (.tuple #[.int .u64 (mk (-3)), .int .i64 0]) ∧ w' = w := by
  have h := div_yes (mk (-7)) (mk 2) (mk_U _) (mk_U _) (mk_N _) (mk_N _) (by decide) w
  rw [show quo (nm (mk (-7))) (nm (mk 2)) = -3 by decide] at h
  exact h
theorem lv_mod (w : World) : Calls Try.prog 15 #[.int .u64 (mk (-7)), .int .u64 (mk 2)] w fun e w' => e = .returned (.tuple #[.int .u64 (mk (-1)), .int .i64 0]) ∧ w' = w := by
  have h := mod_yes (mk (-7)) (mk 2) (mk_U _) (mk_U _) (mk_N _) (mk_N _) (by decide) w
  rw [show rest (nm (mk (-7))) (nm (mk 2)) = -1 by decide] at h
  exact h
theorem lv_add (w : World) : Calls Try.prog 9 #[.int .u64 (mk 2305843009213693951), .int .u64 (mk 1)] w fun e w' => e = .returned (.tuple #[.int .u64 (mk (-2305843009213693952)), .int .i64 0]) ∧ w' = w := by
  have h := add_yes (mk 2305843009213693951) (mk 1) (mk_U _) (mk_U _) (mk_N _) (mk_N _) w
  rw [show mk (nm (mk 2305843009213693951) + nm (mk 1)) = mk (-2305843009213693952) by decide] at h
  exact h
theorem u13 : U 13 := by unfold U; decide
set_option maxHeartbeats 400000 in
theorem live_any (w : World) : Calls Try.prog 13 #[] w fun e w' => e = .returned (.bool true) ∧ w' = w := by
  have h5 : (mk 5 == 20) = true := by decide
  have h13 : kd 13 = 4 := by decide
  go_enter Try.func13, Try.ntmps13
  go_wp2_with (first | (go_at_call 8; refine (int_any _ _).mono ?_; rintro e w' ⟨rfl, rfl⟩) | (go_at_call 14; refine (lv_div _).mono ?_; rintro e w' ⟨rfl, rfl⟩) | (go_at_call 15; refine (lv_mod _).mono ?_; rintro e w' ⟨rfl, rfl⟩) | (go_at_call 9; refine (lv_add _).mono ?_; rintro e w' ⟨rfl, rfl⟩) | (go_at_call 17; refine (errno_any 0 (by decide) _).mono ?_; rintro e w' ⟨rfl, rfl⟩) | (go_at_call 18; refine (kind_any 13 u13 _).mono ?_; rintro e w' ⟨rfl, rfl⟩))
  go_ret
  exact ⟨rfl, rfl⟩
end Go.Proofs.Ytfkbodofdpgakab
