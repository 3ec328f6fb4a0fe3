/- The program's small functions: contracts. -/
import Derived.Test.YteeeijbjokkomaaPs
import Derived.BigQuiet
set_option linter.unusedSimpArgs false
set_option linter.unusedVariables false
namespace Go.Proofs.Yteeeijbjokkomaa
open Go Go.RowKit

set_option maxRecDepth 100000 in
set_option maxHeartbeats 1000000 in
theorem one_any (i n : Int) (w : World) : Calls Try.prog 43 #[.int .i64 i, .int .i64 n] w fun e w' => e = .returned (.bool (oneOf i n)) ∧ w' = w := by
  go_enter Try.func43, Try.ntmps43
  by_cases h1 : 0 ≤ i
  · by_cases h2 : i < n
    · rw [oneOf_yes h1 h2]
      go_wp2
      all_goals go_ret
      all_goals exact ⟨rfl, rfl⟩
    · rw [oneOf_no (fun h => h2 h.2)]
      go_wp2
      all_goals go_ret
      all_goals exact ⟨rfl, rfl⟩
  · rw [oneOf_no (fun h => h1 h.1)]
    go_wp2
    all_goals go_ret
    all_goals exact ⟨rfl, rfl⟩

set_option maxRecDepth 100000 in
set_option maxHeartbeats 1000000 in
theorem num_any (k : Int) (w : World) : Calls Try.prog 13 #[.int .i64 k] w fun e w' => e = .returned (.int .i64 k) ∧ w' = w := by
  go_enter Try.func13, Try.ntmps13
  go_wp2
  all_goals go_ret
  all_goals exact ⟨rfl, rfl⟩

set_option maxRecDepth 100000 in
set_option maxHeartbeats 1000000 in
theorem nobody_any (a b : Int) (w : World) : Calls Try.prog 44 #[.agg #[.int .i64 a, .int .i64 b]] w fun e w' => e = .returned (.bool (b == 0)) ∧ Ly w w' := by
  go_enter Try.func44, Try.ntmps44
  go_wp2
  all_goals go_ret
  all_goals exact ⟨rfl, Ly.alloc (Ly.refl _) _⟩

/-- Is it a thread's? -/
def ofR (a b t : Int) : Bool := !(b == 0) && (a == t)
/-- May it be? -/
def freeR (a b t : Int) : Bool := (b == 0) || (a == t)

set_option maxRecDepth 100000 in
set_option maxHeartbeats 1000000 in
theorem isOf_any (a b t : Int) (w : World) : Calls Try.prog 38 #[.agg #[.int .i64 a, .int .i64 b], .int .i64 t] w fun e w' => e = .returned (.bool (ofR a b t)) ∧ Ly w w' := by
  unfold ofR
  have hn := fun w => nobody_any a b w
  go_enter Try.func38, Try.ntmps38
  cases h : (b == 0)
  · rw [h] at hn
    go_wp2_with (first
      | (go_at_call 44; refine (hn _).mono ?_; rintro e w1 ⟨rfl, os, k, rfl⟩)
      | fail)
    all_goals go_ret
    all_goals exact ⟨rfl, Ly.lay (Ly.alloc (Ly.refl _) _) _ _⟩
  · rw [h] at hn
    go_wp2_with (first
      | (go_at_call 44; refine (hn _).mono ?_; rintro e w1 ⟨rfl, os, k, rfl⟩)
      | fail)
    all_goals go_ret
    all_goals exact ⟨rfl, Ly.lay (Ly.alloc (Ly.refl _) _) _ _⟩

set_option maxRecDepth 100000 in
set_option maxHeartbeats 1000000 in
theorem isFree_any (a b t : Int) (w : World) : Calls Try.prog 52 #[.agg #[.int .i64 a, .int .i64 b], .int .i64 t] w fun e w' => e = .returned (.bool (freeR a b t)) ∧ Ly w w' := by
  unfold freeR
  have hn := fun w => nobody_any a b w
  go_enter Try.func52, Try.ntmps52
  cases h : (b == 0)
  · rw [h] at hn
    go_wp2_with (first
      | (go_at_call 44; refine (hn _).mono ?_; rintro e w1 ⟨rfl, os, k, rfl⟩)
      | fail)
    all_goals go_ret
    all_goals exact ⟨rfl, Ly.lay (Ly.alloc (Ly.refl _) _) _ _⟩
  · rw [h] at hn
    go_wp2_with (first
      | (go_at_call 44; refine (hn _).mono ?_; rintro e w1 ⟨rfl, os, k, rfl⟩)
      | fail)
    all_goals go_ret
    all_goals exact ⟨rfl, Ly.lay (Ly.alloc (Ly.refl _) _) _ _⟩

set_option maxRecDepth 100000 in
set_option maxHeartbeats 1000000 in
theorem timed_any (x : WW) (w : World) : Calls Try.prog 45 #[.agg #[.int .i64 x.t, .int .i64 x.n, .int .i64 x.m, .int .i64 x.u]] w fun e w' => e = .returned (.bool (x.u != -1)) ∧ Ly w w' := by
  go_enter Try.func45, Try.ntmps45
  go_wp2
  all_goals go_ret
  all_goals exact ⟨rfl, Ly.alloc (Ly.refl _) _⟩

set_option maxRecDepth 100000 in
set_option maxHeartbeats 1000000 in
theorem isNaN_any (a : Int) (w : World) : Calls Try.prog 69 #[.int .i64 a] w fun e w' => e = .returned (.bool false) ∧ w' = w := by
  go_enter Try.func69, Try.ntmps69
  go_wp2
  all_goals go_ret
  all_goals exact ⟨rfl, rfl⟩

def cmpR (a b : Int) : Int := if a < b then -1 else if b < a then 1 else 0

set_option maxRecDepth 100000 in
set_option maxHeartbeats 1000000 in
theorem cmp_any (a b : Int) (w : World) : Calls Try.prog 62 #[.int .i64 a, .int .i64 b] w fun e w' => e = .returned (.int .i64 (cmpR a b)) ∧ w' = w := by
  unfold cmpR
  by_cases h1 : a < b
  · rw [if_pos h1]
    go_enter Try.func62, Try.ntmps62
    go_wp2_with (first
      | (go_at_call 69; refine (isNaN_any _ _).mono ?_; rintro e w1 ⟨rfl, hw⟩; subst w1)
      | fail)
    all_goals go_ret
    all_goals exact ⟨rfl, rfl⟩
  · rw [if_neg h1]
    by_cases h2 : b < a
    · rw [if_pos h2]
      go_enter Try.func62, Try.ntmps62
      go_wp2_with (first
        | (go_at_call 69; refine (isNaN_any _ _).mono ?_; rintro e w1 ⟨rfl, hw⟩; subst w1)
        | fail)
      all_goals go_ret
      all_goals exact ⟨rfl, rfl⟩
    · rw [if_neg h2]
      go_enter Try.func62, Try.ntmps62
      go_wp2_with (first
        | (go_at_call 69; refine (isNaN_any _ _).mono ?_; rintro e w1 ⟨rfl, hw⟩; subst w1)
        | fail)
      all_goals go_ret
      all_goals exact ⟨rfl, rfl⟩

set_option maxRecDepth 100000 in
set_option maxHeartbeats 1000000 in
theorem cmpT_any (x y : WW) (w : World) : Calls Try.prog 47 #[.agg #[.int .i64 x.t, .int .i64 x.n, .int .i64 x.m, .int .i64 x.u], .agg #[.int .i64 y.t, .int .i64 y.n, .int .i64 y.m, .int .i64 y.u]] w fun e w' => e = .returned (.int .i64 (cmpR x.u y.u)) ∧ Ly w w' := by
  go_enter Try.func47, Try.ntmps47
  go_wp2_with (first
    | (go_at_call 62; refine (cmp_any _ _ _).mono ?_; rintro e w1 ⟨rfl, hw⟩; subst w1)
    | fail)
  all_goals go_ret
  all_goals exact ⟨rfl, Ly.alloc (Ly.alloc (Ly.refl _) _) _⟩

end Go.Proofs.Yteeeijbjokkomaa
