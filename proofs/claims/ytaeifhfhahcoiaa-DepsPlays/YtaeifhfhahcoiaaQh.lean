/- The document's New, where nothing is made: the contract. -/
import Derived.Test.YtaeifhfhahcoiaaQg
set_option linter.unusedSimpArgs false
set_option linter.unusedVariables false
namespace Go.Proofs.Ytaeifhfhahcoiaa
open Go Go.RowKit

set_option maxRecDepth 100000 in
set_option maxHeartbeats 1000000 in
theorem rNewx_no0 (f g : Int) (w : World)  (y : f < 1) : Calls Try.prog 11 #[.int .i64 f, .int .i64 g] w fun e w' => e = .returned (.tuple #[.agg #[.int .i64 0, .int .i64 0, .slice none 0 0], .int .i64 1]) ∧ Bw w w' := by
  go_enter Try.func11, Try.ntmps11
  go_wp2
  all_goals exact bodyPost_ret (v := .tuple #[.agg #[.int .i64 0, .int .i64 0, .slice none 0 0], .int .i64 1]) (by simp [results, Try.results11, go_sem, *]) rfl ⟨rfl, by repeat (first | exact Bw.refl _ | apply Bw.alloc | apply Bw.drewN | apply Bw.drew)⟩

set_option maxRecDepth 100000 in
set_option maxHeartbeats 1000000 in
theorem rNewx_no1 (f g : Int) (w : World) (n0 : ¬ f < 1) (y : 1024 < f) : Calls Try.prog 11 #[.int .i64 f, .int .i64 g] w fun e w' => e = .returned (.tuple #[.agg #[.int .i64 0, .int .i64 0, .slice none 0 0], .int .i64 1]) ∧ Bw w w' := by
  have d0 : decide (f < 1) = false := decide_eq_false n0
  go_enter Try.func11, Try.ntmps11
  go_wp2
  all_goals exact bodyPost_ret (v := .tuple #[.agg #[.int .i64 0, .int .i64 0, .slice none 0 0], .int .i64 1]) (by simp [results, Try.results11, go_sem, *]) rfl ⟨rfl, by repeat (first | exact Bw.refl _ | apply Bw.alloc | apply Bw.drewN | apply Bw.drew)⟩

set_option maxRecDepth 100000 in
set_option maxHeartbeats 1000000 in
theorem rNewx_no2 (f g : Int) (w : World) (n0 : ¬ f < 1) (n1 : ¬ 1024 < f) (y : g < 0) : Calls Try.prog 11 #[.int .i64 f, .int .i64 g] w fun e w' => e = .returned (.tuple #[.agg #[.int .i64 0, .int .i64 0, .slice none 0 0], .int .i64 1]) ∧ Bw w w' := by
  have d0 : decide (f < 1) = false := decide_eq_false n0
  have d1 : decide (1024 < f) = false := decide_eq_false n1
  go_enter Try.func11, Try.ntmps11
  go_wp2
  all_goals exact bodyPost_ret (v := .tuple #[.agg #[.int .i64 0, .int .i64 0, .slice none 0 0], .int .i64 1]) (by simp [results, Try.results11, go_sem, *]) rfl ⟨rfl, by repeat (first | exact Bw.refl _ | apply Bw.alloc | apply Bw.drewN | apply Bw.drew)⟩

set_option maxRecDepth 100000 in
set_option maxHeartbeats 1000000 in
theorem rNewx_no3 (f g : Int) (w : World) (n0 : ¬ f < 1) (n1 : ¬ 1024 < f) (n2 : ¬ g < 0) (y : 1024 < g) : Calls Try.prog 11 #[.int .i64 f, .int .i64 g] w fun e w' => e = .returned (.tuple #[.agg #[.int .i64 0, .int .i64 0, .slice none 0 0], .int .i64 1]) ∧ Bw w w' := by
  have d0 : decide (f < 1) = false := decide_eq_false n0
  have d1 : decide (1024 < f) = false := decide_eq_false n1
  have d2 : decide (g < 0) = false := decide_eq_false n2
  go_enter Try.func11, Try.ntmps11
  go_wp2
  all_goals exact bodyPost_ret (v := .tuple #[.agg #[.int .i64 0, .int .i64 0, .slice none 0 0], .int .i64 1]) (by simp [results, Try.results11, go_sem, *]) rfl ⟨rfl, by repeat (first | exact Bw.refl _ | apply Bw.alloc | apply Bw.drewN | apply Bw.drew)⟩

theorem rNewx_no (f g : Int) (w : World) (h : ¬ (1 ≤ f ∧ f ≤ 1024 ∧ 0 ≤ g ∧ g ≤ 1024)) : Calls Try.prog 11 #[.int .i64 f, .int .i64 g] w fun e w' => e = .returned (.tuple #[.agg #[.int .i64 0, .int .i64 0, .slice none 0 0], .int .i64 1]) ∧ Bw w w' := by
  by_cases h1 : f < 1
  · exact rNewx_no0 f g w h1
  by_cases h2 : 1024 < f
  · exact rNewx_no1 f g w h1 h2
  by_cases h3 : g < 0
  · exact rNewx_no2 f g w h1 h2 h3
  · exact rNewx_no3 f g w h1 h2 h3 (by omega)

end Go.Proofs.Ytaeifhfhahcoiaa
