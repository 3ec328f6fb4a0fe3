/- The page's examples hold: the contract of the statements' own helper 'live'. -/
import Derived.Test.YtdakgnbnjncnmaaW3
import Derived.Test.YtdakgnbnjncnmaaRA
set_option linter.unusedSimpArgs false
set_option linter.unusedVariables false
namespace Go.Proofs.Ytdakgnbnjncnmaa
open Go Go.RowKit

theorem lv_div : qer (floatOfInt .f64 0) (floatOfInt .f64 0) = 10 := by kernel_rfl
theorem lv_mul : sm (mre (floatOfInt .f64 1) (floatOfInt .f64 2) (floatOfInt .f64 3) (floatOfInt .f64 4)) (mim (floatOfInt .f64 1) (floatOfInt .f64 2) (floatOfInt .f64 3) (floatOfInt .f64 4)) 13840687554816376832 4621819117588971520 = true := by kernel_rfl
theorem lv_pow : sm (pwr (floatOfInt .f64 0) (floatOfInt .f64 1) 2) (pwi (floatOfInt .f64 0) (floatOfInt .f64 1) 2) 13830554455654793216 0 = true := by kernel_rfl
theorem lv_pwe : pwe 2 = 0 := by kernel_rfl
theorem lv_pv : pv (floatOfInt .f64 3) = 3 := by kernel_rfl
theorem lv_pe : pe (floatOfInt .f64 3) = 0 := by kernel_rfl
theorem lv_fold : sm (pol (floatOfInt .f64 3) (floatOfInt .f64 0) [(floatOfInt .f64 1, floatOfInt .f64 0), (floatOfInt .f64 2, floatOfInt .f64 0)]).1 (pol (floatOfInt .f64 3) (floatOfInt .f64 0) [(floatOfInt .f64 1, floatOfInt .f64 0), (floatOfInt .f64 2, floatOfInt .f64 0)]).2 4619567317775286272 0 = true := by kernel_rfl

theorem fold_two (b cap : Nat) (x y x' y' p q : Nat) (w : World) (h0 : w.cell? ⟨b, 0, none⟩ = some (.complex .f64 x y)) (h1 : w.cell? ⟨b, 1, none⟩ = some (.complex .f64 x' y')) :
    Calls Try.prog 34 #[.slice (some ⟨b, 0, none⟩) 2 cap, .complex .f64 p q] w fun e w' => e = .returned (.complex .f64 (pol p q [(x, y), (x', y')]).1 (pol p q [(x, y), (x', y')]).2) ∧ Dn w w' := by
  refine fold_row b 0 cap [(x, y), (x', y')] p q w (by simp) ?_
  intro i hi
  match i, hi with
  | 0, _ => exact h0
  | 1, _ => exact h1

set_option maxHeartbeats 1000000 in
theorem live_any (w : World) : Calls Try.prog 17 #[] w fun e w' => e = .returned (.bool true) ∧ Ly w w' := by
  have d1 := lv_div
  have d2 := lv_mul
  have d3 := lv_pow
  have d4 := lv_pwe
  have d5 := lv_pv
  have d6 := lv_pe
  have d7 := lv_fold
  go_enter Try.func17, Try.ntmps17
  go_wp2_with (first
    | (go_at_call 9; refine (make_any _ _ _).mono ?_; rintro e w' ⟨rfl, rfl⟩)
    | (go_at_call 27; refine (div_any _ _ _ _ _).mono ?_; rintro e w' ⟨rfl, m, rfl⟩)
    | (go_at_call 32; refine (power_any _ _ _ _).mono ?_; rintro e w' ⟨rfl, m, rfl⟩)
    | (go_at_call 29; refine (part_any _ _ _ _).mono ?_; rintro e w' ⟨rfl, rfl⟩)
    | (go_at_call 34; refine (fold_two _ _ (floatOfInt .f64 1) (floatOfInt .f64 0) (floatOfInt .f64 2) (floatOfInt .f64 0) _ _ _ ?h0 ?h1).mono ?_; (case h0 => go_simp); (case h1 => go_simp); rintro e w' ⟨rfl, m, rfl⟩)
    | (go_at_call 22; refine (mul_any _ _ _ _ _).mono ?_; rintro e w' ⟨rfl, m, rfl⟩)
    | (go_at_call 31; refine (num_any _ (by first | (exact ⟨by omega, by omega⟩) | (rw [lv_div]; exact ⟨by omega, by omega⟩) | (rw [lv_pwe]; exact ⟨by omega, by omega⟩) | (rw [lv_pe]; exact ⟨by omega, by omega⟩)) _).mono ?_; rintro e w' ⟨rfl, rfl⟩)
    | (go_at_call 12; refine (like_any _ _ _ _ _).mono ?_; rintro e w' ⟨rfl, os, n, rfl⟩))
  go_ret
  exact ⟨rfl, by repeat (first | exact Ly.refl _ | apply Ly.lay | apply Ly.alloc | apply Ly.drewN | apply Ly.drew)⟩

end Go.Proofs.Ytdakgnbnjncnmaa
