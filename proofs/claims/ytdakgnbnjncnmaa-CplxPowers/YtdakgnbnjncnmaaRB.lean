/- The document's sums, differences, products and lengths: their contracts; what was there stays as it was. -/
import Derived.Test.YtdakgnbnjncnmaaRA
set_option linter.unusedSimpArgs false
set_option linter.unusedVariables false
namespace Go.Proofs.Ytdakgnbnjncnmaa
open Go Go.RowKit

theorem radd_any (a b c d : Nat) (w : World) : Calls Try.prog 19 #[zf a b, zf c d] w fun e w' => ∃ r i, e = .returned (zf r i) ∧ cn r = fo .add a c ∧ cn i = fo .add b d ∧ Ly w w' := by
  go_enter Try.func19, Try.ntmps19
  go_wp2
  refine ret_z rfl rfl rfl (by go_simp <;> rfl) (by go_simp <;> rfl) ?_
  exact ⟨_, _, rfl, cn_fv .., cn_fv .., ((((Ly.refl _).alloc _).alloc _).alloc _).drewN _⟩

theorem rsub_any (a b c d : Nat) (w : World) : Calls Try.prog 21 #[zf a b, zf c d] w fun e w' => ∃ r i, e = .returned (zf r i) ∧ cn r = fo .sub a c ∧ cn i = fo .sub b d ∧ Ly w w' := by
  go_enter Try.func21, Try.ntmps21
  go_wp2
  refine ret_z rfl rfl rfl (by go_simp <;> rfl) (by go_simp <;> rfl) ?_
  exact ⟨_, _, rfl, cn_fv .., cn_fv .., ((((Ly.refl _).alloc _).alloc _).alloc _).drewN _⟩

theorem rmul_any (a b c d : Nat) (w : World) : Calls Try.prog 23 #[zf a b, zf c d] w fun e w' => ∃ r i, e = .returned (zf r i) ∧ cn r = mre a b c d ∧ cn i = mim a b c d ∧ Ly w w' := by
  go_enter Try.func23, Try.ntmps23
  go_wp2
  refine ret_z rfl rfl rfl (by go_simp <;> rfl) (by go_simp <;> rfl) ?_
  exact ⟨_, _, rfl, (cn_fv ..).trans (fo_fv ..), (cn_fv ..).trans (fo_fv ..), ((((Ly.refl _).alloc _).alloc _).alloc _).drewN _⟩

theorem rnorm_any (a b : Nat) (w : World) : Calls Try.prog 26 #[zf a b] w fun e w' => ∃ r, e = .returned (.float .f64 r) ∧ cn r = nrm a b ∧ Ly w w' := by
  go_enter Try.func26, Try.ntmps26
  go_wp2
  go_ret
  exact ⟨_, rfl, (cn_fv ..).trans (fo_fv ..), ((Ly.refl _).alloc _).drewN _⟩

theorem rof_any (a b : Int) (w : World) : Calls Try.prog 39 #[.int .u64 a, .int .u64 b] w fun e w' => e = .returned (zf a.toNat b.toNat) ∧ Ly w w' := by
  have hb := call_frombits
  go_enter Try.func39, Try.ntmps39
  go_wp2
  refine ret_z rfl rfl rfl (by go_simp <;> rfl) (by go_simp <;> rfl) ?_
  exact ⟨rfl, (Ly.refl _).alloc _⟩

theorem is_any (a b : Int) (w : World) : Calls Try.prog 13 #[zu a b] w fun e w' => e = .returned (zf a.toNat b.toNat) ∧ Ly w w' := by
  go_enter Try.func13, Try.ntmps13
  go_wp2_with (go_at_call 39; refine (rof_any _ _ _).mono ?_; rintro e w1 ⟨rfl, os, n, rfl⟩)
  refine ret_z rfl rfl rfl (by go_simp <;> rfl) (by go_simp <;> rfl) ?_
  exact ⟨rfl, (((Ly.refl _).alloc _).alloc _).lay _ _⟩

theorem like_yes (a b c d : Nat) (h1 : cn a = cn c) (h2 : cn b = cn d) (w : World) : Calls Try.prog 12 #[.complex .f64 a b, zf c d] w fun e w' => e = .returned (.bool true) ∧ Ly w w' := by
  have h : sm a b c d = true := by simp [sm, h1, h2]
  have := like_any a b c d w
  rwa [h] at this

theorem cn_fneg_cn (b : Nat) (h : b < 18446744073709551616) : cn (fneg (cn b)) = cn (fneg b) := by
  by_cases hb : isn b = true
  · have e : cn b = nn := by simp [cn, hb]
    have e1 : isn (fneg nn) = true := by rw [isn_fneg nn nn_lt]; exact isn_nn
    have e2 : isn (fneg b) = true := by rw [isn_fneg b h]; exact hb
    rw [e]; simp [cn, e1, e2]
  · rw [cn_of b (by simpa using hb)]

theorem mre_cn (a b c d : Nat) : mre (cn a) (cn b) (cn c) (cn d) = mre a b c d := by simp only [mre, fo_cn_left, fo_cn_right]
theorem mim_cn (a b c d : Nat) : mim (cn a) (cn b) (cn c) (cn d) = mim a b c d := by simp only [mim, fo_cn_left, fo_cn_right]
theorem nrm_cn (a b : Nat) : nrm (cn a) (cn b) = nrm a b := by simp only [nrm, fo_cn_left, fo_cn_right]
theorem foo_cn (op : BinOp) (a b : Nat) : fo op (cn a) (cn b) = fo op a b := by simp only [fo_cn_left, fo_cn_right]
theorem cn_mre (a b c d : Nat) : cn (mre a b c d) = mre a b c d := cn_fo ..
theorem cn_mim (a b c d : Nat) : cn (mim a b c d) = mim a b c d := cn_fo ..
theorem cn_nrm (a b : Nat) : cn (nrm a b) = nrm a b := cn_fo ..

@[go_sem] theorem run_field0 (a b : Nat) (w : World) : (Instr.field 33 (zf a b) 0).run Try.prog w = .ok (.float .f64 a) w := by kernel_rfl
@[go_sem] theorem run_field1 (a b : Nat) (w : World) : (Instr.field 33 (zf a b) 1).run Try.prog w = .ok (.float .f64 b) w := by kernel_rfl

end Go.Proofs.Ytdakgnbnjncnmaa
