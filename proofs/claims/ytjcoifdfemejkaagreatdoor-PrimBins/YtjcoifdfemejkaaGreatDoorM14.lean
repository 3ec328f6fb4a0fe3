/- cplx: sums, differences, products, quotients: contracts. · The document's complex numbers: sums, differences, products, quotients: contracts. -/
import Derived.Test.YtjcoifdfemejkaaGreatDoorM1
set_option linter.unusedSimpArgs false
set_option linter.unusedVariables false
namespace Go.Proofs.YtjcoifdfemejkaaGreatDoor
open Go Go.RowKit

theorem cproduct_any (a b : Nat) (w : World) : Calls Tryz.prog 119 #[.float .f64 a, .float .f64 b] w fun e w' => e = .returned (.float .f64 (fv .mul a b w)) ∧ w' = w.drewN (fd .mul a b) := by
  go_enter Tryz.func119, Tryz.ntmps119
  go_wp2
  go_ret
  exact ⟨rfl, rfl⟩

theorem fo_fv (op o1 o2 : BinOp) (a b c d : Nat) (w w' : World) : fo op (fv o1 a b w) (fv o2 c d w') = fo op (fo o1 a b) (fo o2 c d) :=
  fo_congr op ((cn_fv ..).trans (cn_fo ..).symm) ((cn_fv ..).trans (cn_fo ..).symm)
theorem fo_fv_l (op o1 : BinOp) (a b c : Nat) (w : World) : fo op (fv o1 a b w) c = fo op (fo o1 a b) c :=
  fo_congr op ((cn_fv ..).trans (cn_fo ..).symm) rfl

theorem fo_fv_r (op o2 : BinOp) (a c d : Nat) (w : World) : fo op a (fv o2 c d w) = fo op a (fo o2 c d) :=
  fo_congr op rfl ((cn_fv ..).trans (cn_fo ..).symm)

theorem cadd_any (a b c d : Nat) (w : World) : Calls Tryz.prog 84 #[.complex .f64 a b, .complex .f64 c d] w fun e w' => e = .returned (.complex .f64 (fo .add a c) (fo .add b d)) ∧ Dn w w' := by
  go_enter Tryz.func84, Tryz.ntmps84
  go_wp2_with (go_at_call 109; refine (cjoin_any _ _ _).mono ?_; rintro e w' ⟨rfl, rfl⟩)
  go_ret
  exact ⟨by simp [cn_fv], _, rfl⟩

theorem csub_any (a b c d : Nat) (w : World) : Calls Tryz.prog 55 #[.complex .f64 a b, .complex .f64 c d] w fun e w' => e = .returned (.complex .f64 (fo .sub a c) (fo .sub b d)) ∧ Dn w w' := by
  go_enter Tryz.func55, Tryz.ntmps55
  go_wp2_with (go_at_call 109; refine (cjoin_any _ _ _).mono ?_; rintro e w' ⟨rfl, rfl⟩)
  go_ret
  exact ⟨by simp [cn_fv], _, rfl⟩

/-- A product's parts. -/
def mre (a b c d : Nat) : Nat := fo .sub (fo .mul a c) (fo .mul b d)
def mim (a b c d : Nat) : Nat := fo .add (fo .mul a d) (fo .mul b c)

theorem cmul_any (a b c d : Nat) (w : World) : Calls Tryz.prog 85 #[.complex .f64 a b, .complex .f64 c d] w fun e w' => e = .returned (.complex .f64 (mre a b c d) (mim a b c d)) ∧ Dn w w' := by
  go_enter Tryz.func85, Tryz.ntmps85
  go_wp2_with (first | (go_at_call 119; refine (cproduct_any _ _ _).mono ?_; rintro e w' ⟨rfl, rfl⟩) | (go_at_call 109; refine (cjoin_any _ _ _).mono ?_; rintro e w' ⟨rfl, rfl⟩))
  go_ret
  exact ⟨by simp [cn_fv, fo_fv, mre, mim], _, rfl⟩

/-- The square of a length. -/
def nrm (a b : Nat) : Nat := fo .add (fo .mul a a) (fo .mul b b)

theorem cnorm_any (a b : Nat) (w : World) : Calls Tryz.prog 120 #[.complex .f64 a b] w fun e w' => e = .returned (.float .f64 (nrm a b)) ∧ Dn w w' := by
  go_enter Tryz.func120, Tryz.ntmps120
  go_wp2_with (first | (go_at_call 119; refine (cproduct_any _ _ _).mono ?_; rintro e w' ⟨rfl, rfl⟩) | (go_at_call 125; refine (csettled_any _ _).mono ?_; rintro e w' ⟨rfl, rfl⟩))
  go_ret
  exact ⟨by simp [cn_fv, fo_fv, nrm], _, rfl⟩

/-- A quotient's parts. -/
def dre (a b c d : Nat) : Nat := fo .quo (fo .add (fo .mul a c) (fo .mul b d)) (nrm c d)
def dim (a b c d : Nat) : Nat := fo .quo (fo .sub (fo .mul b c) (fo .mul a d)) (nrm c d)

/-- Is the square of the length nought? -/
def dz (c d : Nat) : Bool := F.order (nrm c d) 0 == some .eq
def qre (a b c d : Nat) : Nat := if dz c d then 0 else dre a b c d
def qim (a b c d : Nat) : Nat := if dz c d then 0 else dim a b c d
def qer (c d : Nat) : Int := if dz c d then 10 else 0

set_option maxHeartbeats 400000 in
theorem cdiv_any (a b c d : Nat) (w : World) : Calls Tryz.prog 86 #[.complex .f64 a b, .complex .f64 c d] w fun e w' => e = .returned (.tuple #[.complex .f64 (qre a b c d) (qim a b c d), .int .i64 (qer c d)]) ∧ Dn w w' := by
  by_cases h : dz c d = true
  · have h' : (F.order (nrm c d) 0 == some .eq) = true := h
    rw [show qre a b c d = 0 from if_pos h, show qim a b c d = 0 from if_pos h, show qer c d = 10 from if_pos h]
    clear h
    go_enter Tryz.func86, Tryz.ntmps86
    go_wp2_with (first | (go_at_call 120; refine (cnorm_any _ _ _).mono ?_; rintro e w' ⟨rfl, m, rfl⟩) | (go_at_call 119; refine (cproduct_any _ _ _).mono ?_; rintro e w' ⟨rfl, rfl⟩) | (go_at_call 109; refine (cjoin_any _ _ _).mono ?_; rintro e w' ⟨rfl, rfl⟩))
    go_ret2
    exact ⟨rfl, _, rfl⟩
  · have h : dz c d = false := by simpa using h
    have h' : (F.order (nrm c d) 0 == some .eq) = false := h
    rw [show qre a b c d = dre a b c d by simp [qre, h], show qim a b c d = dim a b c d by simp [qim, h], show qer c d = 0 by simp [qer, h]]
    clear h
    go_enter Tryz.func86, Tryz.ntmps86
    go_wp2_with (first | (go_at_call 120; refine (cnorm_any _ _ _).mono ?_; rintro e w' ⟨rfl, m, rfl⟩) | (go_at_call 119; refine (cproduct_any _ _ _).mono ?_; rintro e w' ⟨rfl, rfl⟩) | (go_at_call 109; refine (cjoin_any _ _ _).mono ?_; rintro e w' ⟨rfl, rfl⟩))
    go_ret2
    exact ⟨by simp [cn_fv, fo_fv, fo_fv_l, fo_fv_r, dre, dim], _, rfl⟩


end Go.Proofs.YtjcoifdfemejkaaGreatDoor

set_option linter.unusedSimpArgs false
set_option linter.unusedVariables false
namespace Go.Proofs.YtjcoifdfemejkaaGreatDoor
open Go Go.RowKit

/-- A struct of two floats, of two words. -/
abbrev zf (a b : Nat) : Value := .agg #[.float .f64 a, .float .f64 b]

theorem gtold_any (x : Nat) (w : World) : Calls Tryz.prog 96 #[.float .f64 x] w fun e w' => e = .returned (.int .u64 (cn x : Nat)) ∧ w' = w := by
  have hb := ccall_bits
  have ho := corder_self x
  by_cases h : isn x = true
  · have hc : cn x = nn := by simp [cn, h]
    rw [hc]
    go_enter Tryz.func96, Tryz.ntmps96
    go_wp2
    all_goals go_ret
    all_goals exact ⟨rfl, rfl⟩
  · have h : isn x = false := by simpa using h
    rw [cn_of x h]
    go_enter Tryz.func96, Tryz.ntmps96
    go_wp2
    all_goals go_ret
    all_goals exact ⟨rfl, rfl⟩

/-- A result that is a struct of two floats, out of its own cells. -/
theorem ret_z {fn : Func} {p : Tmp} (hres : fn.results = #[.cell p 87]) {R : Ending → World → Prop} {act : Act} {w : World} {b r i : Nat} (hd : act.defers = [])
    (hp : act.tmps[p]? = some (.pointer (some ⟨b, 0, none⟩))) (h0 : w.cell? ⟨b, 0, none⟩ = some (.float .f64 r)) (h1 : w.cell? ⟨b, 1, none⟩ = some (.float .f64 i))
    (hR : R (.returned (zf r i)) w) : bodyPost Tryz.prog fn R .ret act w := by
  refine bodyPost_ret (v := zf r i) ?_ hd hR
  simp [results, hres, hp, h0, h1, go_sem]

theorem gadd_any (a b c d : Nat) (w : World) : Calls Tryz.prog 45 #[zf a b, zf c d] w fun e w' => ∃ r i, e = .returned (zf r i) ∧ cn r = fo .add a c ∧ cn i = fo .add b d ∧ Ly w w' := by
  go_enter Tryz.func45, Tryz.ntmps45
  go_wp2
  refine ret_z rfl rfl rfl (by go_simp <;> rfl) (by go_simp <;> rfl) ?_
  exact ⟨_, _, rfl, cn_fv .., cn_fv .., ((((Ly.refl _).alloc _).alloc _).alloc _).drewN _⟩

theorem gsub_any (a b c d : Nat) (w : World) : Calls Tryz.prog 46 #[zf a b, zf c d] w fun e w' => ∃ r i, e = .returned (zf r i) ∧ cn r = fo .sub a c ∧ cn i = fo .sub b d ∧ Ly w w' := by
  go_enter Tryz.func46, Tryz.ntmps46
  go_wp2
  refine ret_z rfl rfl rfl (by go_simp <;> rfl) (by go_simp <;> rfl) ?_
  exact ⟨_, _, rfl, cn_fv .., cn_fv .., ((((Ly.refl _).alloc _).alloc _).alloc _).drewN _⟩

theorem gmul_any (a b c d : Nat) (w : World) : Calls Tryz.prog 47 #[zf a b, zf c d] w fun e w' => ∃ r i, e = .returned (zf r i) ∧ cn r = mre a b c d ∧ cn i = mim a b c d ∧ Ly w w' := by
  go_enter Tryz.func47, Tryz.ntmps47
  go_wp2
  refine ret_z rfl rfl rfl (by go_simp <;> rfl) (by go_simp <;> rfl) ?_
  exact ⟨_, _, rfl, (cn_fv ..).trans (fo_fv ..), (cn_fv ..).trans (fo_fv ..), ((((Ly.refl _).alloc _).alloc _).alloc _).drewN _⟩

theorem gnorm_any (a b : Nat) (w : World) : Calls Tryz.prog 97 #[zf a b] w fun e w' => ∃ r, e = .returned (.float .f64 r) ∧ cn r = nrm a b ∧ Ly w w' := by
  go_enter Tryz.func97, Tryz.ntmps97
  go_wp2
  go_ret
  exact ⟨_, rfl, (cn_fv ..).trans (fo_fv ..), ((Ly.refl _).alloc _).drewN _⟩

theorem gof_any (a b : Int) (w : World) : Calls Tryz.prog 95 #[.int .u64 a, .int .u64 b] w fun e w' => e = .returned (zf a.toNat b.toNat) ∧ Ly w w' := by
  have hb := ccall_frombits
  go_enter Tryz.func95, Tryz.ntmps95
  go_wp2
  refine ret_z rfl rfl rfl (by go_simp <;> rfl) (by go_simp <;> rfl) ?_
  exact ⟨rfl, (Ly.refl _).alloc _⟩

theorem mre_cn (a b c d : Nat) : mre (cn a) (cn b) (cn c) (cn d) = mre a b c d := by simp only [mre, fo_cn_left, fo_cn_right]
theorem mim_cn (a b c d : Nat) : mim (cn a) (cn b) (cn c) (cn d) = mim a b c d := by simp only [mim, fo_cn_left, fo_cn_right]
theorem nrm_cn (a b : Nat) : nrm (cn a) (cn b) = nrm a b := by simp only [nrm, fo_cn_left, fo_cn_right]
theorem foo_cn (op : BinOp) (a b : Nat) : fo op (cn a) (cn b) = fo op a b := by simp only [fo_cn_left, fo_cn_right]
theorem cn_mre (a b c d : Nat) : cn (mre a b c d) = mre a b c d := cn_fo ..
theorem cn_mim (a b c d : Nat) : cn (mim a b c d) = mim a b c d := cn_fo ..
theorem cn_nrm (a b : Nat) : cn (nrm a b) = nrm a b := cn_fo ..

@[go_sem] theorem run_field0 (a b : Nat) (w : World) : (Instr.field 87 (zf a b) 0).run Tryz.prog w = .ok (.float .f64 a) w := by kernel_rfl
@[go_sem] theorem run_field1 (a b : Nat) (w : World) : (Instr.field 87 (zf a b) 1).run Tryz.prog w = .ok (.float .f64 b) w := by kernel_rfl

theorem order_cn (x y : Nat) : F.order (cn x) y = F.order x y := by
  by_cases h : isn x = true
  · obtain ⟨s, t, h1⟩ := read_isn h
    obtain ⟨s', t', h2⟩ := read_isn ((isn_cn x).trans h)
    simp only [Ieee.Format.order, h1, h2]
    cases F.read y <;> rfl
  · rw [cn_of x (by simpa using h)]
/-- Two results, the first a struct of two floats out of its own cells. -/
theorem ret_z2 {fn : Func} {p u : Tmp} (hres : fn.results = #[.cell p 87, .tmp u]) {R : Ending → World → Prop} {act : Act} {w : World} {b r i : Nat} {v : Value} (hd : act.defers = [])
    (hp : act.tmps[p]? = some (.pointer (some ⟨b, 0, none⟩))) (hu : act.tmps.getD u undef = v) (h0 : w.cell? ⟨b, 0, none⟩ = some (.float .f64 r)) (h1 : w.cell? ⟨b, 1, none⟩ = some (.float .f64 i))
    (hR : R (.returned (.tuple #[zf r i, v])) w) : bodyPost Tryz.prog fn R .ret act w := by
  refine bodyPost_ret (v := .tuple #[zf r i, v]) ?_ hd hR
  subst hu
  simp [results, hres, hp, h0, h1, go_sem]

set_option maxHeartbeats 1000000 in
theorem gdiv_any (a b c d : Nat) (w : World) : Calls Tryz.prog 48 #[zf a b, zf c d] w fun e w' => ∃ r i, e = .returned (.tuple #[zf r i, .int .i64 (qer c d)]) ∧ cn r = qre a b c d ∧ cn i = qim a b c d ∧ Ly w w' := by
  by_cases h : dz c d = true
  · rw [show qre a b c d = 0 from if_pos h, show qim a b c d = 0 from if_pos h, show qer c d = 10 from if_pos h]
    have e0 : cn 0 = 0 := by kernel_rfl
    go_enter Tryz.func48, Tryz.ntmps48
    go_wp2_with (go_at_call 97; refine (gnorm_any _ _ _).mono ?_; rintro e w' ⟨r, rfl, hr, os, n, rfl⟩; have hz : (F.order r 0 == some .eq) = true := by (rw [← order_cn, hr]; exact h))
    refine ret_z2 rfl rfl rfl rfl (by go_simp <;> rfl) (by go_simp <;> rfl) ?_
    exact ⟨_, _, rfl, e0, e0, by repeat (first | exact Ly.refl _ | apply Ly.lay | apply Ly.alloc | apply Ly.drewN | apply Ly.drew)⟩
  · have h : dz c d = false := by simpa using h
    rw [show qre a b c d = dre a b c d by simp [qre, h], show qim a b c d = dim a b c d by simp [qim, h], show qer c d = 0 by simp [qer, h]]
    go_enter Tryz.func48, Tryz.ntmps48
    go_wp2_with (go_at_call 97; refine (gnorm_any _ _ _).mono ?_; rintro e w' ⟨rn, rfl, hr, os, n, rfl⟩; have hz : (F.order rn 0 == some .eq) = false := by (rw [← order_cn, hr]; exact h))
    refine ret_z2 rfl rfl rfl rfl (by go_simp <;> rfl) (by go_simp <;> rfl) ?_
    refine ⟨_, _, rfl, (cn_fv ..).trans ?_, (cn_fv ..).trans ?_, by repeat (first | exact Ly.refl _ | apply Ly.lay | apply Ly.alloc | apply Ly.drewN | apply Ly.drew)⟩
    · exact fo_congr .quo ((cn_fv ..).trans ((fo_fv ..).trans (cn_fo ..).symm)) (hr.trans (cn_nrm c d).symm)
    · exact fo_congr .quo ((cn_fv ..).trans ((fo_fv ..).trans (cn_fo ..).symm)) (hr.trans (cn_nrm c d).symm)


end Go.Proofs.YtjcoifdfemejkaaGreatDoor

