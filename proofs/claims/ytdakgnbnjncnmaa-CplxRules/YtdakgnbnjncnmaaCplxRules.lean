/- For every two complex numbers, by whatever bits of their parts, the statement CplxRules of layer 2 answers true: sums and products may be taken in the other order, mirrored twice a number is itself, the mirror of a product is the mirrors' product but for the sign of what is 0, and the square of a length is not below 0; no condition. -/
import Derived.Test.YtdakgnbnjncnmaaFr
import Derived.Test.YtdakgnbnjncnmaaRL
import Derived.Test.YtdakgnbnjncnmaaFj
set_option linter.unusedVariables false
set_option linter.unusedSimpArgs false
namespace Go.Proofs.Ytdakgnbnjncnmaa.cplxRules
open Go.ChangeShapes Go.WideShapes Go.ChangeAt Go.RowKit

theorem f_add (A B C D : Nat) : sm (fo .add A C) (fo .add B D) (fo .add C A) (fo .add D B) = true := by
  rw [fo_add_comm C A, fo_add_comm D B]; exact sm_self _ _
theorem f_mul (A B C D : Nat) : sm (mre A B C D) (mim A B C D) (mre C D A B) (mim C D A B) = true := by
  have e1 : mre C D A B = mre A B C D := by rw [mre, mre, fo_mul_comm C A, fo_mul_comm D B]
  have e2 : mim C D A B = mim A B C D := by rw [mim, mim, fo_mul_comm C B, fo_mul_comm D A, fo_add_comm]
  rw [e1, e2]; exact sm_self _ _
theorem f_norm (A B : Nat) : (F.order (nrm A B) 0 == some .lt) = false := pos_not_lt _ (pos_sum _ _ (pos_square A) (pos_square B))
theorem f_conj (B : Nat) (hB : B < 18446744073709551616) (hc : cn B = B) : cn (fneg (cn (fneg B))) = B := by
  have := cn_fneg_fneg B hB
  rwa [hc] at this
theorem f_mre (A B C D : Nat) (hB : B < 18446744073709551616) (hD : D < 18446744073709551616) : mre A (cn (fneg B)) C (cn (fneg D)) = mre A B C D := by
  rw [mre, mre, fo_cn_left, fo_cn_right, fo_mul_neg2 B D hB hD]
theorem f_mim (A B C D : Nat) (hB : B < 18446744073709551616) (hD : D < 18446744073709551616) :
    mim A (cn (fneg B)) C (cn (fneg D)) = cn (fneg (mim A B C D)) ∨ (Nil0 (mim A (cn (fneg B)) C (cn (fneg D))) ∧ Nil0 (cn (fneg (mim A B C D)))) := by
  have e : mim A (cn (fneg B)) C (cn (fneg D)) = fo .add (fneg (fo .mul A D)) (fneg (fo .mul B C)) := by
    rw [mim, fo_cn_right, fo_cn_left, fo_mul_neg A D hD, fo_mul_comm (fneg B) C, fo_mul_neg C B hB, fo_cn_left, fo_cn_right, fo_mul_comm C B]
  rw [e]
  rcases fo_add_neg (fo .mul A D) (fo .mul B C) (fo_lt ..) (fo_lt ..) with h | ⟨h1, h2⟩
  · exact .inl h
  · exact .inr ⟨h1, nil0_neg _ h2⟩

set_option maxHeartbeats 8000000 in
theorem core (a0 b0 a1 b1 : Int) (A B C D U V R : Nat) (hA : cn a0.toNat = A) (hB : cn b0.toNat = B) (hC : cn a1.toNat = C) (hD : cn b1.toNat = D)
    (cA : cn A = A) (cB : cn B = B) (cC : cn C = C) (cD : cn D = D) (lB : cn (fneg (cn (fneg B))) = B)
    (r1 : cn (mre A B C D) = R) (r2 : cn (mre A (cn (fneg B)) C (cn (fneg D))) = R) (i1 : cn (fneg (mim A B C D)) = U) (i2 : cn (mim A (cn (fneg B)) C (cn (fneg D))) = V)
    (cR : cn R = R) (cU : cn U = U)
    (hUV : U = V ∨ (Nil0 U ∧ Nil0 V)) (w : World) :
    Calls Try.prog 7 #[.agg #[.int .u64 a0, .int .u64 b0], .agg #[.int .u64 a1, .int .u64 b1]] w fun e w' => e = .returned (.bool true) ∧ Bw w w' := by
  have q0 := cn_cn
  have q1 := f_add A B C D
  have q2 := f_mul A B C D
  have q3 := sm_self A B
  have q4 := f_norm A B
  rcases hUV with rfl | ⟨rfl | rfl, rfl | rfl⟩
  all_goals
    go_enter Try.func7, Try.ntmps7
    go_wp2
    go_region_held3 (fun w' => w'.cell? ⟨w.heap.size, 0, none⟩ = some (.int .u64 a0) ∧ w'.cell? ⟨w.heap.size, 1, none⟩ = some (.int .u64 b0) ∧ w'.cell? ⟨w.heap.size + 1, 0, none⟩ = some (.int .u64 a1) ∧ w'.cell? ⟨w.heap.size + 1, 1, none⟩ = some (.int .u64 b1)) (go_keep)
      (first | (go_at_call 11; refine (of_any _ _ _).mono ?_; rintro e w' ⟨rfl, os, n, rfl⟩))
    go_wp2_with (first
      | (go_at_call 10; refine (bits_any _ _ _).mono ?_; rintro e w' ⟨rfl, rfl⟩)
      | (go_at_call 15; refine (same_any _ _ _ _ _).mono ?_; rintro e w' ⟨rfl, rfl⟩)
      | (go_at_call 18; refine (add_any _ _ _ _ _).mono ?_; rintro e w' ⟨rfl, m, rfl⟩)
      | (go_at_call 22; refine (mul_any _ _ _ _ _).mono ?_; rintro e w' ⟨rfl, m, rfl⟩)
      | (go_at_call 24; refine (conj_any _ _ _).mono ?_; rintro e w' ⟨rfl, rfl⟩)
      | (go_at_call 25; refine (norm_any _ _ _).mono ?_; rintro e w' ⟨rfl, m, rfl⟩)
      | (go_at_call 17; refine (live_any _).mono ?_; rintro e w' ⟨rfl, os, n, rfl⟩))
    all_goals go_ret
    all_goals exact ⟨rfl, Ly.bw (by repeat (first | exact Ly.refl _ | apply Ly.lay | apply Ly.alloc | apply Ly.drewN | apply Ly.drew))⟩

theorem walk (a0 b0 : Int) (w0 : Uw a0 b0) (a1 b1 : Int) (w1 : Uw a1 b1) (w : World) :
    Calls Try.prog 7 #[.agg #[.int .u64 a0, .int .u64 b0], .agg #[.int .u64 a1, .int .u64 b1]] w fun e w' => e = .returned (.bool true) ∧ Bw w w' := by
  obtain ⟨⟨u1, u2⟩, u3, u4⟩ := w0
  obtain ⟨⟨v1, v2⟩, v3, v4⟩ := w1
  have lB : cn b0.toNat < 18446744073709551616 := cn_lt _ (by omega)
  have lD : cn b1.toNat < 18446744073709551616 := cn_lt _ (by omega)
  have hm := f_mim (cn a0.toNat) (cn b0.toNat) (cn a1.toNat) (cn b1.toNat) lB lD
  have cm : ∀ A B C D, cn (mim A B C D) = mim A B C D := fun _ _ _ _ => cn_fo ..
  have cr : ∀ A B C D, cn (mre A B C D) = mre A B C D := fun _ _ _ _ => cn_fo ..
  refine core a0 b0 a1 b1 _ _ _ _ _ _ _ rfl rfl rfl rfl (cn_cn _) (cn_cn _) (cn_cn _) (cn_cn _) (f_conj _ lB (cn_cn _)) rfl (by rw [f_mre _ _ _ _ lB lD]) rfl rfl (cn_cn _) (cn_cn _) ?_ w
  rw [cm]
  rcases hm with h | ⟨h1, h2⟩
  · exact .inl h.symm
  · exact .inr ⟨h2, h1⟩

set_option maxRecDepth 100000 in
theorem lifted (os : Os) (started : os.Started) (H : Type) (enc : TypeId × Value → H) :
    ReturnsInHanded {} Try.checked os 7 .any (Rows.cplxRulesSpec.pre6 enc Try.prog Try.f7 Rows.cplxRulesRow.domain false) (Rows.cplxRulesSpec.post enc Try.prog Try.f7 false true false false) := by
  refine returnsInHanded_of_change (C := Try.checked) ownK started (by kernel_rfl) Try.func7
    (ChangeSpec.witness6 (enc := enc) (C := Try.checked) false ⟨#[], #[.agg #[.int .u64 0, .int .u64 0], .agg #[.int .u64 0, .int .u64 0]], []⟩ 8 (by kernel_rfl) (by kernel_rfl) (by kernel_rfl) (by kernel_rfl)) ?_
  intro W base args ds gs before hval0 hW hcnd _
  have hval : ∀ (j : Nat) t v, Try.f7.params[j]? = some t → args[j]? = some v → Value.okWide Try.prog W .any base t v := hval0
  have hW' := hW
  obtain ⟨p, q, hA0, hV, rfl, hfz, hnd⟩ := hW
  have hA : DataW.TrodAll enc Try.prog W 0 (fun _ => true) true Try.f7.params.toList args.toList ds p := hA0
  rw [Try.params7] at hA hval
  obtain ⟨v0, vs0, d0, ds0, p0, q0, hargs, rfl, rfl, h0, r0⟩ := trodAll_cons hA
  obtain ⟨v1, vs1, d1, ds1, p1, q1, rfl, rfl, rfl, h1, r1⟩ := trodAll_cons r0
  obtain ⟨rfl, rfl, rfl⟩ := trodAll_nil r1
  obtain rfl : args = #[v0, v1] := by cases args; simp_all
  obtain ⟨rfl, rfl⟩ := trodVars_none hV
  have k0 := h0
  have lt0 : ∀ x ∈ p0, x.block < W.heap.size := by obtain ⟨m, hm⟩ := k0; exact DataW.trod_lt m _ _ _ hm
  have k1 := h1
  have lt1 : ∀ x ∈ p1, x.block < W.heap.size := by obtain ⟨m, hm⟩ := k1; exact DataW.trod_lt m _ _ _ hm
  obtain ⟨a0, b0, rfl, w0⟩ := open_z (hval 0 24 v0 rfl rfl) h0
  obtain ⟨a1, b1, rfl, w1⟩ := open_z (hval 1 24 v1 rfl rfl) h1
  clear hA0 hval0
  refine (walk a0 b0 w0 a1 b1 w1 W).mono fun e W' ⟨he, bel⟩ => ?_
  subst he
  exact ⟨_, rfl, _, _, _, [], _, [], hW', trodAll_mk1 (shut_bool Try.underlying4 _), (trodAll_cons_mk (Below.trod laidOut (by kernel_rfl) (of_decide_eq_true (by kernel_rfl)) k0 bel lt0) (trodAll_cons_mk (Below.trod laidOut (by kernel_rfl) (of_decide_eq_true (by kernel_rfl)) k1 bel lt1) trodAll_mk0)), rfl, Below.frame bel _, fun h => by cases h⟩

theorem over : Rows.cplxRulesRow.holds Try.pinned (OpenSpec.ofChange Rows.cplxRulesSpec) :=
  OpenClaim.holds_of_wide 7 Try.f7 rfl rfl rfl rfl rfl rfl rfl ⟨rfl, rfl, rfl, rfl, rfl⟩ rfl rfl rfl rfl rfl (by kernel_rfl) Try.func7 (by kernel_rfl)
    (of_decide_eq_true (by kernel_rfl)) (by unfold Func.isWrapper; first | (rw [if_pos (by decide +kernel)]; kernel_rfl) | (rw [if_neg (by decide +kernel)]; exact ⟨rfl, rfl⟩))
    (fun os started H enc _ => lifted os started H enc)

theorem proved : Rows.CplxRulesSaid := over
end Go.Proofs.Ytdakgnbnjncnmaa.cplxRules
namespace Go.Proofs.Ytdakgnbnjncnmaa
theorem cplxRules_holds : Rows.CplxRulesSaid := cplxRules.proved
#print axioms cplxRules_holds
end Go.Proofs.Ytdakgnbnjncnmaa
