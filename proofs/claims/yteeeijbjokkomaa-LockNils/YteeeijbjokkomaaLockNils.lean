/- Nil monitors answer ErrNil, zeros, nothing and false, whatever is asked or done. -/
import Derived.Test.YteeeijbjokkomaaFr
set_option linter.unusedVariables false
set_option linter.unusedSimpArgs false
namespace Go.Proofs.Yteeeijbjokkomaa.lockNils
open Go.ChangeShapes Go.WideShapes Go.ChangeAt Go.RowKit

set_option maxRecDepth 100000 in
set_option maxHeartbeats 2000000 in
theorem walk (w : World) (x0 : AX) (w0 : AOK x0) :
    Calls Try.prog 5 #[actV x0] w fun e w' => e = .returned (.bool true) ∧ Bw w w' := by
  unfold actV
  obtain ⟨d, m, t, n, b⟩ := x0
  simp only
  clear w0
  go_enter Try.func5, Try.ntmps5
  go_wp2_with (first
    | (go_at_call 12; refine (Make_nil _).mono ?_; rintro e w1 ⟨rfl, hw⟩; subst w1)
    | (go_at_call 14; refine (Notify_nil _ _ _ _).mono ?_; rintro e w9 ⟨rfl, hw⟩; subst w9)
    | (go_at_call 15; refine (Woken_nil _ _).mono ?_; rintro e w9 ⟨rfl, hw⟩; subst w9)
    | (go_at_call 16; refine (Owner_nil _ _).mono ?_; rintro e w9 ⟨rfl, hw⟩; subst w9)
    | (go_at_call 17; refine (Next_nil _).mono ?_; rintro e w9 ⟨rfl, hw⟩; subst w9)
    | (go_at_call 18; refine (Drop_nil _ _).mono ?_; rintro e w9 ⟨rfl, hw⟩; subst w9)
    | (go_at_call 19; refine (Expire_nil _ _).mono ?_; rintro e w9 ⟨rfl, hw⟩; subst w9)
    | (go_at_call 20; refine (Free_nil _ _ _).mono ?_; rintro e w9 ⟨rfl, hw⟩; subst w9)
    | (go_at_call 21; refine (Lock_nil _ _ _).mono ?_; rintro e w9 ⟨rfl, hw⟩; subst w9)
    | (go_at_call 22; refine (Unlock_nil _ _ _).mono ?_; rintro e w9 ⟨rfl, hw⟩; subst w9)
    | (go_at_call 23; refine (Wait_nil _ _ _ _).mono ?_; rintro e w9 ⟨rfl, hw⟩; subst w9)
    | (go_at_call 24; refine (Relock_nil _ _).mono ?_; rintro e w9 ⟨rfl, hw⟩; subst w9)
    | (go_at_call 13; refine (num_any _ _).mono ?_; rintro e w9 ⟨rfl, hw⟩; subst w9)
    | (go_at_call 8; refine (live_any _).mono ?_; rintro e w2 ⟨rfl, hb2⟩)
    | fail)
  all_goals go_ret
  all_goals exact ⟨rfl, Bw.trans (by repeat (first | exact Bw.refl _ | apply Bw.lay | apply Bw.alloc | apply Bw.drewN | apply Bw.drew)) hb2⟩

set_option maxRecDepth 100000 in
theorem lifted (os : Os) (started : os.Started) (H : Type) (enc : TypeId × Value → H) :
    ReturnsInHanded {} Try.checked os 5 .any (Rows.lockNilsSpec.pre6 enc Try.prog Try.f5 Rows.lockNilsRow.domain false) (Rows.lockNilsSpec.post enc Try.prog Try.f5 false true false false) := by
  refine returnsInHanded_of_change (C := Try.checked) ownK started (by kernel_rfl) Try.func5
    (ChangeSpec.witness6 (enc := enc) (C := Try.checked) false ⟨#[], #[.agg #[.int .i64 0, .int .i64 0, .int .i64 0, .int .i64 0, .bool false]], []⟩ 8 (by kernel_rfl) (by kernel_rfl) (by kernel_rfl) (by kernel_rfl)) ?_
  intro W base args ds gs before hval0 hW hcnd _
  have hval : ∀ (j : Nat) t v, Try.f5.params[j]? = some t → args[j]? = some v → Value.okWide Try.prog W .any base t v := hval0
  have hW' := hW
  obtain ⟨p, q, hA0, hV, rfl, hfz, hnd⟩ := hW
  have hA : DataW.TrodAll enc Try.prog W 0 (fun _ => true) true Try.f5.params.toList args.toList ds p := hA0
  rw [Try.params5] at hA hval
  obtain ⟨v0, vs0, d0, ds0, p0, q0, hargs, rfl, rfl, h0, r0⟩ := trodAll_cons hA
  obtain ⟨rfl, rfl, rfl⟩ := trodAll_nil r0
  obtain rfl : args = #[v0] := by cases args; simp_all
  obtain ⟨rfl, rfl⟩ := trodVars_none hV
  have k0 := h0
  have lt0 : ∀ x ∈ p0, x.block < W.heap.size := by obtain ⟨m, hm⟩ := k0; exact DataW.trod_lt m _ _ _ hm
  obtain ⟨x0, rfl, w0⟩ := open_act (hval 0 33 v0 rfl rfl) h0
  clear hA0 hval0
  refine (walk W x0 w0).mono fun e W' ⟨he, bel⟩ => ?_
  subst he
  exact ⟨_, rfl, _, _, _, [], _, [], hW', trodAll_mk1 (shut_bool Try.underlying4 _), (trodAll_cons_mk (Below.trod laidOut (by kernel_rfl) (of_decide_eq_true (by kernel_rfl)) k0 bel lt0) trodAll_mk0), rfl, Below.frame bel _, fun h => by cases h⟩

theorem over : Rows.lockNilsRow.holds Try.pinned (OpenSpec.ofChange Rows.lockNilsSpec) :=
  OpenClaim.holds_of_wide 5 Try.f5 rfl rfl rfl rfl rfl rfl rfl ⟨rfl, rfl, rfl, rfl, rfl⟩ rfl rfl rfl rfl rfl (by kernel_rfl) Try.func5 (by kernel_rfl)
    (of_decide_eq_true (by kernel_rfl)) (by unfold Func.isWrapper; first | (rw [if_pos (by decide +kernel)]; kernel_rfl) | (rw [if_neg (by decide +kernel)]; exact ⟨rfl, rfl⟩))
    (fun os started H enc _ => lifted os started H enc)

theorem proved : Rows.LockNilsSaid := over
end Go.Proofs.Yteeeijbjokkomaa.lockNils
namespace Go.Proofs.Yteeeijbjokkomaa
theorem lockNils_holds : Rows.LockNilsSaid := lockNils.proved
#print axioms lockNils_holds
end Go.Proofs.Yteeeijbjokkomaa
