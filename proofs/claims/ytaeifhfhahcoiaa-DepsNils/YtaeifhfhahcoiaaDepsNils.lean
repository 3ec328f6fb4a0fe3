/- A nil registry answers ErrNil, zeros and nothing, whatever is done or asked. -/
import Derived.Test.YtaeifhfhahcoiaaFr
set_option linter.unusedVariables false
set_option linter.unusedSimpArgs false
namespace Go.Proofs.Ytaeifhfhahcoiaa.depsNils
open Go.ChangeShapes Go.WideShapes Go.ChangeAt Go.RowKit

set_option maxRecDepth 100000 in
set_option maxHeartbeats 2000000 in
theorem walk (w : World) (x0 : AX) (w0 : AOK w x0) :
    Calls Try.prog 4 #[actV x0] w fun e w' => e = .returned (.bool true) ∧ Bw w w' := by
  unfold actV
  obtain ⟨d, f, lv, l, v⟩ := x0
  simp only
  clear w0
  go_enter Try.func4, Try.ntmps4
  go_wp2_with (first
    | (go_at_call 16; refine (Add_nil _ _ _).mono ?_; rintro e w1 ⟨rfl, hw⟩; subst w1)
    | (go_at_call 17; refine (Wrote_nil _ _ _).mono ?_; rintro e w1 ⟨rfl, hw⟩; subst w1)
    | (go_at_call 18; refine (Versions_nil _ (.bool true) _).mono ?_; rintro e w1 ⟨rfl, hw⟩; subst w1)
    | (go_at_call 19; refine (Of_nil _ (.bool true) _).mono ?_; rintro e w1 ⟨rfl, hw⟩; subst w1)
    | (go_at_call 20; refine (On_nil _ (.bool true) _).mono ?_; rintro e w1 ⟨rfl, hw⟩; subst w1)
    | (go_at_call 15; refine (Valid_nil _ (.bool true) _).mono ?_; rintro e w1 ⟨rfl, hw⟩; subst w1)
    | (go_at_call 21; refine (Drop_nil _ (.bool true) _).mono ?_; rintro e w1 ⟨rfl, hw⟩; subst w1)
    | (go_at_call 12; refine (num_any _ _).mono ?_; rintro e w1 ⟨rfl, hw⟩; subst w1)
    | (go_at_call 9; refine (live_any _).mono ?_; rintro e w2 ⟨rfl, hb2⟩)
    | fail)
  all_goals go_ret
  all_goals exact ⟨rfl, Bw.trans (Bw.alloc (Bw.refl w) _) hb2⟩

set_option maxRecDepth 100000 in
theorem lifted (os : Os) (started : os.Started) (H : Type) (enc : TypeId × Value → H) :
    ReturnsInHanded {} Try.checked os 4 .any (Rows.depsNilsSpec.pre6 enc Try.prog Try.f4 Rows.depsNilsRow.domain false) (Rows.depsNilsSpec.post enc Try.prog Try.f4 false true false false) := by
  refine returnsInHanded_of_change (C := Try.checked) ownK started (by kernel_rfl) Try.func4
    (ChangeSpec.witness6 (enc := enc) (C := Try.checked) false ⟨#[], #[.agg #[.int .i64 0, .int .i64 0, .slice none 0 0, .int .u64 0]], []⟩ 8 (by kernel_rfl) (by kernel_rfl) (by kernel_rfl) (by kernel_rfl)) ?_
  intro W base args ds gs before hval0 hW hcnd _
  have hval : ∀ (j : Nat) t v, Try.f4.params[j]? = some t → args[j]? = some v → Value.okWide Try.prog W .any base t v := hval0
  have hW' := hW
  obtain ⟨p, q, hA0, hV, rfl, hfz, hnd⟩ := hW
  have hA : DataW.TrodAll enc Try.prog W 0 (fun _ => true) true Try.f4.params.toList args.toList ds p := hA0
  rw [Try.params4] at hA hval
  obtain ⟨v0, vs0, d0, ds0, p0, q0, hargs, rfl, rfl, h0, r0⟩ := trodAll_cons hA
  obtain ⟨rfl, rfl, rfl⟩ := trodAll_nil r0
  obtain rfl : args = #[v0] := by cases args; simp_all
  obtain ⟨rfl, rfl⟩ := trodVars_none hV
  have k0 := h0
  have lt0 : ∀ x ∈ p0, x.block < W.heap.size := by obtain ⟨m, hm⟩ := k0; exact DataW.trod_lt m _ _ _ hm
  obtain ⟨x0, rfl, w0⟩ := open_act (hval 0 41 v0 rfl rfl) h0
  clear hA0 hval0
  refine (walk W x0 w0).mono fun e W' ⟨he, bel⟩ => ?_
  subst he
  exact ⟨_, rfl, _, _, _, [], _, [], hW', trodAll_mk1 (shut_bool Try.underlying4 _), (trodAll_cons_mk (Below.trod laidOut (by kernel_rfl) (of_decide_eq_true (by kernel_rfl)) k0 bel lt0) trodAll_mk0), rfl, Below.frame bel _, fun h => by cases h⟩

theorem over : Rows.depsNilsRow.holds Try.pinned (OpenSpec.ofChange Rows.depsNilsSpec) :=
  OpenClaim.holds_of_wide 4 Try.f4 rfl rfl rfl rfl rfl rfl rfl ⟨rfl, rfl, rfl, rfl, rfl⟩ rfl rfl rfl rfl rfl (by kernel_rfl) Try.func4 (by kernel_rfl)
    (of_decide_eq_true (by kernel_rfl)) (by unfold Func.isWrapper; first | (rw [if_pos (by decide +kernel)]; kernel_rfl) | (rw [if_neg (by decide +kernel)]; exact ⟨rfl, rfl⟩))
    (fun os started H enc _ => lifted os started H enc)

theorem proved : Rows.DepsNilsSaid := over
end Go.Proofs.Ytaeifhfhahcoiaa.depsNils
namespace Go.Proofs.Ytaeifhfhahcoiaa
theorem depsNils_holds : Rows.DepsNilsSaid := depsNils.proved
#print axioms depsNils_holds
end Go.Proofs.Ytaeifhfhahcoiaa
