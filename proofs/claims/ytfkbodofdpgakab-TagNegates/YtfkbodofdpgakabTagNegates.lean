/- For every word of 64 bits the statement TagNegates of layer 1 answers true: the negative of the negative is the number and their sum is 0, and of all else it is ErrKind; no condition. -/
import Derived.Test.YtfkbodofdpgakabRows
import Derived.Test.YtfkbodofdpgakabW3
import Derived.WalkKit
import Derived.ProofKit
import Derived.OpenShut
namespace Go.Proofs.Ytfkbodofdpgakab.tagNegates
open Go.ChangeShapes Go.WideShapes Go.ChangeAt Go.RowKit
set_option linter.unusedVariables false      -- a walk need not use every 'w<i>' (that an integer argument fits its kind)

theorem own : ownKnob Try.prog.godebug = none := by kernel_rfl

theorem neg_twice (v : Int) (hv : U v) (hn : N v) : mk (- nm (mk (- nm v))) = v := by
  unfold U at hv; unfold N at hn; unfold mk nm; omega
theorem neg_sum (v : Int) (hv : U v) (hn : N v) : mk (nm v + nm (mk (- nm v))) = 0 := by
  unfold U at hv; unfold N at hn; unfold mk nm; omega
theorem neg_back (v : Int) (hv : U v) (hn : N v) (w : World) :
    Calls Try.prog 12 #[.int .u64 (mk (- nm v))] w fun e w' => e = .returned (.tuple #[.int .u64 v, .int .i64 0]) ∧ w' = w := by
  have h := neg_yes (mk (- nm v)) (mk_U _) (mk_N _) w
  rw [neg_twice v hv hn] at h; exact h
theorem add_back (v : Int) (hv : U v) (hn : N v) (w : World) :
    Calls Try.prog 9 #[.int .u64 v, .int .u64 (mk (- nm v))] w fun e w' => e = .returned (.tuple #[.int .u64 0, .int .i64 0]) ∧ w' = w := by
  have h := add_yes v (mk (- nm v)) hv (mk_U _) hn (mk_N _) w
  rw [neg_sum v hv hn] at h; exact h
theorem kd_yes (v : Int) (hn : N v) : kd v = 0 := if_pos hn
theorem kd_no (v : Int) (hn : ¬ N v) : (kd v != 0) = true := by
  unfold N at hn; rw [bne_iff_ne]; unfold kd
  repeat' split
  all_goals omega
theorem walk (a0 : Int) (w0 : (Lit.int .u64 a0).wf = true) (w : World) :
    Calls Try.prog 5 #[.int .u64 a0] w fun e w' => e = .returned (.bool true) ∧ Grown w w' := by
  have hv : U a0 := by have := bounds_u64 w0; exact ⟨this.1, by omega⟩
  clear w0
  by_cases hn : N a0
  · have hk := kd_yes a0 hn
    go_enter Try.func5, Try.ntmps5
    go_wp2_with fail
    refine (neg_yes _ hv hn _).mono ?_; rintro e w' ⟨rfl, rfl⟩
    go_wp2_with fail
    refine (errno_any 0 (by decide) _).mono ?_; rintro e w' ⟨rfl, rfl⟩
    go_wp2_with fail
    refine (neg_back _ hv hn _).mono ?_; rintro e w' ⟨rfl, rfl⟩
    go_wp2_with fail
    refine (add_back _ hv hn _).mono ?_; rintro e w' ⟨rfl, rfl⟩
    go_wp2_with (first | (go_at_call 17; refine (errno_any 0 (by decide) _).mono ?_; rintro e w' ⟨rfl, rfl⟩) | (go_at_call 18; refine (kind_any _ hv _).mono ?_; rintro e w' ⟨rfl, rfl⟩) | (go_at_call 13; refine (live_any _).mono ?_; rintro e w' ⟨rfl, rfl⟩))
    go_ret
    exact ⟨rfl, Grown.refl _⟩
  · have hk := kd_no a0 hn
    go_enter Try.func5, Try.ntmps5
    go_wp2_with fail
    refine (neg_no _ hv hn _).mono ?_; rintro e w' ⟨rfl, rfl⟩
    go_wp2_with (first | (go_at_call 17; refine (errno_any 8 (by decide) _).mono ?_; rintro e w' ⟨rfl, rfl⟩) | (go_at_call 18; refine (kind_any _ hv _).mono ?_; rintro e w' ⟨rfl, rfl⟩) | (go_at_call 13; refine (live_any _).mono ?_; rintro e w' ⟨rfl, rfl⟩))
    go_ret
    exact ⟨rfl, Grown.refl _⟩

set_option maxRecDepth 100000 in
theorem lifted (os : Os) (started : os.Started) (H : Type) (enc : TypeId × Value → H) :
    ReturnsInHanded {} Try.checked os 5 .any (Rows.tagNegatesSpec.pre6 enc Try.prog Try.f5 Rows.tagNegatesRow.domain false) (Rows.tagNegatesSpec.post enc Try.prog Try.f5 false true false false) := by
  refine returnsInHanded_of_change (C := Try.checked) own started (by kernel_rfl) Try.func5
    (ChangeSpec.witness6 (enc := enc) (C := Try.checked) false ⟨#[], #[.int .u64 0], []⟩ 8 (by kernel_rfl) (by kernel_rfl) (by kernel_rfl) (by kernel_rfl)) ?_
  intro W base args ds gs before hval0 hW hcnd _
  have hval : ∀ (j : Nat) t v, Try.f5.params[j]? = some t → args[j]? = some v → Value.okWide Try.prog W .any base t v := hval0
  have hW' := hW
  obtain ⟨p, q, hA0, hV, rfl, hfz, hnd⟩ := hW
  have hA : DataW.TrodAll enc Try.prog W 0 (fun _ => true) true Try.f5.params.toList args.toList ds p := hA0
  rw [Try.params5] at hA hval
  obtain ⟨v0, vs0, d0, ds0, p0, q0, hargs, rfl, rfl, h0, r0⟩ := trodAll_cons hA
  obtain ⟨rfl, rfl, rfl⟩ := trodAll_nil r0
  obtain rfl : args = #[v0] := by cases args; simp_all
  obtain ⟨rfl, rfl⟩ := trodVars_none hV
  obtain ⟨a0, rfl, rfl, rfl, w0⟩ := open_int Try.underlying23 (hval 0 23 v0 rfl rfl) h0
  clear hA0 hval0
  simp only [List.append_nil] at hW'
  refine (walk a0 w0 W).mono fun e W' ⟨he, hg⟩ => ?_
  subst he
  exact ⟨_, rfl, post_of_same (pa := []) (pv := []) hW' (fun _ _ _ => (trodAll_cons_mk (shut_bool Try.underlying4 _) trodAll_mk0)) (fun sp _ => (trodAll_cons_mk (shut_int Try.underlying23 w0) trodAll_mk0)) (fun _ _ => rfl) rfl
    (hg.frame _) hg.2.1 (ok_one (by kernel_rfl) rfl (okWide_bool_mk Try.underlying4 _))⟩

theorem over : Rows.tagNegatesRow.holds Try.pinned (OpenSpec.ofChange Rows.tagNegatesSpec) :=
  OpenClaim.holds_of_wide 5 Try.f5 rfl rfl rfl rfl rfl rfl rfl ⟨rfl, rfl, rfl, rfl, rfl⟩ rfl rfl rfl rfl rfl (by kernel_rfl) Try.func5 (by kernel_rfl)
    (of_decide_eq_true (by kernel_rfl)) (by unfold Func.isWrapper; first | (rw [if_pos (by decide +kernel)]; kernel_rfl) | (rw [if_neg (by decide +kernel)]; exact ⟨rfl, rfl⟩))
    (fun os started H enc _ => lifted os started H enc)

theorem proved : Rows.TagNegatesSaid :=
  over
end Go.Proofs.Ytfkbodofdpgakab.tagNegates
namespace Go.Proofs.Ytfkbodofdpgakab
theorem tagNegates_holds : Rows.TagNegatesSaid := tagNegates.proved
#print axioms tagNegates_holds
end Go.Proofs.Ytfkbodofdpgakab
