/- For every three ints the statement TagRules of layer 1 answers true: sums and products of numbers may be taken in whatever order and go through one another; no condition. -/
import Derived.Test.YtfkbodofdpgakabRows
import Derived.Test.YtfkbodofdpgakabW3
import Derived.WalkKit
import Derived.ProofKit
import Derived.OpenShut
namespace Go.Proofs.Ytfkbodofdpgakab.tagRules
open Go.ChangeShapes Go.WideShapes Go.ChangeAt Go.RowKit
set_option linter.unusedVariables false      -- a walk need not use every 'w<i>' (that an integer argument fits its kind)

theorem own : ownKnob Try.prog.godebug = none := by kernel_rfl

theorem addV_mk (x y : Int) : addV (mk x) (mk y) = mk (x + y) := by
  obtain ⟨j, hj⟩ := nm_mk x
  obtain ⟨k, hk⟩ := nm_mk y
  rw [addV, if_pos ⟨mk_N x, mk_N y⟩]
  exact mk_congr _ _ (j + k) (by omega)
theorem subV_mk (x y : Int) : subV (mk x) (mk y) = mk (x - y) := by
  obtain ⟨j, hj⟩ := nm_mk x
  obtain ⟨k, hk⟩ := nm_mk y
  rw [subV, if_pos ⟨mk_N x, mk_N y⟩]
  exact mk_congr _ _ (j - k) (by omega)
theorem negV_mk (x : Int) : negV (mk x) = mk (- x) := by
  obtain ⟨j, hj⟩ := nm_mk x
  rw [show negV (mk x) = mk (- nm (mk x)) from if_pos (mk_N x)]
  exact mk_congr _ _ (- j) (by omega)
theorem mulV_mk (x y : Int) : mulV (mk x) (mk y) = mk (x * y) := by
  obtain ⟨j, hj⟩ := nm_mk x
  obtain ⟨k, hk⟩ := nm_mk y
  rw [mulV, if_pos ⟨mk_N x, mk_N y⟩, hj, hk]
  refine mk_congr _ _ (x * k + j * y + 4611686018427387904 * (j * k)) ?_
  rw [Int.add_mul, Int.mul_add, Int.mul_add]
  simp only [Int.mul_add, Int.mul_assoc, Int.mul_left_comm x 4611686018427387904 k, Int.mul_left_comm j 4611686018427387904 k]
  omega
theorem add_mk (x y : Int) (w : World) : Calls Try.prog 9 #[.int .u64 (mk x), .int .u64 (mk y)] w fun e w' => e = .returned (.tuple #[.int .u64 (mk (x + y)), .int .i64 0]) ∧ w' = w := by
  have h := add_any (mk x) (mk y) (mk_U x) (mk_U y) w
  rw [addV_mk, er_yes (mk_N x) (mk_N y)] at h; exact h
theorem sub_mk (x y : Int) (w : World) : Calls Try.prog 11 #[.int .u64 (mk x), .int .u64 (mk y)] w fun e w' => e = .returned (.tuple #[.int .u64 (mk (x - y)), .int .i64 0]) ∧ w' = w := by
  have h := sub_any (mk x) (mk y) (mk_U x) (mk_U y) w
  rw [subV_mk, er_yes (mk_N x) (mk_N y)] at h; exact h
theorem mul_mk (x y : Int) (w : World) : Calls Try.prog 10 #[.int .u64 (mk x), .int .u64 (mk y)] w fun e w' => e = .returned (.tuple #[.int .u64 (mk (x * y)), .int .i64 0]) ∧ w' = w := by
  have h := mul_any (mk x) (mk y) (mk_U x) (mk_U y) w
  rw [mulV_mk, er_yes (mk_N x) (mk_N y)] at h; exact h
theorem neg_mk (x : Int) (w : World) : Calls Try.prog 12 #[.int .u64 (mk x)] w fun e w' => e = .returned (.tuple #[.int .u64 (mk (- x)), .int .i64 0]) ∧ w' = w := by
  have h := neg_any (mk x) (mk_U x) w
  rw [negV_mk, show erN (mk x) = 0 from if_pos (mk_N x)] at h; exact h
theorem walk (a0 : Int) (a1 : Int) (a2 : Int) (w0 : (Lit.int .i64 a0).wf = true) (w1 : (Lit.int .i64 a1).wf = true) (w2 : (Lit.int .i64 a2).wf = true) (w : World) :
    Calls Try.prog 3 #[.int .i64 a0, .int .i64 a1, .int .i64 a2] w fun e w' => e = .returned (.bool true) ∧ Grown w w' := by
  clear w0 w1 w2
  have h1 : (mk (a0 + a1) == mk (a1 + a0)) = true := by rw [Int.add_comm]; simp
  have h2 : (mk (a0 + a1 + a2) == mk (a0 + (a1 + a2))) = true := by rw [Int.add_assoc]; simp
  have h3 : (mk (a0 * a1) == mk (a1 * a0)) = true := by rw [Int.mul_comm]; simp
  have h4 : (mk (a0 * (a1 + a2)) == mk (a0 * a1 + a0 * a2)) = true := by rw [Int.mul_add]; simp
  have h5 : (mk (a0 - a1) == mk (a0 + -a1)) = true := by rw [Int.sub_eq_add_neg]; simp
  go_enter Try.func3, Try.ntmps3
  go_wp2_with (first | (go_at_call 8; refine (int_any _ _).mono ?_; rintro e w' ⟨rfl, rfl⟩) | (go_at_call 9; refine (add_mk _ _ _).mono ?_; rintro e w' ⟨rfl, rfl⟩) | (go_at_call 11; refine (sub_mk _ _ _).mono ?_; rintro e w' ⟨rfl, rfl⟩) | (go_at_call 10; refine (mul_mk _ _ _).mono ?_; rintro e w' ⟨rfl, rfl⟩) | (go_at_call 12; refine (neg_mk _ _).mono ?_; rintro e w' ⟨rfl, rfl⟩) | (go_at_call 13; refine (live_any _).mono ?_; rintro e w' ⟨rfl, rfl⟩))
  go_ret
  exact ⟨rfl, Grown.refl _⟩

set_option maxRecDepth 100000 in
theorem lifted (os : Os) (started : os.Started) (H : Type) (enc : TypeId × Value → H) :
    ReturnsInHanded {} Try.checked os 3 .any (Rows.tagRulesSpec.pre6 enc Try.prog Try.f3 Rows.tagRulesRow.domain false) (Rows.tagRulesSpec.post enc Try.prog Try.f3 false true false false) := by
  refine returnsInHanded_of_change (C := Try.checked) own started (by kernel_rfl) Try.func3
    (ChangeSpec.witness6 (enc := enc) (C := Try.checked) false ⟨#[], #[.int .i64 0, .int .i64 0, .int .i64 0], []⟩ 8 (by kernel_rfl) (by kernel_rfl) (by kernel_rfl) (by kernel_rfl)) ?_
  intro W base args ds gs before hval0 hW hcnd _
  have hval : ∀ (j : Nat) t v, Try.f3.params[j]? = some t → args[j]? = some v → Value.okWide Try.prog W .any base t v := hval0
  have hW' := hW
  obtain ⟨p, q, hA0, hV, rfl, hfz, hnd⟩ := hW
  have hA : DataW.TrodAll enc Try.prog W 0 (fun _ => true) true Try.f3.params.toList args.toList ds p := hA0
  rw [Try.params3] at hA hval
  obtain ⟨v0, vs0, d0, ds0, p0, q0, hargs, rfl, rfl, h0, r0⟩ := trodAll_cons hA
  obtain ⟨v1, vs1, d1, ds1, p1, q1, rfl, rfl, rfl, h1, r1⟩ := trodAll_cons r0
  obtain ⟨v2, vs2, d2, ds2, p2, q2, rfl, rfl, rfl, h2, r2⟩ := trodAll_cons r1
  obtain ⟨rfl, rfl, rfl⟩ := trodAll_nil r2
  obtain rfl : args = #[v0, v1, v2] := by cases args; simp_all
  obtain ⟨rfl, rfl⟩ := trodVars_none hV
  obtain ⟨a0, rfl, rfl, rfl, w0⟩ := open_int Try.underlying3 (hval 0 3 v0 rfl rfl) h0
  obtain ⟨a1, rfl, rfl, rfl, w1⟩ := open_int Try.underlying3 (hval 1 3 v1 rfl rfl) h1
  obtain ⟨a2, rfl, rfl, rfl, w2⟩ := open_int Try.underlying3 (hval 2 3 v2 rfl rfl) h2
  clear hA0 hval0
  simp only [List.append_nil] at hW'
  refine (walk a0 a1 a2 w0 w1 w2 W).mono fun e W' ⟨he, hg⟩ => ?_
  subst he
  exact ⟨_, rfl, post_of_same (pa := []) (pv := []) hW' (fun _ _ _ => (trodAll_cons_mk (shut_bool Try.underlying4 _) trodAll_mk0)) (fun sp _ => (trodAll_cons_mk (shut_int Try.underlying3 w0) (trodAll_cons_mk (shut_int Try.underlying3 w1) (trodAll_cons_mk (shut_int Try.underlying3 w2) trodAll_mk0)))) (fun _ _ => rfl) rfl
    (hg.frame _) hg.2.1 (ok_one (by kernel_rfl) rfl (okWide_bool_mk Try.underlying4 _))⟩

theorem over : Rows.tagRulesRow.holds Try.pinned (OpenSpec.ofChange Rows.tagRulesSpec) :=
  OpenClaim.holds_of_wide 3 Try.f3 rfl rfl rfl rfl rfl rfl rfl ⟨rfl, rfl, rfl, rfl, rfl⟩ rfl rfl rfl rfl rfl (by kernel_rfl) Try.func3 (by kernel_rfl)
    (of_decide_eq_true (by kernel_rfl)) (by unfold Func.isWrapper; first | (rw [if_pos (by decide +kernel)]; kernel_rfl) | (rw [if_neg (by decide +kernel)]; exact ⟨rfl, rfl⟩))
    (fun os started H enc _ => lifted os started H enc)

theorem proved : Rows.TagRulesSaid :=
  over
end Go.Proofs.Ytfkbodofdpgakab.tagRules
namespace Go.Proofs.Ytfkbodofdpgakab
theorem tagRules_holds : Rows.TagRulesSaid := tagRules.proved
#print axioms tagRules_holds
end Go.Proofs.Ytfkbodofdpgakab
