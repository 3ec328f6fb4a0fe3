/- For every two ints the statement TagApart of layer 1 answers true: references, primitives and numbers with one index are unlike, and unlike indexes make unlike values; no condition. -/
import Derived.Test.YtfkbodofdpgakabRows
import Derived.Test.YtfkbodofdpgakabW3
import Derived.WalkKit
import Derived.ProofKit
import Derived.OpenShut
namespace Go.Proofs.Ytfkbodofdpgakab.tagApart
open Go.ChangeShapes Go.WideShapes Go.ChangeAt Go.RowKit
set_option linter.unusedVariables false      -- a walk need not use every 'w<i>' (that an integer argument fits its kind)

theorem own : ownKnob Try.prog.godebug = none := by kernel_rfl

theorem apart_ref (i : Int) (h0 : 0 ≤ i) (h1 : i ≤ 2147483647) : (4 * i + 2 != mk i) = true := by rw [bne_iff_ne]; unfold mk; omega
theorem apart_prim (i : Int) (h0 : 0 ≤ i) (h1 : i ≤ 2147483647) : (4 * i + 3 != mk i) = true := by rw [bne_iff_ne]; unfold mk; omega
theorem apart_two (i : Int) : (4 * i + 2 != 4 * i + 3) = true := by rw [bne_iff_ne]; omega
theorem tru_ref (i : Int) (h0 : 0 ≤ i) : tru (4 * i + 2) = true := by
  have h1 : (4 * i + 2 != 1) = true := by rw [bne_iff_ne]; omega
  have h2 : (4 * i + 2 != 5) = true := by rw [bne_iff_ne]; omega
  rw [tru, h1, h2]; rfl
theorem tru_prim (i : Int) (h0 : 0 ≤ i) : tru (4 * i + 3) = true := by
  have h1 : (4 * i + 3 != 1) = true := by rw [bne_iff_ne]; omega
  have h2 : (4 * i + 3 != 5) = true := by rw [bne_iff_ne]; omega
  rw [tru, h1, h2]; rfl
theorem walk (a0 : Int) (a1 : Int) (w0 : (Lit.int .i64 a0).wf = true) (w1 : (Lit.int .i64 a1).wf = true) (w : World) :
    Calls Try.prog 7 #[.int .i64 a0, .int .i64 a1] w fun e w' => e = .returned (.bool true) ∧ Grown w w' := by
  clear w0 w1
  by_cases hi : 0 ≤ a0 ∧ a0 ≤ 2147483647
  · by_cases hk : 0 ≤ a1 ∧ a1 ≤ 2147483647
    · obtain ⟨i0, i1⟩ := hi
      obtain ⟨k0, k1⟩ := hk
      have q1 := apart_ref a0 i0 i1
      have q2 := apart_prim a0 i0 i1
      have q3 := apart_two a0
      have q4 := tru_ref a0 i0
      have q5 := tru_prim a0 i0
      have q6 : (4 * a0 + 2 == 4 * a1 + 2) = (a0 == a1) := by rw [Bool.eq_iff_iff, beq_iff_eq, beq_iff_eq]; omega
      have q7 : (4 * a0 + 3 == 4 * a1 + 3) = (a0 == a1) := by rw [Bool.eq_iff_iff, beq_iff_eq, beq_iff_eq]; omega
      go_enter Try.func7, Try.ntmps7
      go_wp2_with fail
      refine (ref_yes _ i0 i1 _).mono ?_; rintro e w' ⟨rfl, rfl⟩
      go_wp2_with fail
      refine (prim_yes _ i0 i1 _).mono ?_; rintro e w' ⟨rfl, rfl⟩
      go_wp2_with fail
      refine (ref_yes _ k0 k1 _).mono ?_; rintro e w' ⟨rfl, rfl⟩
      go_wp2_with fail
      refine (prim_yes _ k0 k1 _).mono ?_; rintro e w' ⟨rfl, rfl⟩
      go_wp2_with (first | (go_at_call 17; refine (errno_any 0 (by decide) _).mono ?_; rintro e w' ⟨rfl, rfl⟩) | (go_at_call 8; refine (int_any _ _).mono ?_; rintro e w' ⟨rfl, rfl⟩) | (go_at_call 22; refine (truth_any _ _).mono ?_; rintro e w' ⟨rfl, rfl⟩) | (go_at_call 13; refine (live_any _).mono ?_; rintro e w' ⟨rfl, rfl⟩))
      go_ret
      exact ⟨rfl, Grown.refl _⟩
    · obtain ⟨i0, i1⟩ := hi
      have hk' : a1 < 0 ∨ 2147483647 < a1 := by omega
      clear hk
      go_enter Try.func7, Try.ntmps7
      go_wp2_with fail
      refine (ref_yes _ i0 i1 _).mono ?_; rintro e w' ⟨rfl, rfl⟩
      go_wp2_with fail
      refine (prim_yes _ i0 i1 _).mono ?_; rintro e w' ⟨rfl, rfl⟩
      go_wp2_with fail
      refine (ref_no _ hk' _).mono ?_; rintro e w' ⟨rfl, rfl⟩
      go_wp2_with fail
      refine (prim_no _ hk' _).mono ?_; rintro e w' ⟨rfl, rfl⟩
      go_wp2_with (first | (go_at_call 17; refine (errno_any _ (by decide) _).mono ?_; rintro e w' ⟨rfl, rfl⟩) | (go_at_call 13; refine (live_any _).mono ?_; rintro e w' ⟨rfl, rfl⟩))
      go_ret
      exact ⟨rfl, Grown.refl _⟩
  · have hi' : a0 < 0 ∨ 2147483647 < a0 := by omega
    clear hi
    by_cases hk : 0 ≤ a1 ∧ a1 ≤ 2147483647
    · obtain ⟨k0, k1⟩ := hk
      go_enter Try.func7, Try.ntmps7
      go_wp2_with fail
      refine (ref_no _ hi' _).mono ?_; rintro e w' ⟨rfl, rfl⟩
      go_wp2_with fail
      refine (prim_no _ hi' _).mono ?_; rintro e w' ⟨rfl, rfl⟩
      go_wp2_with fail
      refine (ref_yes _ k0 k1 _).mono ?_; rintro e w' ⟨rfl, rfl⟩
      go_wp2_with fail
      refine (prim_yes _ k0 k1 _).mono ?_; rintro e w' ⟨rfl, rfl⟩
      go_wp2_with (first | (go_at_call 17; refine (errno_any _ (by decide) _).mono ?_; rintro e w' ⟨rfl, rfl⟩) | (go_at_call 13; refine (live_any _).mono ?_; rintro e w' ⟨rfl, rfl⟩))
      go_ret
      exact ⟨rfl, Grown.refl _⟩
    · have hk' : a1 < 0 ∨ 2147483647 < a1 := by omega
      clear hk
      go_enter Try.func7, Try.ntmps7
      go_wp2_with fail
      refine (ref_no _ hi' _).mono ?_; rintro e w' ⟨rfl, rfl⟩
      go_wp2_with fail
      refine (prim_no _ hi' _).mono ?_; rintro e w' ⟨rfl, rfl⟩
      go_wp2_with fail
      refine (ref_no _ hk' _).mono ?_; rintro e w' ⟨rfl, rfl⟩
      go_wp2_with fail
      refine (prim_no _ hk' _).mono ?_; rintro e w' ⟨rfl, rfl⟩
      go_wp2_with (first | (go_at_call 17; refine (errno_any _ (by decide) _).mono ?_; rintro e w' ⟨rfl, rfl⟩) | (go_at_call 13; refine (live_any _).mono ?_; rintro e w' ⟨rfl, rfl⟩))
      go_ret
      exact ⟨rfl, Grown.refl _⟩

set_option maxRecDepth 100000 in
theorem lifted (os : Os) (started : os.Started) (H : Type) (enc : TypeId × Value → H) :
    ReturnsInHanded {} Try.checked os 7 .any (Rows.tagApartSpec.pre6 enc Try.prog Try.f7 Rows.tagApartRow.domain false) (Rows.tagApartSpec.post enc Try.prog Try.f7 false true false false) := by
  refine returnsInHanded_of_change (C := Try.checked) own started (by kernel_rfl) Try.func7
    (ChangeSpec.witness6 (enc := enc) (C := Try.checked) false ⟨#[], #[.int .i64 0, .int .i64 0], []⟩ 8 (by kernel_rfl) (by kernel_rfl) (by kernel_rfl) (by kernel_rfl)) ?_
  intro W base args ds gs before hval0 hW hcnd _
  have hval : ∀ (j : Nat) t v, Try.f7.params[j]? = some t → args[j]? = some v → Value.okWide Try.prog W .any base t v := hval0
  have hW' := hW
  obtain ⟨p, q, hA0, hV, rfl, hfz, hnd⟩ := hW
  have hA : DataW.TrodAll enc Try.prog W 0 (fun _ => true) true Try.f7.params.toList args.toList ds p := hA0
  rw [Try.params7] at hA hval
  obtain ⟨v0, vs0, d0, ds0, p0, q0, hargs, rfl, rfl, h0, r0⟩ := trodAll_cons hA
  obtain ⟨v1, vs1, d1, ds1, p1, q1, rfl, rfl, rfl, h1, r1⟩ := trodAll_cons r0
  obtain ⟨rfl, rfl, rfl⟩ := trodAll_nil r1
  obtain rfl : args = #[v0, v1] := by cases args; simp_all
  obtain ⟨rfl, rfl⟩ := trodVars_none hV
  obtain ⟨a0, rfl, rfl, rfl, w0⟩ := open_int Try.underlying3 (hval 0 3 v0 rfl rfl) h0
  obtain ⟨a1, rfl, rfl, rfl, w1⟩ := open_int Try.underlying3 (hval 1 3 v1 rfl rfl) h1
  clear hA0 hval0
  simp only [List.append_nil] at hW'
  refine (walk a0 a1 w0 w1 W).mono fun e W' ⟨he, hg⟩ => ?_
  subst he
  exact ⟨_, rfl, post_of_same (pa := []) (pv := []) hW' (fun _ _ _ => (trodAll_cons_mk (shut_bool Try.underlying4 _) trodAll_mk0)) (fun sp _ => (trodAll_cons_mk (shut_int Try.underlying3 w0) (trodAll_cons_mk (shut_int Try.underlying3 w1) trodAll_mk0))) (fun _ _ => rfl) rfl
    (hg.frame _) hg.2.1 (ok_one (by kernel_rfl) rfl (okWide_bool_mk Try.underlying4 _))⟩

theorem over : Rows.tagApartRow.holds Try.pinned (OpenSpec.ofChange Rows.tagApartSpec) :=
  OpenClaim.holds_of_wide 7 Try.f7 rfl rfl rfl rfl rfl rfl rfl ⟨rfl, rfl, rfl, rfl, rfl⟩ rfl rfl rfl rfl rfl (by kernel_rfl) Try.func7 (by kernel_rfl)
    (of_decide_eq_true (by kernel_rfl)) (by unfold Func.isWrapper; first | (rw [if_pos (by decide +kernel)]; kernel_rfl) | (rw [if_neg (by decide +kernel)]; exact ⟨rfl, rfl⟩))
    (fun os started H enc _ => lifted os started H enc)

theorem proved : Rows.TagApartSaid :=
  over
end Go.Proofs.Ytfkbodofdpgakab.tagApart
namespace Go.Proofs.Ytfkbodofdpgakab
theorem tagApart_holds : Rows.TagApartSaid := tagApart.proved
#print axioms tagApart_holds
end Go.Proofs.Ytfkbodofdpgakab
