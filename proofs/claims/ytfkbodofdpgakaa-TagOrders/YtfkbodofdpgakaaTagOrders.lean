/- For every two words of 64 bits the statement TagOrders of layer 1 answers true: the program's Less is the document's, and of two numbers just one is below the other or they are the same word; no condition. -/
import Derived.Test.YtfkbodofdpgakaaRows
import Derived.Test.YtfkbodofdpgakaaRB
import Derived.WalkKit
import Derived.ProofKit
import Derived.OpenShut
namespace Go.Proofs.Ytfkbodofdpgakaa.tagOrders
open Go.ChangeShapes Go.WideShapes Go.ChangeAt Go.RowKit
set_option linter.unusedVariables false      -- a walk need not use every 'w<i>' (that an integer argument fits its kind)

theorem own : ownKnob Try.prog.godebug = none := by kernel_rfl

theorem nm_inj (a b : Int) (ha : U a) (hb : U b) (na : N a) (nb : N b) (h : nm a = nm b) : a = b := by
  rw [← mk_nm a ha na, ← mk_nm b hb nb, h]
theorem rless_yes (a b : Int) (ha : U a) (hb : U b) (na : N a) (nb : N b) (w : World) :
    Calls Try.prog 35 #[.int .u64 a, .int .u64 b] w fun e w' => e = .returned (.tuple #[.bool (ltB a b), .int .i64 0]) ∧ w' = w := by
  have h := rless_any a b ha hb w
  rw [show lessV a b = ltB a b from if_pos ⟨na, nb⟩, show er a b = 0 from if_pos ⟨na, nb⟩] at h
  exact h
theorem rless_no (a b : Int) (ha : U a) (hb : U b) (hn : ¬ (N a ∧ N b)) (w : World) :
    Calls Try.prog 35 #[.int .u64 a, .int .u64 b] w fun e w' => e = .returned (.tuple #[.bool false, .int .i64 8]) ∧ w' = w := by
  have h := rless_any a b ha hb w
  rw [show lessV a b = false from if_neg hn, show er a b = 8 from if_neg hn] at h
  exact h
/-- of two numbers just one is below the other, or they are the same word -/
theorem three (a b : Int) (ha : U a) (hb : U b) (na : N a) (nb : N b) :
    (ltB a b = true ∧ ltB b a = false ∧ (a != b) = true) ∨ (ltB a b = false ∧ ltB b a = true ∧ (a != b) = true) ∨ (ltB a b = false ∧ ltB b a = false ∧ (a != b) = false) := by
  by_cases hc : a = b
  · subst hc; right; right; simp [ltB]
  · have hd : nm a ≠ nm b := fun h => hc (nm_inj a b ha hb na nb h)
    have hq : (a != b) = true := by simpa using hc
    by_cases hl : nm a < nm b
    · left; exact ⟨decide_eq_true hl, decide_eq_false (by omega), hq⟩
    · right; left; exact ⟨decide_eq_false hl, decide_eq_true (by omega), hq⟩
theorem walk (a0 : Int) (a1 : Int) (w0 : (Lit.int .u64 a0).wf = true) (w1 : (Lit.int .u64 a1).wf = true) (w : World) :
    Calls Try.prog 7 #[.int .u64 a0, .int .u64 a1] w fun e w' => e = .returned (.bool true) ∧ Grown w w' := by
  have ha : U a0 := by have := bounds_u64 w0; exact ⟨this.1, by omega⟩
  have hb : U a1 := by have := bounds_u64 w1; exact ⟨this.1, by omega⟩
  clear w0 w1
  by_cases hn : N a0 ∧ N a1
  · obtain ⟨na, nb⟩ := hn
    rcases three a0 a1 ha hb na nb with ⟨k1, k2, k3⟩ | ⟨k1, k2, k3⟩ | ⟨k1, k2, k3⟩
    all_goals
      go_enter Try.func7, Try.ntmps7
      go_wp2_with fail
      refine (less_yes _ _ ha hb na nb _).mono ?_; rintro e w' ⟨rfl, rfl⟩
      go_wp2_with fail
      refine (rless_yes _ _ ha hb na nb _).mono ?_; rintro e w' ⟨rfl, rfl⟩
      go_wp2_with fail
      refine (less_yes _ _ hb ha nb na _).mono ?_; rintro e w' ⟨rfl, rfl⟩
      go_wp2_with (first | (go_at_call 24; refine (errno_any 0 (by decide) _).mono ?_; rintro e w' ⟨rfl, rfl⟩) | (go_at_call 17; refine (live_any _).mono ?_; rintro e w' ⟨rfl, rfl⟩))
      go_ret
      exact ⟨rfl, Grown.refl _⟩
  · have hm : ¬ (N a1 ∧ N a0) := fun h => hn ⟨h.2, h.1⟩
    go_enter Try.func7, Try.ntmps7
    go_wp2_with fail
    refine (less_no _ _ ha hb hn _).mono ?_; rintro e w' ⟨rfl, rfl⟩
    go_wp2_with fail
    refine (rless_no _ _ ha hb hn _).mono ?_; rintro e w' ⟨rfl, rfl⟩
    go_wp2_with fail
    refine (less_no _ _ hb ha hm _).mono ?_; rintro e w' ⟨rfl, rfl⟩
    go_wp2_with (first | (go_at_call 24; refine (errno_any 8 (by decide) _).mono ?_; rintro e w' ⟨rfl, rfl⟩) | (go_at_call 17; refine (live_any _).mono ?_; rintro e w' ⟨rfl, rfl⟩))
    go_ret
    exact ⟨rfl, Grown.refl _⟩

set_option maxRecDepth 100000 in
theorem lifted (os : Os) (started : os.Started) (H : Type) (enc : TypeId × Value → H) :
    ReturnsInHanded {} Try.checked os 7 .any (Rows.tagOrdersSpec.pre6 enc Try.prog Try.f7 Rows.tagOrdersRow.domain false) (Rows.tagOrdersSpec.post enc Try.prog Try.f7 false true false false) := by
  refine returnsInHanded_of_change (C := Try.checked) own started (by kernel_rfl) Try.func7
    (ChangeSpec.witness6 (enc := enc) (C := Try.checked) false ⟨#[], #[.int .u64 0, .int .u64 0], []⟩ 8 (by kernel_rfl) (by kernel_rfl) (by kernel_rfl) (by kernel_rfl)) ?_
  intro W base args ds gs before hval0 hW hcnd _
  have hval : ∀ (j : Nat) t v, Try.f7.params[j]? = some t → args[j]? = some v → Value.okWide Try.prog W .any base t v := hval0
  have hW' := hW
  obtain ⟨p, q, hA0, hV, rfl, hfz, hnd⟩ := hW
  have hA : DataW.TrodAll enc Try.prog W 0 (fun _ => true) true Try.f7.params.toList args.toList ds p := hA0
  rw [Try.params7] at hA hval
  obtain ⟨v0, vs0, d0, ds0, p0, q0, hargs, rfl, rfl, h0, r0⟩ := trodAll_cons hA
  obtain ⟨v1, vs1, d1, ds1, p1, q1, rfl, rfl, rfl, h1, r1⟩ := trodAll_cons r0
  obtain ⟨rfl, rfl, rfl⟩ := trodAll_nil r1
  obtain rfl : args = #[v0, v1] := by cases args; simp_all
  obtain ⟨rfl, rfl⟩ := trodVars_none hV
  obtain ⟨a0, rfl, rfl, rfl, w0⟩ := open_int Try.underlying23 (hval 0 23 v0 rfl rfl) h0
  obtain ⟨a1, rfl, rfl, rfl, w1⟩ := open_int Try.underlying23 (hval 1 23 v1 rfl rfl) h1
  clear hA0 hval0
  simp only [List.append_nil] at hW'
  refine (walk a0 a1 w0 w1 W).mono fun e W' ⟨he, hg⟩ => ?_
  subst he
  exact ⟨_, rfl, post_of_same (pa := []) (pv := []) hW' (fun _ _ _ => (trodAll_cons_mk (shut_bool Try.underlying4 _) trodAll_mk0)) (fun sp _ => (trodAll_cons_mk (shut_int Try.underlying23 w0) (trodAll_cons_mk (shut_int Try.underlying23 w1) trodAll_mk0))) (fun _ _ => rfl) rfl
    (hg.frame _) hg.2.1 (ok_one (by kernel_rfl) rfl (okWide_bool_mk Try.underlying4 _))⟩

theorem over : Rows.tagOrdersRow.holds Try.pinned (OpenSpec.ofChange Rows.tagOrdersSpec) :=
  OpenClaim.holds_of_wide 7 Try.f7 rfl rfl rfl rfl rfl rfl rfl ⟨rfl, rfl, rfl, rfl, rfl⟩ rfl rfl rfl rfl rfl (by kernel_rfl) Try.func7 (by kernel_rfl)
    (of_decide_eq_true (by kernel_rfl)) (by unfold Func.isWrapper; first | (rw [if_pos (by decide +kernel)]; kernel_rfl) | (rw [if_neg (by decide +kernel)]; exact ⟨rfl, rfl⟩))
    (fun os started H enc _ => lifted os started H enc)

theorem proved : Rows.TagOrdersSaid :=
  over
end Go.Proofs.Ytfkbodofdpgakaa.tagOrders
namespace Go.Proofs.Ytfkbodofdpgakaa
theorem tagOrders_holds : Rows.TagOrdersSaid := tagOrders.proved
#print axioms tagOrders_holds
end Go.Proofs.Ytfkbodofdpgakaa
