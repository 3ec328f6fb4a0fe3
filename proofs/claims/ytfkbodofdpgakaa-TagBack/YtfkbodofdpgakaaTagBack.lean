/- For every word of 64 bits and every int the statement TagBack of layer 1 answers true: numbers, references and primitives are told and made again, and have their kinds; no condition. -/
import Derived.Test.YtfkbodofdpgakaaRows
import Derived.Test.YtfkbodofdpgakaaRB
import Derived.WalkKit
import Derived.ProofKit
import Derived.OpenShut
namespace Go.Proofs.Ytfkbodofdpgakaa.tagBack
open Go.ChangeShapes Go.WideShapes Go.ChangeAt Go.RowKit
set_option linter.unusedVariables false      -- a walk need not use every 'w<i>' (that an integer argument fits its kind)

theorem own : ownKnob Try.prog.godebug = none := by kernel_rfl

theorem kd_ref (i : Int) (h0 : 0 ≤ i) (h1 : i ≤ 2147483647) : kd (4 * i + 2) = 2 := by
  unfold kd; rw [if_neg (by omega), if_neg (by omega), if_pos (by omega)]; omega
theorem kd_prim (i : Int) (h0 : 0 ≤ i) (h1 : i ≤ 2147483647) : kd (4 * i + 3) = 3 := by
  unfold kd; rw [if_neg (by omega), if_neg (by omega), if_pos (by omega)]; omega
theorem kd_mk (n : Int) : kd (mk n) = 0 := if_pos (mk_N n)
theorem idx_ref (i : Int) (h0 : 0 ≤ i) (h1 : i ≤ 2147483647) : idxV (4 * i + 2) = i := by
  rw [← idx_yes (Or.inl (kd_ref i h0 h1))]; omega
theorem idx_prim (i : Int) (h0 : 0 ≤ i) (h1 : i ≤ 2147483647) : idxV (4 * i + 3) = i := by
  rw [← idx_yes (Or.inr (kd_prim i h0 h1))]; omega
theorem has_ref (i : Int) (h0 : 0 ≤ i) (h1 : i ≤ 2147483647) : hasI (4 * i + 2) = true := (has_yes (Or.inl (kd_ref i h0 h1))).symm
theorem has_prim (i : Int) (h0 : 0 ≤ i) (h1 : i ≤ 2147483647) : hasI (4 * i + 3) = true := (has_yes (Or.inr (kd_prim i h0 h1))).symm
theorem int_back (v : Int) (hv : U v) (hn : N v) (w : World) :
    Calls Try.prog 22 #[.int .i64 (nm v)] w fun e w' => e = .returned (.int .u64 v) ∧ w' = w := by
  have h := int_any (nm v) w
  rw [mk_nm v hv hn] at h; exact h
theorem num_in (n : Int) (h0 : -2305843009213693952 ≤ n) (h1 : n ≤ 2305843009213693951) (w : World) :
    Calls Try.prog 9 #[.int .u64 (mk n)] w fun e w' => e = .returned (.tuple #[.int .i64 n, .bool true]) ∧ w' = w := by
  have h := num_yes (mk n) (mk_U n) (mk_N n) w
  rw [nm_mk_in n h0 h1] at h; exact h
set_option maxHeartbeats 400000 in
theorem walk_y1 (a0 a1 : Int) (hv : U a0) (hn : N a0) (r0 : 0 ≤ a1) (r1 : a1 ≤ 2147483647) (w : World) :
    Calls Try.prog 8 #[.int .u64 a0, .int .i64 a1] w fun e w' => e = .returned (.bool true) ∧ Grown w w' := by
  have b0 := nm_bd a0
  have q1 := kd_ref a1 r0 r1
  have q2 := kd_prim a1 r0 r1
  have q3 := idx_ref a1 r0 r1
  have q4 := idx_prim a1 r0 r1
  have q5 := has_ref a1 r0 r1
  have q6 := has_prim a1 r0 r1
  have q7 := kd_mk a1
  go_enter Try.func8, Try.ntmps8
  go_wp2_with fail
  refine (num_yes _ hv hn _).mono ?_; rintro e w' ⟨rfl, rfl⟩
  go_wp2_with fail
  refine (int_back _ hv hn _).mono ?_; rintro e w' ⟨rfl, rfl⟩
  go_wp2_with fail
  refine (int_any _ _).mono ?_; rintro e w' ⟨rfl, rfl⟩
  go_wp2_with fail
  refine (num_in _ (by omega) (by omega) _).mono ?_; rintro e w' ⟨rfl, rfl⟩
  go_wp2_with (first | (go_at_call 18; refine (ref_yes _ r0 r1 _).mono ?_; rintro e w' ⟨rfl, rfl⟩) | (go_at_call 20; refine (prim_yes _ r0 r1 _).mono ?_; rintro e w' ⟨rfl, rfl⟩) | (go_at_call 24; refine (errno_any 0 (by decide) _).mono ?_; rintro e w' ⟨rfl, rfl⟩) | (go_at_call 11; refine (index_any _ (by unfold U; omega) _).mono ?_; rintro e w' ⟨rfl, rfl⟩) | (go_at_call 22; refine (int_any _ _).mono ?_; rintro e w' ⟨rfl, rfl⟩) | (go_at_call 13; refine (kind_any _ (by first | exact mk_U _ | (unfold U; omega)) _).mono ?_; rintro e w' ⟨rfl, rfl⟩) | (go_at_call 17; refine (live_any _).mono ?_; rintro e w' ⟨rfl, rfl⟩))
  go_ret
  exact ⟨rfl, Grown.refl _⟩
set_option maxHeartbeats 400000 in
theorem walk_y2 (a0 a1 : Int) (hv : U a0) (hn : N a0) (r0 : -2305843009213693952 ≤ a1) (r1 : a1 < 0) (w : World) :
    Calls Try.prog 8 #[.int .u64 a0, .int .i64 a1] w fun e w' => e = .returned (.bool true) ∧ Grown w w' := by
  have b0 := nm_bd a0
  go_enter Try.func8, Try.ntmps8
  go_wp2_with fail
  refine (num_yes _ hv hn _).mono ?_; rintro e w' ⟨rfl, rfl⟩
  go_wp2_with fail
  refine (int_back _ hv hn _).mono ?_; rintro e w' ⟨rfl, rfl⟩
  go_wp2_with fail
  refine (int_any _ _).mono ?_; rintro e w' ⟨rfl, rfl⟩
  go_wp2_with fail
  refine (num_in _ (by omega) (by omega) _).mono ?_; rintro e w' ⟨rfl, rfl⟩
  go_wp2_with (first | (go_at_call 18; refine (ref_no _ (by omega) _).mono ?_; rintro e w' ⟨rfl, rfl⟩) | (go_at_call 20; refine (prim_no _ (by omega) _).mono ?_; rintro e w' ⟨rfl, rfl⟩) | (go_at_call 24; refine (errno_any 1 (by decide) _).mono ?_; rintro e w' ⟨rfl, rfl⟩) | (go_at_call 17; refine (live_any _).mono ?_; rintro e w' ⟨rfl, rfl⟩))
  go_ret
  refine ⟨ret_bool ?_, Grown.refl _⟩
  first | rfl | (rw [Bool.or_eq_true, decide_eq_true_eq, decide_eq_true_eq]; omega)
set_option maxHeartbeats 400000 in
theorem walk_y3 (a0 a1 : Int) (hv : U a0) (hn : N a0) (r0 : 2147483647 < a1) (r1 : a1 ≤ 2305843009213693951) (w : World) :
    Calls Try.prog 8 #[.int .u64 a0, .int .i64 a1] w fun e w' => e = .returned (.bool true) ∧ Grown w w' := by
  have b0 := nm_bd a0
  go_enter Try.func8, Try.ntmps8
  go_wp2_with fail
  refine (num_yes _ hv hn _).mono ?_; rintro e w' ⟨rfl, rfl⟩
  go_wp2_with fail
  refine (int_back _ hv hn _).mono ?_; rintro e w' ⟨rfl, rfl⟩
  go_wp2_with fail
  refine (int_any _ _).mono ?_; rintro e w' ⟨rfl, rfl⟩
  go_wp2_with fail
  refine (num_in _ (by omega) (by omega) _).mono ?_; rintro e w' ⟨rfl, rfl⟩
  go_wp2_with (first | (go_at_call 18; refine (ref_no _ (by omega) _).mono ?_; rintro e w' ⟨rfl, rfl⟩) | (go_at_call 20; refine (prim_no _ (by omega) _).mono ?_; rintro e w' ⟨rfl, rfl⟩) | (go_at_call 24; refine (errno_any 1 (by decide) _).mono ?_; rintro e w' ⟨rfl, rfl⟩) | (go_at_call 17; refine (live_any _).mono ?_; rintro e w' ⟨rfl, rfl⟩))
  go_ret
  refine ⟨ret_bool ?_, Grown.refl _⟩
  first | rfl | (rw [Bool.or_eq_true, decide_eq_true_eq, decide_eq_true_eq]; omega)
set_option maxHeartbeats 400000 in
theorem walk_y4 (a0 a1 : Int) (hv : U a0) (hn : N a0) (r0 : a1 < -2305843009213693952) (w : World) :
    Calls Try.prog 8 #[.int .u64 a0, .int .i64 a1] w fun e w' => e = .returned (.bool true) ∧ Grown w w' := by
  have b0 := nm_bd a0
  go_enter Try.func8, Try.ntmps8
  go_wp2_with fail
  refine (num_yes _ hv hn _).mono ?_; rintro e w' ⟨rfl, rfl⟩
  go_wp2_with fail
  refine (int_back _ hv hn _).mono ?_; rintro e w' ⟨rfl, rfl⟩
  go_wp2_with fail
  refine (int_any _ _).mono ?_; rintro e w' ⟨rfl, rfl⟩
  go_wp2_with fail
  refine (num_yes _ (mk_U _) (mk_N _) _).mono ?_; rintro e w' ⟨rfl, rfl⟩
  go_wp2_with (first | (go_at_call 18; refine (ref_no _ (by omega) _).mono ?_; rintro e w' ⟨rfl, rfl⟩) | (go_at_call 20; refine (prim_no _ (by omega) _).mono ?_; rintro e w' ⟨rfl, rfl⟩) | (go_at_call 24; refine (errno_any 1 (by decide) _).mono ?_; rintro e w' ⟨rfl, rfl⟩) | (go_at_call 17; refine (live_any _).mono ?_; rintro e w' ⟨rfl, rfl⟩))
  go_ret
  refine ⟨ret_bool ?_, Grown.refl _⟩
  first | rfl | (rw [Bool.or_eq_true, decide_eq_true_eq, decide_eq_true_eq]; omega)
set_option maxHeartbeats 400000 in
theorem walk_y5 (a0 a1 : Int) (hv : U a0) (hn : N a0) (r0 : 2305843009213693951 < a1) (w : World) :
    Calls Try.prog 8 #[.int .u64 a0, .int .i64 a1] w fun e w' => e = .returned (.bool true) ∧ Grown w w' := by
  have b0 := nm_bd a0
  go_enter Try.func8, Try.ntmps8
  go_wp2_with fail
  refine (num_yes _ hv hn _).mono ?_; rintro e w' ⟨rfl, rfl⟩
  go_wp2_with fail
  refine (int_back _ hv hn _).mono ?_; rintro e w' ⟨rfl, rfl⟩
  go_wp2_with fail
  refine (int_any _ _).mono ?_; rintro e w' ⟨rfl, rfl⟩
  go_wp2_with fail
  refine (num_yes _ (mk_U _) (mk_N _) _).mono ?_; rintro e w' ⟨rfl, rfl⟩
  go_wp2_with (first | (go_at_call 18; refine (ref_no _ (by omega) _).mono ?_; rintro e w' ⟨rfl, rfl⟩) | (go_at_call 20; refine (prim_no _ (by omega) _).mono ?_; rintro e w' ⟨rfl, rfl⟩) | (go_at_call 24; refine (errno_any 1 (by decide) _).mono ?_; rintro e w' ⟨rfl, rfl⟩) | (go_at_call 17; refine (live_any _).mono ?_; rintro e w' ⟨rfl, rfl⟩))
  go_ret
  refine ⟨ret_bool ?_, Grown.refl _⟩
  first | rfl | (rw [Bool.or_eq_true, decide_eq_true_eq, decide_eq_true_eq]; omega)
set_option maxHeartbeats 400000 in
theorem walk_n1 (a0 a1 : Int) (hv : U a0) (hn : ¬ N a0) (r0 : 0 ≤ a1) (r1 : a1 ≤ 2147483647) (w : World) :
    Calls Try.prog 8 #[.int .u64 a0, .int .i64 a1] w fun e w' => e = .returned (.bool true) ∧ Grown w w' := by
  have b0 := nm_bd a0
  have q1 := kd_ref a1 r0 r1
  have q2 := kd_prim a1 r0 r1
  have q3 := idx_ref a1 r0 r1
  have q4 := idx_prim a1 r0 r1
  have q5 := has_ref a1 r0 r1
  have q6 := has_prim a1 r0 r1
  have q7 := kd_mk a1
  go_enter Try.func8, Try.ntmps8
  go_wp2_with fail
  refine (num_no _ hv hn _).mono ?_; rintro e w' ⟨rfl, rfl⟩
  go_wp2_with fail
  refine (int_any _ _).mono ?_; rintro e w' ⟨rfl, rfl⟩
  go_wp2_with fail
  refine (num_in _ (by omega) (by omega) _).mono ?_; rintro e w' ⟨rfl, rfl⟩
  go_wp2_with (first | (go_at_call 18; refine (ref_yes _ r0 r1 _).mono ?_; rintro e w' ⟨rfl, rfl⟩) | (go_at_call 20; refine (prim_yes _ r0 r1 _).mono ?_; rintro e w' ⟨rfl, rfl⟩) | (go_at_call 24; refine (errno_any 0 (by decide) _).mono ?_; rintro e w' ⟨rfl, rfl⟩) | (go_at_call 11; refine (index_any _ (by unfold U; omega) _).mono ?_; rintro e w' ⟨rfl, rfl⟩) | (go_at_call 22; refine (int_any _ _).mono ?_; rintro e w' ⟨rfl, rfl⟩) | (go_at_call 13; refine (kind_any _ (by first | exact mk_U _ | (unfold U; omega)) _).mono ?_; rintro e w' ⟨rfl, rfl⟩) | (go_at_call 17; refine (live_any _).mono ?_; rintro e w' ⟨rfl, rfl⟩))
  go_ret
  exact ⟨rfl, Grown.refl _⟩
set_option maxHeartbeats 400000 in
theorem walk_n2 (a0 a1 : Int) (hv : U a0) (hn : ¬ N a0) (r0 : -2305843009213693952 ≤ a1) (r1 : a1 < 0) (w : World) :
    Calls Try.prog 8 #[.int .u64 a0, .int .i64 a1] w fun e w' => e = .returned (.bool true) ∧ Grown w w' := by
  have b0 := nm_bd a0
  go_enter Try.func8, Try.ntmps8
  go_wp2_with fail
  refine (num_no _ hv hn _).mono ?_; rintro e w' ⟨rfl, rfl⟩
  go_wp2_with fail
  refine (int_any _ _).mono ?_; rintro e w' ⟨rfl, rfl⟩
  go_wp2_with fail
  refine (num_in _ (by omega) (by omega) _).mono ?_; rintro e w' ⟨rfl, rfl⟩
  go_wp2_with (first | (go_at_call 18; refine (ref_no _ (by omega) _).mono ?_; rintro e w' ⟨rfl, rfl⟩) | (go_at_call 20; refine (prim_no _ (by omega) _).mono ?_; rintro e w' ⟨rfl, rfl⟩) | (go_at_call 24; refine (errno_any 1 (by decide) _).mono ?_; rintro e w' ⟨rfl, rfl⟩) | (go_at_call 17; refine (live_any _).mono ?_; rintro e w' ⟨rfl, rfl⟩))
  go_ret
  refine ⟨ret_bool ?_, Grown.refl _⟩
  first | rfl | (rw [Bool.or_eq_true, decide_eq_true_eq, decide_eq_true_eq]; omega)
set_option maxHeartbeats 400000 in
theorem walk_n3 (a0 a1 : Int) (hv : U a0) (hn : ¬ N a0) (r0 : 2147483647 < a1) (r1 : a1 ≤ 2305843009213693951) (w : World) :
    Calls Try.prog 8 #[.int .u64 a0, .int .i64 a1] w fun e w' => e = .returned (.bool true) ∧ Grown w w' := by
  have b0 := nm_bd a0
  go_enter Try.func8, Try.ntmps8
  go_wp2_with fail
  refine (num_no _ hv hn _).mono ?_; rintro e w' ⟨rfl, rfl⟩
  go_wp2_with fail
  refine (int_any _ _).mono ?_; rintro e w' ⟨rfl, rfl⟩
  go_wp2_with fail
  refine (num_in _ (by omega) (by omega) _).mono ?_; rintro e w' ⟨rfl, rfl⟩
  go_wp2_with (first | (go_at_call 18; refine (ref_no _ (by omega) _).mono ?_; rintro e w' ⟨rfl, rfl⟩) | (go_at_call 20; refine (prim_no _ (by omega) _).mono ?_; rintro e w' ⟨rfl, rfl⟩) | (go_at_call 24; refine (errno_any 1 (by decide) _).mono ?_; rintro e w' ⟨rfl, rfl⟩) | (go_at_call 17; refine (live_any _).mono ?_; rintro e w' ⟨rfl, rfl⟩))
  go_ret
  refine ⟨ret_bool ?_, Grown.refl _⟩
  first | rfl | (rw [Bool.or_eq_true, decide_eq_true_eq, decide_eq_true_eq]; omega)
set_option maxHeartbeats 400000 in
theorem walk_n4 (a0 a1 : Int) (hv : U a0) (hn : ¬ N a0) (r0 : a1 < -2305843009213693952) (w : World) :
    Calls Try.prog 8 #[.int .u64 a0, .int .i64 a1] w fun e w' => e = .returned (.bool true) ∧ Grown w w' := by
  have b0 := nm_bd a0
  go_enter Try.func8, Try.ntmps8
  go_wp2_with fail
  refine (num_no _ hv hn _).mono ?_; rintro e w' ⟨rfl, rfl⟩
  go_wp2_with fail
  refine (int_any _ _).mono ?_; rintro e w' ⟨rfl, rfl⟩
  go_wp2_with fail
  refine (num_yes _ (mk_U _) (mk_N _) _).mono ?_; rintro e w' ⟨rfl, rfl⟩
  go_wp2_with (first | (go_at_call 18; refine (ref_no _ (by omega) _).mono ?_; rintro e w' ⟨rfl, rfl⟩) | (go_at_call 20; refine (prim_no _ (by omega) _).mono ?_; rintro e w' ⟨rfl, rfl⟩) | (go_at_call 24; refine (errno_any 1 (by decide) _).mono ?_; rintro e w' ⟨rfl, rfl⟩) | (go_at_call 17; refine (live_any _).mono ?_; rintro e w' ⟨rfl, rfl⟩))
  go_ret
  refine ⟨ret_bool ?_, Grown.refl _⟩
  first | rfl | (rw [Bool.or_eq_true, decide_eq_true_eq, decide_eq_true_eq]; omega)
set_option maxHeartbeats 400000 in
theorem walk_n5 (a0 a1 : Int) (hv : U a0) (hn : ¬ N a0) (r0 : 2305843009213693951 < a1) (w : World) :
    Calls Try.prog 8 #[.int .u64 a0, .int .i64 a1] w fun e w' => e = .returned (.bool true) ∧ Grown w w' := by
  have b0 := nm_bd a0
  go_enter Try.func8, Try.ntmps8
  go_wp2_with fail
  refine (num_no _ hv hn _).mono ?_; rintro e w' ⟨rfl, rfl⟩
  go_wp2_with fail
  refine (int_any _ _).mono ?_; rintro e w' ⟨rfl, rfl⟩
  go_wp2_with fail
  refine (num_yes _ (mk_U _) (mk_N _) _).mono ?_; rintro e w' ⟨rfl, rfl⟩
  go_wp2_with (first | (go_at_call 18; refine (ref_no _ (by omega) _).mono ?_; rintro e w' ⟨rfl, rfl⟩) | (go_at_call 20; refine (prim_no _ (by omega) _).mono ?_; rintro e w' ⟨rfl, rfl⟩) | (go_at_call 24; refine (errno_any 1 (by decide) _).mono ?_; rintro e w' ⟨rfl, rfl⟩) | (go_at_call 17; refine (live_any _).mono ?_; rintro e w' ⟨rfl, rfl⟩))
  go_ret
  refine ⟨ret_bool ?_, Grown.refl _⟩
  first | rfl | (rw [Bool.or_eq_true, decide_eq_true_eq, decide_eq_true_eq]; omega)
theorem walk (a0 : Int) (a1 : Int) (w0 : (Lit.int .u64 a0).wf = true) (w1 : (Lit.int .i64 a1).wf = true) (w : World) :
    Calls Try.prog 8 #[.int .u64 a0, .int .i64 a1] w fun e w' => e = .returned (.bool true) ∧ Grown w w' := by
  have hv : U a0 := by have := bounds_u64 w0; exact ⟨this.1, by omega⟩
  have hcases : (0 ≤ a1 ∧ a1 ≤ 2147483647) ∨ (-2305843009213693952 ≤ a1 ∧ a1 < 0) ∨ (2147483647 < a1 ∧ a1 ≤ 2305843009213693951) ∨ a1 < -2305843009213693952 ∨ 2305843009213693951 < a1 := by omega
  by_cases hn : N a0
  · rcases hcases with ⟨r0, r1⟩ | ⟨r0, r1⟩ | ⟨r0, r1⟩ | r0 | r0
    · exact walk_y1 a0 a1 hv hn r0 r1 w
    · exact walk_y2 a0 a1 hv hn r0 r1 w
    · exact walk_y3 a0 a1 hv hn r0 r1 w
    · exact walk_y4 a0 a1 hv hn r0 w
    · exact walk_y5 a0 a1 hv hn r0 w
  · rcases hcases with ⟨r0, r1⟩ | ⟨r0, r1⟩ | ⟨r0, r1⟩ | r0 | r0
    · exact walk_n1 a0 a1 hv hn r0 r1 w
    · exact walk_n2 a0 a1 hv hn r0 r1 w
    · exact walk_n3 a0 a1 hv hn r0 r1 w
    · exact walk_n4 a0 a1 hv hn r0 w
    · exact walk_n5 a0 a1 hv hn r0 w

set_option maxRecDepth 100000 in
theorem lifted (os : Os) (started : os.Started) (H : Type) (enc : TypeId × Value → H) :
    ReturnsInHanded {} Try.checked os 8 .any (Rows.tagBackSpec.pre6 enc Try.prog Try.f8 Rows.tagBackRow.domain false) (Rows.tagBackSpec.post enc Try.prog Try.f8 false true false false) := by
  refine returnsInHanded_of_change (C := Try.checked) own started (by kernel_rfl) Try.func8
    (ChangeSpec.witness6 (enc := enc) (C := Try.checked) false ⟨#[], #[.int .u64 0, .int .i64 0], []⟩ 8 (by kernel_rfl) (by kernel_rfl) (by kernel_rfl) (by kernel_rfl)) ?_
  intro W base args ds gs before hval0 hW hcnd _
  have hval : ∀ (j : Nat) t v, Try.f8.params[j]? = some t → args[j]? = some v → Value.okWide Try.prog W .any base t v := hval0
  have hW' := hW
  obtain ⟨p, q, hA0, hV, rfl, hfz, hnd⟩ := hW
  have hA : DataW.TrodAll enc Try.prog W 0 (fun _ => true) true Try.f8.params.toList args.toList ds p := hA0
  rw [Try.params8] at hA hval
  obtain ⟨v0, vs0, d0, ds0, p0, q0, hargs, rfl, rfl, h0, r0⟩ := trodAll_cons hA
  obtain ⟨v1, vs1, d1, ds1, p1, q1, rfl, rfl, rfl, h1, r1⟩ := trodAll_cons r0
  obtain ⟨rfl, rfl, rfl⟩ := trodAll_nil r1
  obtain rfl : args = #[v0, v1] := by cases args; simp_all
  obtain ⟨rfl, rfl⟩ := trodVars_none hV
  obtain ⟨a0, rfl, rfl, rfl, w0⟩ := open_int Try.underlying23 (hval 0 23 v0 rfl rfl) h0
  obtain ⟨a1, rfl, rfl, rfl, w1⟩ := open_int Try.underlying3 (hval 1 3 v1 rfl rfl) h1
  clear hA0 hval0
  simp only [List.append_nil] at hW'
  refine (walk a0 a1 w0 w1 W).mono fun e W' ⟨he, hg⟩ => ?_
  subst he
  exact ⟨_, rfl, post_of_same (pa := []) (pv := []) hW' (fun _ _ _ => (trodAll_cons_mk (shut_bool Try.underlying4 _) trodAll_mk0)) (fun sp _ => (trodAll_cons_mk (shut_int Try.underlying23 w0) (trodAll_cons_mk (shut_int Try.underlying3 w1) trodAll_mk0))) (fun _ _ => rfl) rfl
    (hg.frame _) hg.2.1 (ok_one (by kernel_rfl) rfl (okWide_bool_mk Try.underlying4 _))⟩

theorem over : Rows.tagBackRow.holds Try.pinned (OpenSpec.ofChange Rows.tagBackSpec) :=
  OpenClaim.holds_of_wide 8 Try.f8 rfl rfl rfl rfl rfl rfl rfl ⟨rfl, rfl, rfl, rfl, rfl⟩ rfl rfl rfl rfl rfl (by kernel_rfl) Try.func8 (by kernel_rfl)
    (of_decide_eq_true (by kernel_rfl)) (by unfold Func.isWrapper; first | (rw [if_pos (by decide +kernel)]; kernel_rfl) | (rw [if_neg (by decide +kernel)]; exact ⟨rfl, rfl⟩))
    (fun os started H enc _ => lifted os started H enc)

theorem proved : Rows.TagBackSaid :=
  over
end Go.Proofs.Ytfkbodofdpgakaa.tagBack
namespace Go.Proofs.Ytfkbodofdpgakaa
theorem tagBack_holds : Rows.TagBackSaid := tagBack.proved
#print axioms tagBack_holds
end Go.Proofs.Ytfkbodofdpgakaa
