/- For every two ints the statement TagWhole of layer 1 answers true: a number is its quotient by another one times that one and what is left, which is nearer to 0 and has its sign; by 0 it is ErrZero; no condition. -/
import Derived.Test.YtfkbodofdpgakabRows
import Derived.Test.YtfkbodofdpgakabW3
import Derived.WalkKit
import Derived.ProofKit
import Derived.OpenShut
namespace Go.Proofs.Ytfkbodofdpgakab.tagWhole
open Go.ChangeShapes Go.WideShapes Go.ChangeAt Go.RowKit
set_option linter.unusedVariables false      -- a walk need not use every 'w<i>' (that an integer argument fits its kind)

theorem own : ownKnob Try.prog.godebug = none := by kernel_rfl

theorem addV_mk (x y : Int) : addV (mk x) (mk y) = mk (x + y) := by
  obtain ⟨j, hj⟩ := nm_mk x
  obtain ⟨k, hk⟩ := nm_mk y
  rw [addV, if_pos ⟨mk_N x, mk_N y⟩]
  exact mk_congr _ _ (j + k) (by omega)
theorem subV_mk (x y : Int) : subV (mk x) (mk y) = mk (x - y) := by
  obtain ⟨j, hj⟩ := nm_mk x
  obtain ⟨k, hk⟩ := nm_mk y
  rw [subV, if_pos ⟨mk_N x, mk_N y⟩]
  exact mk_congr _ _ (j - k) (by omega)
theorem negV_mk (x : Int) : negV (mk x) = mk (- x) := by
  obtain ⟨j, hj⟩ := nm_mk x
  rw [show negV (mk x) = mk (- nm (mk x)) from if_pos (mk_N x)]
  exact mk_congr _ _ (- j) (by omega)
theorem mulV_mk (x y : Int) : mulV (mk x) (mk y) = mk (x * y) := by
  obtain ⟨j, hj⟩ := nm_mk x
  obtain ⟨k, hk⟩ := nm_mk y
  rw [mulV, if_pos ⟨mk_N x, mk_N y⟩, hj, hk]
  refine mk_congr _ _ (x * k + j * y + 4611686018427387904 * (j * k)) ?_
  rw [Int.add_mul, Int.mul_add, Int.mul_add]
  simp only [Int.mul_add, Int.mul_assoc, Int.mul_left_comm x 4611686018427387904 k, Int.mul_left_comm j 4611686018427387904 k]
  omega
theorem add_mk (x y : Int) (w : World) : Calls Try.prog 9 #[.int .u64 (mk x), .int .u64 (mk y)] w fun e w' => e = .returned (.tuple #[.int .u64 (mk (x + y)), .int .i64 0]) ∧ w' = w := by
  have h := add_any (mk x) (mk y) (mk_U x) (mk_U y) w
  rw [addV_mk, er_yes (mk_N x) (mk_N y)] at h; exact h
theorem sub_mk (x y : Int) (w : World) : Calls Try.prog 11 #[.int .u64 (mk x), .int .u64 (mk y)] w fun e w' => e = .returned (.tuple #[.int .u64 (mk (x - y)), .int .i64 0]) ∧ w' = w := by
  have h := sub_any (mk x) (mk y) (mk_U x) (mk_U y) w
  rw [subV_mk, er_yes (mk_N x) (mk_N y)] at h; exact h
theorem mul_mk (x y : Int) (w : World) : Calls Try.prog 10 #[.int .u64 (mk x), .int .u64 (mk y)] w fun e w' => e = .returned (.tuple #[.int .u64 (mk (x * y)), .int .i64 0]) ∧ w' = w := by
  have h := mul_any (mk x) (mk y) (mk_U x) (mk_U y) w
  rw [mulV_mk, er_yes (mk_N x) (mk_N y)] at h; exact h
theorem neg_mk (x : Int) (w : World) : Calls Try.prog 12 #[.int .u64 (mk x)] w fun e w' => e = .returned (.tuple #[.int .u64 (mk (- x)), .int .i64 0]) ∧ w' = w := by
  have h := neg_any (mk x) (mk_U x) w
  rw [negV_mk, show erN (mk x) = 0 from if_pos (mk_N x)] at h; exact h
theorem whole_eq (x y : Int) : mk (quo (nm (mk x)) (nm (mk y)) * y + rest (nm (mk x)) (nm (mk y))) = mk x := by
  obtain ⟨j, hj⟩ := nm_mk x
  obtain ⟨k, hk⟩ := nm_mk y
  have h : nm (mk y) * quo (nm (mk x)) (nm (mk y)) + rest (nm (mk x)) (nm (mk y)) = nm (mk x) := Int.mul_tdiv_add_tmod _ _
  generalize quo (nm (mk x)) (nm (mk y)) = q at *
  generalize rest (nm (mk x)) (nm (mk y)) = r at *
  rw [hj, hk, Int.add_mul, Int.mul_assoc] at h
  refine mk_congr _ _ (j - k * q) ?_
  rw [Int.mul_sub, Int.mul_comm q y]
  generalize y * q = t at *
  generalize k * q = s at *
  omega
theorem rest_pos (a b : Int) (hb : 0 < b) : -b < rest a b ∧ rest a b < b := ⟨Int.lt_tmod_of_pos a hb, Int.tmod_lt_of_pos a hb⟩
theorem rest_neg (a b : Int) (hb : b < 0) : b < rest a b ∧ rest a b < -b := by
  have h := rest_pos a (-b) (by omega)
  have e : rest a (-b) = rest a b := Int.tmod_neg a b
  rw [e] at h; omega
theorem rest_sign (a b : Int) : (0 ≤ rest a b ∧ rest a b ≤ 0) ∨ (rest a b < 0 ∧ a < 0) ∨ (0 < rest a b ∧ ¬ a < 0) := by
  by_cases h : 0 ≤ a
  · have := Int.tmod_nonneg b h
    unfold rest; omega
  · have h1 := Int.tmod_nonneg b (show 0 ≤ -a by omega)
    rw [Int.neg_tmod] at h1
    unfold rest; omega
theorem num_in (n : Int) (h0 : -2305843009213693952 ≤ n) (h1 : n ≤ 2305843009213693951) (w : World) :
    Calls Try.prog 16 #[.int .u64 (mk n)] w fun e w' => e = .returned (.tuple #[.int .i64 n, .bool true]) ∧ w' = w := by
  have h := num_yes (mk n) (mk_U n) (mk_N n) w
  rw [nm_mk_in n h0 h1] at h; exact h
set_option maxHeartbeats 400000 in
theorem walk_neg (a0 a1 : Int) (hz : ¬ nm (mk a1) = 0) (hneg : nm (mk a1) < 0) (w : World) :
    Calls Try.prog 4 #[.int .i64 a0, .int .i64 a1] w fun e w' => e = .returned (.bool true) ∧ Grown w w' := by
  have hzb : (nm (mk a1) == 0) = false := by simpa using hz
  have hs : (mk (quo (nm (mk a0)) (nm (mk a1)) * a1 + rest (nm (mk a0)) (nm (mk a1))) == mk a0) = true := by rw [whole_eq]; simp
  have c0 := nm_bd (mk a0)
  have c1 := nm_bd (mk a1)
  have g := rest_sign (nm (mk a0)) (nm (mk a1))
  have hb := rest_neg (nm (mk a0)) (nm (mk a1)) hneg
  rcases g with ⟨g, g'⟩ | ⟨g, g'⟩ | ⟨g, g'⟩
  all_goals
    go_enter Try.func4, Try.ntmps4
    go_wp2_with fail
    refine (int_any _ _).mono ?_; rintro e w' ⟨rfl, rfl⟩
    go_wp2_with fail
    refine (int_any _ _).mono ?_; rintro e w' ⟨rfl, rfl⟩
    go_wp2_with fail
    refine (div_yes _ _ (mk_U _) (mk_U _) (mk_N _) (mk_N _) hz _).mono ?_; rintro e w' ⟨rfl, rfl⟩
    go_wp2_with fail
    refine (mod_yes _ _ (mk_U _) (mk_U _) (mk_N _) (mk_N _) hz _).mono ?_; rintro e w' ⟨rfl, rfl⟩
    go_wp2_with fail
    refine (num_yes _ (mk_U _) (mk_N _) _).mono ?_; rintro e w' ⟨rfl, rfl⟩
    go_wp2_with fail
    refine (mul_mk _ _ _).mono ?_; rintro e w' ⟨rfl, rfl⟩
    go_wp2_with fail
    refine (add_mk _ _ _).mono ?_; rintro e w' ⟨rfl, rfl⟩
    go_wp2_with fail
    refine (num_in _ (by omega) (by omega) _).mono ?_; rintro e w' ⟨rfl, rfl⟩
    go_wp2_with fail
    refine (num_yes _ (mk_U _) (mk_N _) _).mono ?_; rintro e w' ⟨rfl, rfl⟩
    go_wp2_with (first | (go_at_call 17; refine (errno_any 0 (by decide) _).mono ?_; rintro e w' ⟨rfl, rfl⟩) | (go_at_call 13; refine (live_any _).mono ?_; rintro e w' ⟨rfl, rfl⟩))
    go_ret
    exact ⟨rfl, Grown.refl _⟩
set_option maxHeartbeats 400000 in
theorem walk_pos (a0 a1 : Int) (hz : ¬ nm (mk a1) = 0) (hneg : 0 < nm (mk a1)) (w : World) :
    Calls Try.prog 4 #[.int .i64 a0, .int .i64 a1] w fun e w' => e = .returned (.bool true) ∧ Grown w w' := by
  have hzb : (nm (mk a1) == 0) = false := by simpa using hz
  have hs : (mk (quo (nm (mk a0)) (nm (mk a1)) * a1 + rest (nm (mk a0)) (nm (mk a1))) == mk a0) = true := by rw [whole_eq]; simp
  have c0 := nm_bd (mk a0)
  have c1 := nm_bd (mk a1)
  have g := rest_sign (nm (mk a0)) (nm (mk a1))
  have hb := rest_pos (nm (mk a0)) (nm (mk a1)) hneg
  rcases g with ⟨g, g'⟩ | ⟨g, g'⟩ | ⟨g, g'⟩
  all_goals
    go_enter Try.func4, Try.ntmps4
    go_wp2_with fail
    refine (int_any _ _).mono ?_; rintro e w' ⟨rfl, rfl⟩
    go_wp2_with fail
    refine (int_any _ _).mono ?_; rintro e w' ⟨rfl, rfl⟩
    go_wp2_with fail
    refine (div_yes _ _ (mk_U _) (mk_U _) (mk_N _) (mk_N _) hz _).mono ?_; rintro e w' ⟨rfl, rfl⟩
    go_wp2_with fail
    refine (mod_yes _ _ (mk_U _) (mk_U _) (mk_N _) (mk_N _) hz _).mono ?_; rintro e w' ⟨rfl, rfl⟩
    go_wp2_with fail
    refine (num_yes _ (mk_U _) (mk_N _) _).mono ?_; rintro e w' ⟨rfl, rfl⟩
    go_wp2_with fail
    refine (mul_mk _ _ _).mono ?_; rintro e w' ⟨rfl, rfl⟩
    go_wp2_with fail
    refine (add_mk _ _ _).mono ?_; rintro e w' ⟨rfl, rfl⟩
    go_wp2_with fail
    refine (num_in _ (by omega) (by omega) _).mono ?_; rintro e w' ⟨rfl, rfl⟩
    go_wp2_with fail
    refine (num_yes _ (mk_U _) (mk_N _) _).mono ?_; rintro e w' ⟨rfl, rfl⟩
    go_wp2_with (first | (go_at_call 17; refine (errno_any 0 (by decide) _).mono ?_; rintro e w' ⟨rfl, rfl⟩) | (go_at_call 13; refine (live_any _).mono ?_; rintro e w' ⟨rfl, rfl⟩))
    go_ret
    exact ⟨rfl, Grown.refl _⟩
theorem walk (a0 : Int) (a1 : Int) (w0 : (Lit.int .i64 a0).wf = true) (w1 : (Lit.int .i64 a1).wf = true) (w : World) :
    Calls Try.prog 4 #[.int .i64 a0, .int .i64 a1] w fun e w' => e = .returned (.bool true) ∧ Grown w w' := by
  clear w0 w1
  by_cases hz : nm (mk a1) = 0
  · have hzb : (nm (mk a1) == 0) = true := by simpa using hz
    clear hz
    go_enter Try.func4, Try.ntmps4
    go_wp2_with fail
    refine (int_any _ _).mono ?_; rintro e w' ⟨rfl, rfl⟩
    go_wp2_with fail
    refine (int_any _ _).mono ?_; rintro e w' ⟨rfl, rfl⟩
    go_wp2_with fail
    refine (div_zero _ _ (mk_U _) (mk_U _) (mk_N _) (mk_N _) hzb _).mono ?_; rintro e w' ⟨rfl, rfl⟩
    go_wp2_with fail
    refine (mod_zero _ _ (mk_U _) (mk_U _) (mk_N _) (mk_N _) hzb _).mono ?_; rintro e w' ⟨rfl, rfl⟩
    go_wp2_with fail
    refine (num_yes _ (mk_U _) (mk_N _) _).mono ?_; rintro e w' ⟨rfl, rfl⟩
    go_wp2_with (first | (go_at_call 17; refine (errno_any 10 (by decide) _).mono ?_; rintro e w' ⟨rfl, rfl⟩) | (go_at_call 13; refine (live_any _).mono ?_; rintro e w' ⟨rfl, rfl⟩))
    go_ret
    exact ⟨rfl, Grown.refl _⟩
  · by_cases hneg : nm (mk a1) < 0
    · exact walk_neg a0 a1 hz hneg w
    · exact walk_pos a0 a1 hz (by omega) w

set_option maxRecDepth 100000 in
theorem lifted (os : Os) (started : os.Started) (H : Type) (enc : TypeId × Value → H) :
    ReturnsInHanded {} Try.checked os 4 .any (Rows.tagWholeSpec.pre6 enc Try.prog Try.f4 Rows.tagWholeRow.domain false) (Rows.tagWholeSpec.post enc Try.prog Try.f4 false true false false) := by
  refine returnsInHanded_of_change (C := Try.checked) own started (by kernel_rfl) Try.func4
    (ChangeSpec.witness6 (enc := enc) (C := Try.checked) false ⟨#[], #[.int .i64 0, .int .i64 0], []⟩ 8 (by kernel_rfl) (by kernel_rfl) (by kernel_rfl) (by kernel_rfl)) ?_
  intro W base args ds gs before hval0 hW hcnd _
  have hval : ∀ (j : Nat) t v, Try.f4.params[j]? = some t → args[j]? = some v → Value.okWide Try.prog W .any base t v := hval0
  have hW' := hW
  obtain ⟨p, q, hA0, hV, rfl, hfz, hnd⟩ := hW
  have hA : DataW.TrodAll enc Try.prog W 0 (fun _ => true) true Try.f4.params.toList args.toList ds p := hA0
  rw [Try.params4] at hA hval
  obtain ⟨v0, vs0, d0, ds0, p0, q0, hargs, rfl, rfl, h0, r0⟩ := trodAll_cons hA
  obtain ⟨v1, vs1, d1, ds1, p1, q1, rfl, rfl, rfl, h1, r1⟩ := trodAll_cons r0
  obtain ⟨rfl, rfl, rfl⟩ := trodAll_nil r1
  obtain rfl : args = #[v0, v1] := by cases args; simp_all
  obtain ⟨rfl, rfl⟩ := trodVars_none hV
  obtain ⟨a0, rfl, rfl, rfl, w0⟩ := open_int Try.underlying3 (hval 0 3 v0 rfl rfl) h0
  obtain ⟨a1, rfl, rfl, rfl, w1⟩ := open_int Try.underlying3 (hval 1 3 v1 rfl rfl) h1
  clear hA0 hval0
  simp only [List.append_nil] at hW'
  refine (walk a0 a1 w0 w1 W).mono fun e W' ⟨he, hg⟩ => ?_
  subst he
  exact ⟨_, rfl, post_of_same (pa := []) (pv := []) hW' (fun _ _ _ => (trodAll_cons_mk (shut_bool Try.underlying4 _) trodAll_mk0)) (fun sp _ => (trodAll_cons_mk (shut_int Try.underlying3 w0) (trodAll_cons_mk (shut_int Try.underlying3 w1) trodAll_mk0))) (fun _ _ => rfl) rfl
    (hg.frame _) hg.2.1 (ok_one (by kernel_rfl) rfl (okWide_bool_mk Try.underlying4 _))⟩

theorem over : Rows.tagWholeRow.holds Try.pinned (OpenSpec.ofChange Rows.tagWholeSpec) :=
  OpenClaim.holds_of_wide 4 Try.f4 rfl rfl rfl rfl rfl rfl rfl ⟨rfl, rfl, rfl, rfl, rfl⟩ rfl rfl rfl rfl rfl (by kernel_rfl) Try.func4 (by kernel_rfl)
    (of_decide_eq_true (by kernel_rfl)) (by unfold Func.isWrapper; first | (rw [if_pos (by decide +kernel)]; kernel_rfl) | (rw [if_neg (by decide +kernel)]; exact ⟨rfl, rfl⟩))
    (fun os started H enc _ => lifted os started H enc)

theorem proved : Rows.TagWholeSaid :=
  over
end Go.Proofs.Ytfkbodofdpgakab.tagWhole
namespace Go.Proofs.Ytfkbodofdpgakab
theorem tagWhole_holds : Rows.TagWholeSaid := tagWhole.proved
#print axioms tagWhole_holds
end Go.Proofs.Ytfkbodofdpgakab
