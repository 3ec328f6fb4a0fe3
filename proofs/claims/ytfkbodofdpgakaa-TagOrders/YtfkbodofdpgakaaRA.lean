/- The document's answers' contracts: what each call of the plain definition returns, of any words, and that it leaves the world as it is. -/
import Derived.Test.YtfkbodofdpgakaaW3
namespace Go.Proofs.Ytfkbodofdpgakaa
open Go.RowKit
set_option maxHeartbeats 400000 in
theorem rint_any (n : Int) (w : World) :
    Calls Try.prog 23 #[.int .i64 n] w fun e w' => e = .returned (.int .u64 (mk n)) ∧ w' = w := by
  go_enter Try.func23, Try.ntmps23
  go_wp2
  go_ret
  exact ⟨ret_int (rint_eq n), rfl⟩
theorem wrap_lo (q : Int) (h0 : 0 ≤ q) (h1 : q < 4611686018427387904) : wrap64 ((IntKind.u64.wrap q).tmod 4611686018427387904) = q := by
  rw [IntKind.wrap_u64, tmod_of_emod]; unfold wrap64; omega
set_option maxHeartbeats 400000 in
theorem rwrap_any (q : Int) (h0 : 0 ≤ q) (h1 : q < 4611686018427387904) (w : World) :
    Calls Try.prog 36 #[.int .i64 q] w fun e w' => e = .returned (.int .i64 (nm (4 * q))) ∧ w' = w := by
  have hw := wrap_lo q h0 h1
  go_enter Try.func36, Try.ntmps36
  go_wp2
  all_goals
    go_ret
    refine ⟨ret_int ?_, rfl⟩
    clear hw
    unfold nm
    omega
set_option maxHeartbeats 400000 in
theorem rnum_any (v : Int) (hv : U v) (w : World) :
    Calls Try.prog 10 #[.int .u64 v] w fun e w' => e = .returned (.tuple #[.int .i64 (numV v), .bool (isN v)]) ∧ w' = w := by
  have h0 : 0 ≤ v := hv.1
  have h1 : v / 4 < 4611686018427387904 := by have := hv.2; omega
  by_cases hn : v % 4 = 0
  · have hb : (v % 4 != 0) = false := by simpa using hn
    go_enter Try.func10, Try.ntmps10
    go_wp2_with (go_at_call 36; refine (rwrap_any _ (by omega) (by omega) _).mono ?_; rintro e w' ⟨rfl, rfl⟩)
    go_ret2
    refine ⟨ret_ib ?_ ?_, rfl⟩
    · rw [numV, if_pos hn, show 4 * (v / 4) = v by omega]
    · exact (decide_eq_true hn).symm
  · have hb : (v % 4 != 0) = true := by simpa using hn
    go_enter Try.func10, Try.ntmps10
    go_wp2_with fail
    go_ret2
    refine ⟨ret_ib ?_ ?_, rfl⟩
    · rw [numV, if_neg hn]
    · exact (decide_eq_false hn).symm
theorem idx_yes {v : Int} (h : kd v = 2 ∨ kd v = 3) : v / 4 = idxV v := (if_pos h).symm
theorem idx_no {v : Int} (h : ¬ (kd v = 2 ∨ kd v = 3)) : 0 = idxV v := (if_neg h).symm
theorem has_yes {v : Int} (h : kd v = 2 ∨ kd v = 3) : true = hasI v := (decide_eq_true h).symm
theorem has_no {v : Int} (h : ¬ (kd v = 2 ∨ kd v = 3)) : false = hasI v := (decide_eq_false h).symm
theorem tdiv4 (v : Int) (hv : U v) : IntKind.u64.wrap (v.tdiv 4) = v / 4 := by
  rw [IntKind.wrap_u64, Int.tdiv_eq_ediv_of_nonneg hv.1]; have := hv.1; have := hv.2; omega
set_option maxHeartbeats 400000 in
theorem rkind_any (v : Int) (hv : U v) (w : World) :
    Calls Try.prog 14 #[.int .u64 v] w fun e w' => e = .returned (.int .i64 (kd v)) ∧ w' = w := by
  have h0 : 0 ≤ v := hv.1
  have hd := tdiv4 v hv
  go_enter Try.func14, Try.ntmps14
  go_wp2
  all_goals
    go_ret
    refine ⟨ret_int ?_, rfl⟩
    clear hd
    try simp only [beq_iff_eq, beq_eq_false_iff_ne, ne_eq] at *
    unfold kd
    repeat' split
    all_goals omega
set_option maxHeartbeats 400000 in
theorem index_any (v : Int) (hv : U v) (w : World) :
    Calls Try.prog 11 #[.int .u64 v] w fun e w' => e = .returned (.tuple #[.int .i64 (idxV v), .bool (hasI v)]) ∧ w' = w := by
  have h0 : 0 ≤ v := hv.1
  have h1 : v / 4 < 4611686018427387904 := by have := hv.2; omega
  go_enter Try.func11, Try.ntmps11
  go_wp2_with (go_at_call 13; refine (kind_any _ hv _).mono ?_; rintro e w' ⟨rfl, rfl⟩)
  all_goals
    go_ret2
    refine ⟨ret_ib ?_ ?_, rfl⟩
    all_goals
      simp only [beq_iff_eq, beq_eq_false_iff_ne, ne_eq] at *
      simp [idxV, hasI, *]
set_option maxHeartbeats 400000 in
theorem rindex_any (v : Int) (hv : U v) (w : World) :
    Calls Try.prog 12 #[.int .u64 v] w fun e w' => e = .returned (.tuple #[.int .i64 (idxV v), .bool (hasI v)]) ∧ w' = w := by
  have h0 : 0 ≤ v := hv.1
  have h1 : v / 4 < 4611686018427387904 := by have := hv.2; omega
  have hd := tdiv4 v hv
  go_enter Try.func12, Try.ntmps12
  go_wp2_with (go_at_call 14; refine (rkind_any _ hv _).mono ?_; rintro e w' ⟨rfl, rfl⟩)
  all_goals
    go_ret2
    refine ⟨ret_ib ?_ ?_, rfl⟩
    all_goals
      clear hd
      try simp only [ne_eq, bne_iff_ne, bne_eq_false_iff_eq] at *
      first | exact idx_yes (by omega) | exact idx_no (by omega) | exact has_yes (by omega) | exact has_no (by omega)
set_option maxHeartbeats 400000 in
theorem rtruth_any (v : Int) (w : World) :
    Calls Try.prog 16 #[.int .u64 v] w fun e w' => e = .returned (.bool (tru v)) ∧ w' = w := by
  go_enter Try.func16, Try.ntmps16
  go_wp2
  all_goals
    go_ret
    refine ⟨ret_bool ?_, rfl⟩
    first | rfl | simp [tru, *]
set_option maxHeartbeats 400000 in
theorem bool_any (b : Bool) (w : World) :
    Calls Try.prog 25 #[.bool b] w fun e w' => e = .returned (.int .u64 (bv b)) ∧ w' = w := by
  cases b
  all_goals
    go_enter Try.func25, Try.ntmps25
    go_wp2
    go_ret
    exact ⟨rfl, rfl⟩
set_option maxHeartbeats 400000 in
theorem rbool_any (b : Bool) (w : World) :
    Calls Try.prog 26 #[.bool b] w fun e w' => e = .returned (.int .u64 (bv b)) ∧ w' = w := by
  cases b
  all_goals
    go_enter Try.func26, Try.ntmps26
    go_wp2
    go_ret
    exact ⟨rfl, rfl⟩
set_option maxHeartbeats 400000 in
theorem rref_any (i : Int) (w : World) :
    Calls Try.prog 19 #[.int .i64 i] w fun e w' => e = .returned (.tuple #[.int .u64 (refV i), .int .i64 (erI i)]) ∧ w' = w := by
  go_enter Try.func19, Try.ntmps19
  go_wp2
  all_goals
    go_ret2
    refine ⟨ret_ii ?_ ?_, rfl⟩
    all_goals
      first | unfold refV | unfold erI
      split
      all_goals omega
set_option maxHeartbeats 400000 in
theorem rprim_any (i : Int) (w : World) :
    Calls Try.prog 21 #[.int .i64 i] w fun e w' => e = .returned (.tuple #[.int .u64 (primV i), .int .i64 (erI i)]) ∧ w' = w := by
  go_enter Try.func21, Try.ntmps21
  go_wp2
  all_goals
    go_ret2
    refine ⟨ret_ii ?_ ?_, rfl⟩
    all_goals
      first | unfold primV | unfold erI
      split
      all_goals omega
end Go.Proofs.Ytfkbodofdpgakaa
