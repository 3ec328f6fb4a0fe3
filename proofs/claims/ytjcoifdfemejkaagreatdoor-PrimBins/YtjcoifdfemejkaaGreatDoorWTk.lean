/- The program's tagged words, as the heap calls them: the contracts. -/
import Derived.Test.YtjcoifdfemejkaaGreatDoorM1
set_option linter.unusedSimpArgs false
set_option linter.unusedVariables false
namespace Go.Proofs.YtjcoifdfemejkaaGreatDoor
open Go Go.RowKit

set_option maxHeartbeats 400000 in
theorem int_any (n : Int) (w : World) :
    Calls Tryz.prog 105 #[.int .i64 n] w fun e w' => e = .returned (.int .u64 (mk n)) ∧ w' = w := by
  go_enter Tryz.func105, Tryz.ntmps105
  go_wp2
  go_ret
  exact ⟨ret_int (int_eq n), rfl⟩

set_option maxHeartbeats 400000 in
theorem kind_any (v : Int) (hv : U v) (w : World) :
    Calls Tryz.prog 76 #[.int .u64 v] w fun e w' => e = .returned (.int .i64 (kd v)) ∧ w' = w := by
  have hb := and3 v hv
  have hr : 0 ≤ v % 4 ∧ v % 4 < 4 := by omega
  go_enter Tryz.func76, Tryz.ntmps76
  go_wp2
  all_goals
    go_ret
    refine ⟨ret_int ?_, rfl⟩
    clear hb
    simp only [beq_iff_eq, beq_eq_false_iff_ne, bne_iff_ne, bne_eq_false_iff_eq, ne_eq] at *
    unfold kd
    repeat' split
    all_goals omega

set_option maxHeartbeats 400000 in
theorem indexed_yes (i k : Int) (h0 : 0 ≤ i) (h1 : i ≤ 2147483647) (k0 : 0 ≤ k) (k1 : k < 4) (w : World) :
    Calls Tryz.prog 128 #[.int .i64 i, .int .i64 k] w fun e w' => e = .returned (.tuple #[.int .u64 (4 * i + k), .int .i64 0]) ∧ w' = w := by
  go_enter Tryz.func128, Tryz.ntmps128
  go_wp2
  go_ret2
  exact ⟨ret_ii (or_tag i k h0 h1 k0 k1) rfl, rfl⟩

set_option maxHeartbeats 400000 in
theorem indexed_no (i k : Int) (h : i < 0 ∨ 2147483647 < i) (w : World) :
    Calls Tryz.prog 128 #[.int .i64 i, .int .i64 k] w fun e w' => e = .returned (.tuple #[.int .u64 0, .int .i64 1]) ∧ w' = w := by
  rcases h with h | h
  · go_enter Tryz.func128, Tryz.ntmps128
    go_wp2
    go_ret2
    exact ⟨rfl, rfl⟩
  · have h' : ¬ i < 0 := by omega
    go_enter Tryz.func128, Tryz.ntmps128
    go_wp2
    go_ret2
    exact ⟨rfl, rfl⟩

set_option maxHeartbeats 400000 in
theorem ref_yes (i : Int) (h0 : 0 ≤ i) (h1 : i ≤ 2147483647) (w : World) :
    Calls Tryz.prog 114 #[.int .i64 i] w fun e w' => e = .returned (.tuple #[.int .u64 (4 * i + 2), .int .i64 0]) ∧ w' = w := by
  go_enter Tryz.func114, Tryz.ntmps114
  go_wp2_with (go_at_call 128; refine (indexed_yes _ _ h0 h1 (by decide) (by decide) _).mono ?_; rintro e w' ⟨rfl, rfl⟩)
  go_ret2
  exact ⟨rfl, rfl⟩

set_option maxHeartbeats 400000 in
theorem ref_no (i : Int) (h : i < 0 ∨ 2147483647 < i) (w : World) :
    Calls Tryz.prog 114 #[.int .i64 i] w fun e w' => e = .returned (.tuple #[.int .u64 0, .int .i64 1]) ∧ w' = w := by
  go_enter Tryz.func114, Tryz.ntmps114
  go_wp2_with (go_at_call 128; refine (indexed_no _ _ h _).mono ?_; rintro e w' ⟨rfl, rfl⟩)
  go_ret2
  exact ⟨rfl, rfl⟩

set_option maxHeartbeats 400000 in
theorem ref_any (i : Int) (w : World) :
    Calls Tryz.prog 114 #[.int .i64 i] w fun e w' => e = .returned (.tuple #[.int .u64 (refV i), .int .i64 (erI i)]) ∧ w' = w := by
  by_cases h : 0 ≤ i ∧ i ≤ 2147483647
  · rw [show refV i = 4 * i + 2 from if_pos h, show erI i = 0 from if_pos h]; exact ref_yes i h.1 h.2 w
  · rw [show refV i = 0 from if_neg h, show erI i = 1 from if_neg h]; exact ref_no i (by omega) w

theorem shr2 (v : Int) (hv : U v) : v / 4 < 4611686018427387904 ∧ 0 ≤ v / 4 := by have := hv.1; have := hv.2; omega

set_option maxHeartbeats 400000 in
theorem index_any (v : Int) (hv : U v) (w : World) :
    Calls Tryz.prog 98 #[.int .u64 v] w fun e w' => e = .returned (.tuple #[.int .i64 (idxV v), .bool (hasI v)]) ∧ w' = w := by
  have h0 : 0 ≤ v := hv.1
  have h1 : v / 4 < 4611686018427387904 := by have := hv.2; omega
  have hd := tdiv4 v hv
  go_enter Tryz.func98, Tryz.ntmps98
  go_wp2_with (go_at_call 76; refine (kind_any _ hv _).mono ?_; rintro e w' ⟨rfl, rfl⟩)
  all_goals
    go_ret2
    refine ⟨ret_ib ?_ ?_, rfl⟩
    all_goals
      clear hd
      try simp only [ne_eq, bne_iff_ne, bne_eq_false_iff_eq, beq_iff_eq, beq_eq_false_iff_ne] at *
      first | exact idx_yes (by omega) | exact idx_no (by omega) | exact has_yes (by omega) | exact has_no (by omega)

end Go.Proofs.YtjcoifdfemejkaaGreatDoor

