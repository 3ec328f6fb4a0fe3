/- The leaves' contracts: what each of the program's small calls returns, and that it leaves the world as it is; no condition but that a word has 64 bits. -/
import Derived.Test.YtfkbodofdpgakabRows
import Derived.Test.YtfkbodofdpgakabPlain
import Derived.WalkKit
import Derived.WalkSpells
import Derived.WalkLawsBesides
namespace Go.Proofs.Ytfkbodofdpgakab
open Go.RowKit
theorem ret_int {k : IntKind} {a b : Int} (h : a = b) : Ending.returned (.int k a) = .returned (.int k b) := by rw [h]
theorem ret_bool {a b : Bool} (h : a = b) : Ending.returned (.bool a) = .returned (.bool b) := by rw [h]
theorem ret_ii {k l : IntKind} {a b c d : Int} (h : a = b) (g : c = d) : Ending.returned (.tuple #[.int k a, .int l c]) = .returned (.tuple #[.int k b, .int l d]) := by rw [h, g]
theorem ret_ib {k : IntKind} {a b : Int} {c d : Bool} (h : a = b) (g : c = d) : Ending.returned (.tuple #[.int k a, .bool c]) = .returned (.tuple #[.int k b, .bool d]) := by rw [h, g]

set_option maxHeartbeats 400000 in
theorem int_any (n : Int) (w : World) :
    Calls Try.prog 8 #[.int .i64 n] w fun e w' => e = .returned (.int .u64 (mk n)) ∧ w' = w := by
  go_enter Try.func8, Try.ntmps8
  go_wp2
  go_ret
  exact ⟨ret_int (int_eq n), rfl⟩

set_option maxHeartbeats 400000 in
theorem kind_any (v : Int) (hv : U v) (w : World) :
    Calls Try.prog 18 #[.int .u64 v] w fun e w' => e = .returned (.int .i64 (kd v)) ∧ w' = w := by
  have hb := and3 v hv
  have hr : 0 ≤ v % 4 ∧ v % 4 < 4 := by omega
  go_enter Try.func18, Try.ntmps18
  go_wp2
  all_goals
    go_ret
    refine ⟨ret_int ?_, rfl⟩
    clear hb
    simp only [beq_iff_eq, beq_eq_false_iff_ne, bne_iff_ne, bne_eq_false_iff_eq, ne_eq] at *
    unfold kd
    repeat' split
    all_goals omega

set_option maxHeartbeats 400000 in
theorem num_yes (v : Int) (hv : U v) (hn : N v) (w : World) :
    Calls Try.prog 16 #[.int .u64 v] w fun e w' => e = .returned (.tuple #[.int .i64 (nm v), .bool true]) ∧ w' = w := by
  have hk : (kd v != 0) = false := by unfold N at hn; simp [kd, hn]
  go_enter Try.func16, Try.ntmps16
  go_wp2_with (go_at_call 18; refine (kind_any _ hv _).mono ?_; rintro e w' ⟨rfl, rfl⟩)
  go_ret2
  exact ⟨ret_ib (nm_of v) rfl, rfl⟩
set_option maxHeartbeats 400000 in
theorem num_no (v : Int) (hv : U v) (hn : ¬ N v) (w : World) :
    Calls Try.prog 16 #[.int .u64 v] w fun e w' => e = .returned (.tuple #[.int .i64 0, .bool false]) ∧ w' = w := by
  have hk : (kd v != 0) = true := by
    unfold N at hn; rw [bne_iff_ne]; unfold kd; repeat' split
    all_goals omega
  go_enter Try.func16, Try.ntmps16
  go_wp2_with (go_at_call 18; refine (kind_any _ hv _).mono ?_; rintro e w' ⟨rfl, rfl⟩)
  go_ret2
  exact ⟨rfl, rfl⟩

set_option maxHeartbeats 400000 in
theorem num_any (v : Int) (hv : U v) (w : World) :
    Calls Try.prog 16 #[.int .u64 v] w fun e w' => e = .returned (.tuple #[.int .i64 (numV v), .bool (isN v)]) ∧ w' = w := by
  by_cases hn : N v
  · rw [show numV v = nm v from if_pos hn, show isN v = true from decide_eq_true hn]; exact num_yes v hv hn w
  · rw [show numV v = 0 from if_neg hn, show isN v = false from decide_eq_false hn]; exact num_no v hv hn w

set_option maxHeartbeats 400000 in
theorem truth_any (v : Int) (w : World) :
    Calls Try.prog 22 #[.int .u64 v] w fun e w' => e = .returned (.bool (tru v)) ∧ w' = w := by
  go_enter Try.func22, Try.ntmps22
  go_wp2
  all_goals
    go_ret
    refine ⟨ret_bool ?_, rfl⟩
    first | rfl | simp [tru, *]

set_option maxHeartbeats 400000 in
theorem errno_any (n : Int) (_hn : 0 ≤ n ∧ n ≤ 1000) (w : World) :
    Calls Try.prog 17 #[.int .i64 n] w fun e w' => e = .returned (.int .i64 n) ∧ w' = w := by
  go_enter Try.func17, Try.ntmps17
  go_wp2
  go_ret
  exact ⟨ret_int rfl, rfl⟩

set_option maxHeartbeats 400000 in
theorem indexed_yes (i k : Int) (h0 : 0 ≤ i) (h1 : i ≤ 2147483647) (k0 : 0 ≤ k) (k1 : k < 4) (w : World) :
    Calls Try.prog 25 #[.int .i64 i, .int .i64 k] w fun e w' => e = .returned (.tuple #[.int .u64 (4 * i + k), .int .i64 0]) ∧ w' = w := by
  go_enter Try.func25, Try.ntmps25
  go_wp2
  go_ret2
  exact ⟨ret_ii (or_tag i k h0 h1 k0 k1) rfl, rfl⟩
set_option maxHeartbeats 400000 in
theorem indexed_no (i k : Int) (h : i < 0 ∨ 2147483647 < i) (w : World) :
    Calls Try.prog 25 #[.int .i64 i, .int .i64 k] w fun e w' => e = .returned (.tuple #[.int .u64 0, .int .i64 1]) ∧ w' = w := by
  rcases h with h | h
  · go_enter Try.func25, Try.ntmps25
    go_wp2
    go_ret2
    exact ⟨rfl, rfl⟩
  · have h' : ¬ i < 0 := by omega
    go_enter Try.func25, Try.ntmps25
    go_wp2
    go_ret2
    exact ⟨rfl, rfl⟩

set_option maxHeartbeats 400000 in
theorem pair_yes (a b : Int) (ha : U a) (hb : U b) (na : N a) (nb : N b) (w : World) :
    Calls Try.prog 24 #[.int .u64 a, .int .u64 b] w fun e w' => e = .returned (.tuple #[.int .i64 (nm a), .int .i64 (nm b), .int .i64 0]) ∧ w' = w := by
  go_enter Try.func24, Try.ntmps24
  go_wp2_with (go_at_call 16; refine (num_yes _ (by assumption) (by assumption) _).mono ?_; rintro e w' ⟨rfl, rfl⟩)
  go_ret3
  exact ⟨rfl, rfl⟩
set_option maxHeartbeats 400000 in
theorem pair_no (a b : Int) (ha : U a) (hb : U b) (hn : ¬ (N a ∧ N b)) (w : World) :
    Calls Try.prog 24 #[.int .u64 a, .int .u64 b] w fun e w' => e = .returned (.tuple #[.int .i64 0, .int .i64 0, .int .i64 8]) ∧ w' = w := by
  by_cases na : N a
  · have nb : ¬ N b := fun h => hn ⟨na, h⟩
    clear hn
    go_enter Try.func24, Try.ntmps24
    go_wp2_with fail
    refine (num_yes _ ha na _).mono ?_; rintro e w' ⟨rfl, rfl⟩
    go_wp2_with fail
    refine (num_no _ hb nb _).mono ?_; rintro e w' ⟨rfl, rfl⟩
    go_wp2
    go_ret3
    exact ⟨rfl, rfl⟩
  · clear hn
    go_enter Try.func24, Try.ntmps24
    go_wp2_with fail
    refine (num_no _ ha na _).mono ?_; rintro e w' ⟨rfl, rfl⟩
    go_wp2
    go_ret3
    exact ⟨rfl, rfl⟩

end Go.Proofs.Ytfkbodofdpgakab
