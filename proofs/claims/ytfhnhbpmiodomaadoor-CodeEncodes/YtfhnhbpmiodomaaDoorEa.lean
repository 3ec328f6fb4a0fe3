/- The document's numbers: contracts. -/
import Derived.Test.YtfhnhbpmiodomaaDoorFl
set_option linter.unusedVariables false
set_option linter.unusedSimpArgs false
namespace Go.Proofs.YtfhnhbpmiodomaaDoor
open Go Go.RowKit

set_option maxRecDepth 100000 in
set_option maxHeartbeats 1000000 in
theorem rplain_any (n : Int) (w : World) (hn : I64 n) : Calls Tryd.prog 16 #[.int .i64 n] w fun e w' => e = .returned (.bool (pl n)) ∧ w' = w := by
  unfold I64 at hn
  unfold pl
  by_cases h0 : 0 ≤ n
  · by_cases h1 : n ≤ 4611686018427387903
    · have h2 : decide (0 ≤ n ∧ n ≤ 4611686018427387903) = true := decide_eq_true ⟨h0, h1⟩
      rw [h2]
      clear h2
      go_enter Tryd.func16, Tryd.ntmps16
      go_wp2
      all_goals go_ret
      all_goals exact ⟨rfl, rfl⟩
    · have h2 : decide (0 ≤ n ∧ n ≤ 4611686018427387903) = false := decide_eq_false (fun h => h1 h.2)
      rw [h2]
      clear h2
      go_enter Tryd.func16, Tryd.ntmps16
      go_wp2
      all_goals go_ret
      all_goals exact ⟨rfl, rfl⟩
  · have h2 : decide (0 ≤ n ∧ n ≤ 4611686018427387903) = false := decide_eq_false (fun h => h0 h.1)
    rw [h2]
    clear h2
    go_enter Tryd.func16, Tryd.ntmps16
    go_wp2
    all_goals go_ret
    all_goals exact ⟨rfl, rfl⟩

set_option maxRecDepth 100000 in
set_option maxHeartbeats 1000000 in
theorem rsigned_any (n : Int) (w : World) (hn : I64 n) : Calls Tryd.prog 43 #[.int .i64 n] w fun e w' => e = .returned (.bool (sg n)) ∧ w' = w := by
  unfold I64 at hn
  unfold sg
  by_cases h0 : -2305843009213693952 ≤ n
  · by_cases h1 : n ≤ 2305843009213693951
    · have h2 : decide (-2305843009213693952 ≤ n ∧ n ≤ 2305843009213693951) = true := decide_eq_true ⟨h0, h1⟩
      rw [h2]
      clear h2
      go_enter Tryd.func43, Tryd.ntmps43
      go_wp2
      all_goals go_ret
      all_goals exact ⟨rfl, rfl⟩
    · have h2 : decide (-2305843009213693952 ≤ n ∧ n ≤ 2305843009213693951) = false := decide_eq_false (fun h => h1 h.2)
      rw [h2]
      clear h2
      go_enter Tryd.func43, Tryd.ntmps43
      go_wp2
      all_goals go_ret
      all_goals exact ⟨rfl, rfl⟩
  · have h2 : decide (-2305843009213693952 ≤ n ∧ n ≤ 2305843009213693951) = false := decide_eq_false (fun h => h0 h.1)
    rw [h2]
    clear h2
    go_enter Tryd.func43, Tryd.ntmps43
    go_wp2
    all_goals go_ret
    all_goals exact ⟨rfl, rfl⟩

theorem own_one (w : World) (x : Value) : (w.alloc (.cells #[x] 5)).ownsRow w.heap.size 5 1 (.slice (some ⟨w.heap.size, 0, none⟩) 1 1) 1 [x] :=
  ⟨rfl, .inr ⟨w.heap.size, 1, #[x], rfl, Nat.le_refl _, heap_alloc_new w _, Nat.le_refl _, by decide, rfl, rfl⟩⟩

/-- What the document's Number answers. -/
def NumP (w : World) (n : Int) (e : Ending) (w' : World) : Prop :=
  ∃ v, e = .returned v ∧ w'.ownsRow w.heap.size 5 1 v (nb n.toNat).length ((nb n.toNat).map (Value.int .u8)) ∧ Bw w w'

set_option maxRecDepth 100000 in
set_option maxHeartbeats 1000000 in
theorem rnumber_small (n : Int) (w : World) (h0 : 0 ≤ n) (h : n < 128) : Calls Tryd.prog 19 #[.int .i64 n] w (NumP w n) := by
  have HN := hid (nbI_small h0 h)
  have hm : n % 256 = n := by omega
  go_enter Tryd.func19, Tryd.ntmps19
  go_wp2
  all_goals go_ret
  all_goals
    refine ⟨_, rfl, ?_, Bw.alloc (Bw.refl _) _⟩
    rw [HN.out]
    exact own_one w _

end Go.Proofs.YtfhnhbpmiodomaaDoor
