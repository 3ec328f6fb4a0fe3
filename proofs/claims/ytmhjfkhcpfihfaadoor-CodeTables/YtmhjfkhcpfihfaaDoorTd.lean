/- The document's table, its Safe: contracts. -/
import Derived.Test.YtmhjfkhcpfihfaaDoorFl
set_option linter.unusedSimpArgs false
set_option linter.unusedVariables false
namespace Go.Proofs.YtmhjfkhcpfihfaaDoor
open Go Go.RowKit

/-- The document's rows. -/
def tabA : Array Value := #[.string ⟨#[105, 110, 116]⟩, .int .i64 0, .int .i64 1, .string ⟨#[97, 116, 111, 109]⟩, .int .i64 0, .int .i64 1, .string ⟨#[115, 116, 114]⟩, .int .i64 0, .int .i64 1, .string ⟨#[112, 114, 105, 109]⟩, .int .i64 0, .int .i64 1, .string ⟨#[112, 111, 112]⟩, .int .i64 1, .int .i64 0, .string ⟨#[108, 111, 97, 100]⟩, .int .i64 0, .int .i64 1, .string ⟨#[115, 116, 111, 114, 101]⟩, .int .i64 1, .int .i64 0, .string ⟨#[98, 111, 120]⟩, .int .i64 0, .int .i64 0, .string ⟨#[108, 111, 97, 100, 99, 101, 108, 108]⟩, .int .i64 0, .int .i64 1, .string ⟨#[115, 116, 111, 114, 101, 99, 101, 108, 108]⟩, .int .i64 1, .int .i64 0, .string ⟨#[108, 111, 97, 100, 99, 97, 112]⟩, .int .i64 0, .int .i64 1, .string ⟨#[115, 116, 111, 114, 101, 99, 97, 112]⟩, .int .i64 1, .int .i64 0, .string ⟨#[108, 111, 97, 100, 103, 108, 111, 98, 97, 108]⟩, .int .i64 0, .int .i64 1, .string ⟨#[115, 116, 111, 114, 101, 103, 108, 111, 98, 97, 108]⟩, .int .i64 1, .int .i64 0, .string ⟨#[108, 105, 115, 116]⟩, .int .i64 0, .int .i64 1, .string ⟨#[114, 101, 99]⟩, .int .i64 0, .int .i64 1, .string ⟨#[102, 117, 110]⟩, .int .i64 0, .int .i64 1, .string ⟨#[98, 105, 110]⟩, .int .i64 2, .int .i64 1, .string ⟨#[110, 111, 116]⟩, .int .i64 1, .int .i64 1, .string ⟨#[110, 101, 103]⟩, .int .i64 1, .int .i64 1, .string ⟨#[106, 117, 109, 112]⟩, .int .i64 0, .int .i64 0, .string ⟨#[102, 97, 108, 115, 101]⟩, .int .i64 1, .int .i64 0, .string ⟨#[107, 101, 101, 112, 102, 97, 108, 115, 101]⟩, .int .i64 1, .int .i64 0, .string ⟨#[107, 101, 101, 112, 116, 114, 117, 101]⟩, .int .i64 1, .int .i64 0, .string ⟨#[108, 111, 111, 112]⟩, .int .i64 0, .int .i64 0, .string ⟨#[99, 97, 108, 108]⟩, .int .i64 1, .int .i64 1, .string ⟨#[115, 112, 97, 119, 110]⟩, .int .i64 1, .int .i64 1, .string ⟨#[114, 101, 116, 117, 114, 110]⟩, .int .i64 1, .int .i64 0, .string ⟨#[116, 104, 114, 111, 119]⟩, .int .i64 1, .int .i64 0, .string ⟨#[105, 110, 100, 101, 120]⟩, .int .i64 2, .int .i64 1, .string ⟨#[115, 101, 116, 105, 110, 100, 101, 120]⟩, .int .i64 3, .int .i64 0, .string ⟨#[102, 105, 101, 108, 100]⟩, .int .i64 1, .int .i64 1, .string ⟨#[115, 101, 116, 102, 105, 101, 108, 100]⟩, .int .i64 2, .int .i64 0]
def rowC (x : List Int × Int × Int × Bool) : List Value := [.string (strOfNums x.1), .int .i64 x.2.1, .int .i64 x.2.2.1]
set_option maxRecDepth 100000 in
theorem tab_rows : tabA.toList = opsL.flatMap rowC := by rfl

theorem tab_at {k j : Nat} (hk : k < 33) (hj : j < 3) : tabA[k * 3 + j]? = (rowC (opAt (k : Int)))[j]? := by
  have h1 : tabA[k * 3 + j]? = tabA.toList[k * 3 + j]? := by simp
  rw [h1, tab_rows, flat_at (c := rowC) (k := 3) (fun _ => rfl) opsL k j (by rw [opsL_len]; exact hk) hj]
  congr 2
  unfold opAt
  rw [show ((k : Nat) : Int).toNat = k from rfl, List.getD_eq_getElem?_getD, List.getElem?_eq_getElem (by rw [opsL_len]; exact hk)]
  rfl

set_option maxRecDepth 100000 in
set_option maxHeartbeats 4000000 in
theorem rTable_any (w : World) : Calls Tryd.prog 11 #[] w fun e w' => e = .returned (.slice (some ⟨w.heap.size, 0, none⟩) 33 33) ∧ w' = w.alloc (.cells tabA 34) := by
  go_enter Tryd.func11, Tryd.ntmps11
  go_wp2
  all_goals go_ret
  all_goals exact ⟨rfl, rfl⟩

set_option maxRecDepth 100000 in
set_option maxHeartbeats 4000000 in
theorem rSafe_any (op : Int) (w : World) : Calls Tryd.prog 16 #[.int .i64 op] w fun e w' => e = .returned (.bool (safeM op)) ∧ w' = w := by
  have key : safeM op = decide (op = 13 ∨ (24 ≤ op ∧ op ≤ 27)) := by
    cases hq : isOp op
    · have h : ¬ (op = 13 ∨ (24 ≤ op ∧ op ≤ 27)) := by unfold isOp at hq; rw [decide_eq_false_iff_not] at hq; omega
      unfold safeM
      rw [hq, decide_eq_false h]; rfl
    · have h33 : 0 ≤ op ∧ op < 33 := by unfold isOp at hq; rwa [decide_eq_true_eq] at hq
      unfold safeM opAt
      rw [hq, Bool.true_and]
      have all : ∀ i : Fin 33, (opsL.getD i.val ([], 0, 0, false)).2.2.2 = decide (i.val = 13 ∨ (24 ≤ i.val ∧ i.val ≤ 27)) := by decide
      rw [all ⟨op.toNat, by omega⟩]
      congr 1
      simp only [eq_iff_iff]
      omega
  rw [key]
  by_cases h1 : op = 13
  · subst h1
    go_enter Tryd.func16, Tryd.ntmps16
    go_wp2
    all_goals go_ret
    all_goals exact ⟨rfl, rfl⟩
  · have t1 : (op == 13) = false := by simp [h1]
    by_cases h2 : 24 ≤ op
    · have e : decide (op = 13 ∨ (24 ≤ op ∧ op ≤ 27)) = decide (op ≤ 27) := by congr 1; simp only [eq_iff_iff]; omega
      rw [e]
      clear e h1
      go_enter Tryd.func16, Tryd.ntmps16
      go_wp2
      all_goals go_ret
      all_goals exact ⟨rfl, rfl⟩
    · have e : decide (op = 13 ∨ (24 ≤ op ∧ op ≤ 27)) = false := decide_eq_false (by omega)
      have t2 : decide (24 ≤ op) = false := decide_eq_false h2
      rw [e]
      clear e h1
      go_enter Tryd.func16, Tryd.ntmps16
      go_wp2
      all_goals go_ret
      all_goals exact ⟨rfl, rfl⟩

end Go.Proofs.YtmhjfkhcpfihfaaDoor
