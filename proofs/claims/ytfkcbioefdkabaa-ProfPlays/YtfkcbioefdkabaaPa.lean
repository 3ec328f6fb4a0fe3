/- The counters: has, find, count, reset: contracts. -/
import Derived.Test.YtfkcbioefdkabaaPs
set_option linter.unusedSimpArgs false
set_option linter.unusedVariables false
namespace Go.Proofs.Ytfkcbioefdkabaa
open Go Go.RowKit

@[go_sem] theorem foldl_zip0 {β : Type} (f : β → Value × Nat → β) (b : β) : Array.foldl f b (#[] : Array Value).zipIdx 0 0 = b := rfl

section
variable {w w' : World}

set_option maxRecDepth 100000 in
set_option maxHeartbeats 1000000 in
theorem nhas_any (a : Option Addr) (n cap : Nat) (i : Int) (w : World) : Calls Try.prog 41 #[.slice a n cap, .int .i64 i] w fun e w' => e = .returned (.bool (decide (0 ≤ i ∧ i < n))) ∧ w' = w := by
  by_cases h0 : 0 ≤ i
  · by_cases h1 : i < n
    · rw [decide_eq_true ⟨h0, h1⟩]
      go_enter Try.func41, Try.ntmps41
      go_wp2
      all_goals go_ret
      all_goals exact ⟨rfl, rfl⟩
    · rw [decide_eq_false (fun h => h1 h.2)]
      have hb : decide (i < (n : Int)) = false := decide_eq_false h1
      go_enter Try.func41, Try.ntmps41
      go_wp2
      all_goals go_ret
      all_goals exact ⟨rfl, rfl⟩
  · rw [decide_eq_false (fun h => h0 h.1)]
    have hb : decide (0 ≤ i) = false := decide_eq_false h0
    go_enter Try.func41, Try.ntmps41
    go_wp2
    all_goals go_ret
    all_goals exact ⟨rfl, rfl⟩

set_option maxRecDepth 100000 in
set_option maxHeartbeats 1000000 in
theorem nfind_no (a : Option Addr) (n cap : Nat) (i : Int) (w : World) (hi : ¬ (0 ≤ i ∧ i < n)) : Calls Try.prog 32 #[.slice a n cap, .int .i64 i] w fun e w' => e = .returned (.tuple #[.agg #[.int .i64 0], .int .i64 1]) ∧ Bw w w' := by
  have hd : decide (0 ≤ i ∧ i < (n : Int)) = false := decide_eq_false hi
  go_enter Try.func32, Try.ntmps32
  go_wp2_with (first
    | (go_at_call 41; refine (nhas_any _ _ _ _ _).mono ?_; rintro e w1 ⟨rfl, hw1⟩; subst w1)
    | fail)
  all_goals refine bodyPost_ret (v := .tuple #[.agg #[.int .i64 0], .int .i64 1]) (by simp [results, Try.results32, go_sem, *]) rfl ⟨rfl, ?_⟩
  all_goals repeat (first | exact Bw.refl _ | apply Bw.alloc | apply Bw.drewN | apply Bw.drew | apply Bw.setCell)

set_option maxRecDepth 100000 in
set_option maxHeartbeats 1000000 in
theorem nfind_yes (b n cap : Nat) (i : Nat) (w : World) (hi : i < n) (hl : b < w.heap.size) {x : Int} (h0 : w.cell? ⟨b, i, none⟩ = some (.int .i64 x)) : Calls Try.prog 32 #[.slice (some ⟨b, 0, none⟩) n cap, .int .i64 i] w fun e w' => e = .returned (.tuple #[.agg #[.int .i64 x], .int .i64 0]) ∧ Bw w w' := by
  have hd : decide (0 ≤ (i : Int) ∧ (i : Int) < (n : Int)) = true := decide_eq_true ⟨by omega, by omega⟩
  have hi2 : (i : Int) < (n : Int) := by omega
  go_enter Try.func32, Try.ntmps32
  go_wp2_with (first
    | (go_at_call 41; refine (nhas_any _ _ _ _ _).mono ?_; rintro e w1 ⟨rfl, hw1⟩; subst w1)
    | fail)
  all_goals refine bodyPost_ret (v := .tuple #[.agg #[.int .i64 x], .int .i64 0]) (by simp [results, Try.results32, go_sem, *]) rfl ⟨rfl, ?_⟩
  all_goals repeat (first | exact Bw.refl _ | apply Bw.alloc | apply Bw.drewN | apply Bw.drew | apply Bw.setCell)

set_option maxRecDepth 100000 in
set_option maxHeartbeats 1000000 in
theorem ncount_no (a : Option Addr) (n cap : Nat) (i : Int) (w : World) (hi : ¬ (0 ≤ i ∧ i < n)) : Calls Try.prog 47 #[.slice a n cap, .int .i64 i, .agg #[]] w fun e w' => e = .returned (.int .i64 1) ∧ Bw w w' := by
  have hd : decide (0 ≤ i ∧ i < (n : Int)) = false := decide_eq_false hi
  go_enter Try.func47, Try.ntmps47
  go_wp2_with (first
    | (go_at_call 41; refine (nhas_any _ _ _ _ _).mono ?_; rintro e w1 ⟨rfl, hw1⟩; subst w1)
    | fail)
  all_goals go_ret
  all_goals exact ⟨rfl, by repeat (first | exact Bw.refl _ | apply Bw.alloc | apply Bw.drewN | apply Bw.drew | apply Bw.setCell)⟩

set_option maxRecDepth 100000 in
set_option maxHeartbeats 1000000 in
theorem ncount_yes (b n cap : Nat) (i : Nat) (w : World) (hi : i < n) {cur : Array Value} (hb : Blk w b cur 76) {x : Int} (h0 : cur[i]? = some (.int .i64 x)) (hx : 0 ≤ x ∧ x < 1000000) : Calls Try.prog 47 #[.slice (some ⟨b, 0, none⟩) n cap, .int .i64 i, .agg #[]] w fun e w' => e = .returned (.int .i64 0) ∧ Blk w' b (cur.setIfInBounds i (.int .i64 (x + 1))) 76 ∧ Ex [b] w w' := by
  have HB := hid hb
  have hd : decide (0 ≤ (i : Int) ∧ (i : Int) < (n : Int)) = true := decide_eq_true ⟨by omega, by omega⟩
  have hl : b < w.heap.size := hb.lt
  have c0 : w.cell? ⟨b, i, none⟩ = some (.int .i64 x) := (hb.cell _).trans h0
  have f0 := hb.free
  have hi2 : (i : Int) < (n : Int) := by omega
  have hx1 : x + 1 ≤ 1099511627776 := by omega
  have hx2 : ¬ (1099511627776 < x + 1) := by omega
  have hx3 : IntKind.i64.wrap (x + 1) = x + 1 := by have : 0 ≤ x + 1 := by omega
                                                    simp [IntKind.wrap, IntKind.bits, IntKind.signed]; omega
  have hx4 : min (x + 1) 1099511627776 = x + 1 := by omega
  have hi3 : i < cur.size ∨ True := .inr trivial
  clear hb h0 hx
  go_enter Try.func47, Try.ntmps47
  go_wp2_with (first
    | (go_at_call 41; refine (nhas_any _ _ _ _ _).mono ?_; rintro e w1 ⟨rfl, hw1⟩; subst w1)
    | fail)
  all_goals go_region
  all_goals go_wp2
  all_goals go_ret
  all_goals exact ⟨rfl, ((HB.out.set _ _).alloc _).keep rfl, by repeat (first | exact Ex.refl _ _ | apply Ex.alloc | apply Ex.drewN | apply Ex.drew | refine Ex.set ?_ (.inl (by simp)) _ _)⟩

set_option maxRecDepth 100000 in
set_option maxHeartbeats 1000000 in
theorem vhas_any (a : Option Addr) (n cap : Nat) (i : Int) (w : World) : Calls Try.prog 42 #[.slice a n cap, .int .i64 i] w fun e w' => e = .returned (.bool (decide (0 ≤ i ∧ i < n))) ∧ w' = w := by
  by_cases h0 : 0 ≤ i
  · by_cases h1 : i < n
    · rw [decide_eq_true ⟨h0, h1⟩]
      go_enter Try.func42, Try.ntmps42
      go_wp2
      all_goals go_ret
      all_goals exact ⟨rfl, rfl⟩
    · rw [decide_eq_false (fun h => h1 h.2)]
      have hb : decide (i < (n : Int)) = false := decide_eq_false h1
      go_enter Try.func42, Try.ntmps42
      go_wp2
      all_goals go_ret
      all_goals exact ⟨rfl, rfl⟩
  · rw [decide_eq_false (fun h => h0 h.1)]
    have hb : decide (0 ≤ i) = false := decide_eq_false h0
    go_enter Try.func42, Try.ntmps42
    go_wp2
    all_goals go_ret
    all_goals exact ⟨rfl, rfl⟩

set_option maxRecDepth 100000 in
set_option maxHeartbeats 1000000 in
theorem vfind_no (a : Option Addr) (n cap : Nat) (i : Int) (w : World) (hi : ¬ (0 ≤ i ∧ i < n)) : Calls Try.prog 34 #[.slice a n cap, .int .i64 i] w fun e w' => e = .returned (.tuple #[.agg #[.int .i64 0, .int .u64 0], .int .i64 1]) ∧ Bw w w' := by
  have hd : decide (0 ≤ i ∧ i < (n : Int)) = false := decide_eq_false hi
  go_enter Try.func34, Try.ntmps34
  go_wp2_with (first
    | (go_at_call 42; refine (vhas_any _ _ _ _ _).mono ?_; rintro e w1 ⟨rfl, hw1⟩; subst w1)
    | fail)
  all_goals refine bodyPost_ret (v := .tuple #[.agg #[.int .i64 0, .int .u64 0], .int .i64 1]) (by simp [results, Try.results34, go_sem, *]) rfl ⟨rfl, ?_⟩
  all_goals repeat (first | exact Bw.refl _ | apply Bw.alloc | apply Bw.drewN | apply Bw.drew | apply Bw.setCell)

set_option maxRecDepth 100000 in
set_option maxHeartbeats 1000000 in
theorem vfind_yes (b n cap : Nat) (i : Nat) (w : World) (hi : i < n) (hl : b < w.heap.size) {x y : Int} (h0 : w.cell? ⟨b, i * 2, none⟩ = some (.int .i64 x)) (h1 : w.cell? ⟨b, i * 2 + 1, none⟩ = some (.int .u64 y)) : Calls Try.prog 34 #[.slice (some ⟨b, 0, none⟩) n cap, .int .i64 i] w fun e w' => e = .returned (.tuple #[.agg #[.int .i64 x, .int .u64 y], .int .i64 0]) ∧ Bw w w' := by
  have hd : decide (0 ≤ (i : Int) ∧ (i : Int) < (n : Int)) = true := decide_eq_true ⟨by omega, by omega⟩
  have hi2 : (i : Int) < (n : Int) := by omega
  go_enter Try.func34, Try.ntmps34
  go_wp2_with (first
    | (go_at_call 42; refine (vhas_any _ _ _ _ _).mono ?_; rintro e w1 ⟨rfl, hw1⟩; subst w1)
    | fail)
  all_goals refine bodyPost_ret (v := .tuple #[.agg #[.int .i64 x, .int .u64 y], .int .i64 0]) (by simp [results, Try.results34, go_sem, *]) rfl ⟨rfl, ?_⟩
  all_goals repeat (first | exact Bw.refl _ | apply Bw.alloc | apply Bw.drewN | apply Bw.drew | apply Bw.setCell)

set_option maxRecDepth 100000 in
set_option maxHeartbeats 1000000 in
theorem vcount_no (a : Option Addr) (n cap : Nat) (i : Int) (v : Int) (w : World) (hi : ¬ (0 ≤ i ∧ i < n)) : Calls Try.prog 39 #[.slice a n cap, .int .i64 i, .int .u64 v] w fun e w' => e = .returned (.int .i64 1) ∧ Bw w w' := by
  have hd : decide (0 ≤ i ∧ i < (n : Int)) = false := decide_eq_false hi
  go_enter Try.func39, Try.ntmps39
  go_wp2_with (first
    | (go_at_call 42; refine (vhas_any _ _ _ _ _).mono ?_; rintro e w1 ⟨rfl, hw1⟩; subst w1)
    | fail)
  all_goals go_ret
  all_goals exact ⟨rfl, by repeat (first | exact Bw.refl _ | apply Bw.alloc | apply Bw.drewN | apply Bw.drew | apply Bw.setCell)⟩

set_option maxRecDepth 100000 in
set_option maxHeartbeats 1000000 in
theorem vcount_yes (b n cap : Nat) (i : Nat) (v : Int) (w : World) (hi : i < n) {cur : Array Value} (hb : Blk w b cur 83) {x : Int} (h0 : cur[i * 2]? = some (.int .i64 x)) (hx : 0 ≤ x ∧ x < 1000000) (hs : i * 2 + 1 < cur.size) : Calls Try.prog 39 #[.slice (some ⟨b, 0, none⟩) n cap, .int .i64 i, .int .u64 v] w fun e w' => e = .returned (.int .i64 0) ∧ Blk w' b ((cur.setIfInBounds (i * 2) (.int .i64 (x + 1))).setIfInBounds (i * 2 + 1) (.int .u64 v)) 83 ∧ Ex [b] w w' := by
  have HB := hid hb
  have hd : decide (0 ≤ (i : Int) ∧ (i : Int) < (n : Int)) = true := decide_eq_true ⟨by omega, by omega⟩
  have hl : b < w.heap.size := hb.lt
  have c0 : w.cell? ⟨b, i * 2, none⟩ = some (.int .i64 x) := (hb.cell _).trans h0
  have f0 := hb.free
  have c1 : w.cell? ⟨b, i * 2 + 1, none⟩ = some cur[i * 2 + 1] := (hb.cell _).trans (by simp [hs])
  generalize cur[i * 2 + 1] = cz at c1
  have hi2 : (i : Int) < (n : Int) := by omega
  have hx1 : x + 1 ≤ 1099511627776 := by omega
  have hx2 : ¬ (1099511627776 < x + 1) := by omega
  have hx3 : IntKind.i64.wrap (x + 1) = x + 1 := by have : 0 ≤ x + 1 := by omega
                                                    simp [IntKind.wrap, IntKind.bits, IntKind.signed]; omega
  have hx4 : min (x + 1) 1099511627776 = x + 1 := by omega
  have hi3 : i < cur.size ∨ True := .inr trivial
  clear hb h0 hx
  go_enter Try.func39, Try.ntmps39
  go_wp2_with (first
    | (go_at_call 42; refine (vhas_any _ _ _ _ _).mono ?_; rintro e w1 ⟨rfl, hw1⟩; subst w1)
    | fail)
  all_goals go_wp2
  all_goals go_ret
  all_goals exact ⟨rfl, (HB.out.set _ _).set _ _, by repeat (first | exact Ex.refl _ _ | apply Ex.alloc | apply Ex.drewN | apply Ex.drew | refine Ex.set ?_ (.inl (by simp)) _ _)⟩

set_option maxRecDepth 100000 in
set_option maxHeartbeats 1000000 in
theorem reset_no (a : Option Addr) (n cap : Nat) (i : Int) (w : World) (hi : ¬ (0 ≤ i ∧ i < n)) : Calls Try.prog 40 #[.slice a n cap, .int .i64 i] w fun e w' => e = .returned (.int .i64 1) ∧ Bw w w' := by
  have hd : decide (0 ≤ i ∧ i < (n : Int)) = false := decide_eq_false hi
  go_enter Try.func40, Try.ntmps40
  go_wp2_with (first
    | (go_at_call 41; refine (nhas_any _ _ _ _ _).mono ?_; rintro e w1 ⟨rfl, hw1⟩; subst w1)
    | fail)
  all_goals go_ret
  all_goals exact ⟨rfl, by repeat (first | exact Bw.refl _ | apply Bw.alloc | apply Bw.drewN | apply Bw.drew | apply Bw.setCell)⟩

set_option maxRecDepth 100000 in
set_option maxHeartbeats 1000000 in
theorem reset_yes (b n cap : Nat) (i : Nat) (w : World) (hi : i < n) {cur : Array Value} (hb : Blk w b cur 76) (hs : i < cur.size) : Calls Try.prog 40 #[.slice (some ⟨b, 0, none⟩) n cap, .int .i64 i] w fun e w' => e = .returned (.int .i64 0) ∧ Blk w' b (cur.setIfInBounds i (.int .i64 0)) 76 ∧ Ex [b] w w' := by
  have HB := hid hb
  have hd : decide (0 ≤ (i : Int) ∧ (i : Int) < (n : Int)) = true := decide_eq_true ⟨by omega, by omega⟩
  have hl : b < w.heap.size := hb.lt
  have c0 : w.cell? ⟨b, i, none⟩ = some cur[i] := (hb.cell _).trans (by simp [hs])
  have f0 := hb.free
  have hi2 : (i : Int) < (n : Int) := by omega
  clear hb
  go_enter Try.func40, Try.ntmps40
  go_wp2_with (first
    | (go_at_call 41; refine (nhas_any _ _ _ _ _).mono ?_; rintro e w1 ⟨rfl, hw1⟩; subst w1)
    | fail)
  all_goals go_ret
  all_goals exact ⟨rfl, HB.out.set _ _, by repeat (first | exact Ex.refl _ _ | apply Ex.alloc | apply Ex.drewN | apply Ex.drew | refine Ex.set ?_ (.inl (by simp)) _ _)⟩

end

end Go.Proofs.Ytfkcbioefdkabaa
