/- The document's may, place, count, fields: contracts. · The document's count, fields: contracts. · The document's check, Check: contracts. -/
import Derived.Test.YtdhkcdehedbpcaaDoorM11
import Derived.Deep.QuietTactic
import Derived.BigQuiet
import Derived.Test.YtdhkcdehedbpcaaDoorM7
set_option linter.unusedSimpArgs false
set_option linter.unusedVariables false
namespace Go.Proofs.YtdhkcdehedbpcaaDoor
open Go Go.RowKit

def plR (a : Int) : Int := if a = 1 then 0 else if a = 2 then 1 else if a = 3 then 2 else if a = 4 then 7 else if a = 5 then 6 else if a = 6 then 3 else if a = 7 then 4 else 5

theorem ft_of {a : Int} {p : Int → Bool} (h1 : ∀ n : Nat, n < 33 → ftP (n : Int) a = p (n : Int)) (h2 : ∀ k : Int, k < 0 ∨ 33 ≤ k → p k = false) (k : Int) : ftP k a = p k := by
 by_cases hk : k < 0 ∨ 33 ≤ k
 ·rw [h2 k hk]
  unfold ftP
  rw [if_pos (by omega)]
 ·obtain ⟨n, rfl⟩ : ∃ n : Nat, k = (n : Int) := ⟨k.toNat, by omega⟩
  exact h1 n (by omega)

theorem ft1 (k : Int) : ftP k 1 = (k == 1) := ft_of (p := fun k => k == 1) (by decide) (fun k h => by simp; omega) k
theorem ft2 (k : Int) : ftP k 2 = (decide (2 ≤ k) && decide (k ≤ 13)) := ft_of (p := fun k => decide (2 ≤ k) && decide (k ≤ 13)) (by decide) (fun k h => by simp; omega) k
theorem ft3 (k : Int) : ftP k 3 = (decide (14 ≤ k) && decide (k ≤ 32) && (k != 22)) := ft_of (p := fun k => decide (14 ≤ k) && decide (k ≤ 32) && (k != 22)) (by decide) (fun k h => by simp; omega) k
theorem ft4 (k : Int) : ftP k 4 = (k == 22) := ft_of (p := fun k => k == 22) (by decide) (fun k h => by simp; omega) k
theorem ft5 (k : Int) : ftP k 5 = (k == 19) := ft_of (p := fun k => k == 19) (by decide) (fun k h => by simp; omega) k
theorem ft6 (k : Int) : ftP k 6 = (k == 2) := ft_of (p := fun k => k == 2) (by decide) (fun k h => by simp; omega) k
theorem ft7 (k : Int) : ftP k 7 = (k == 2 || k == 5) := ft_of (p := fun k => k == 2 || k == 5) (by decide) (fun k h => by simp; omega) k
theorem ft8 (k : Int) : ftP k 8 = (k == 19 || k == 29 || k == 30) := ft_of (p := fun k => k == 19 || k == 29 || k == 30) (by decide) (fun k h => by simp; omega) k

set_option maxRecDepth 100000 in
set_option maxHeartbeats 4000000 in
theorem may_any (k a : Int) (ha : 1 ≤ a ∧ a ≤ 8) (w : World) :
  Calls Tryd.prog 63 #[.int .i64 k, .int .i64 (plR a)] w fun e w' => e = .returned (.bool (ftP k a)) ∧ w' = w := by
 have hc : a = 1 ∨ a = 2 ∨ a = 3 ∨ a = 4 ∨ a = 5 ∨ a = 6 ∨ a = 7 ∨ a = 8 := by omega
 clear ha
 rcases hc with rfl | rfl | rfl | rfl | rfl | rfl | rfl | rfl
 ·rw [ft1, show plR 1 = 0 from rfl]
  go_enter Tryd.func63, Tryd.ntmps63
  go_wp2
  all_goals go_ret
  all_goals exact ⟨by first | rfl | (simp [*]; done) | (simp; omega), rfl⟩
 ·rw [ft2, show plR 2 = 1 from rfl]
  go_enter Tryd.func63, Tryd.ntmps63
  go_wp2
  all_goals go_ret
  all_goals exact ⟨by first | rfl | (simp [*]; done) | (simp; omega), rfl⟩
 ·rw [ft3, show plR 3 = 2 from rfl]
  go_enter Tryd.func63, Tryd.ntmps63
  go_wp2
  all_goals go_ret
  all_goals exact ⟨by first | rfl | (simp [*]; done) | (simp; omega), rfl⟩
 ·rw [ft4, show plR 4 = 7 from rfl]
  go_enter Tryd.func63, Tryd.ntmps63
  go_wp2
  all_goals go_ret
  all_goals exact ⟨by first | rfl | (simp [*]; done) | (simp; omega), rfl⟩
 ·rw [ft5, show plR 5 = 6 from rfl]
  go_enter Tryd.func63, Tryd.ntmps63
  go_wp2
  all_goals go_ret
  all_goals exact ⟨by first | rfl | (simp [*]; done) | (simp; omega), rfl⟩
 ·rw [ft6, show plR 6 = 3 from rfl]
  go_enter Tryd.func63, Tryd.ntmps63
  go_wp2
  all_goals go_ret
  all_goals exact ⟨by first | rfl | (simp [*]; done) | (simp; omega), rfl⟩
 ·rw [ft7, show plR 7 = 4 from rfl]
  go_enter Tryd.func63, Tryd.ntmps63
  go_wp2
  all_goals go_ret
  all_goals exact ⟨by first | rfl | (simp [*]; done) | (simp; omega), rfl⟩
 ·rw [ft8, show plR 8 = 5 from rfl]
  go_enter Tryd.func63, Tryd.ntmps63
  go_wp2
  all_goals go_ret
  all_goals exact ⟨by first | rfl | (simp [*]; done) | (simp; omega), rfl⟩

set_option maxRecDepth 100000 in
set_option maxHeartbeats 8000000 in
theorem place_any (k N num at_ : Int) (s : ByteArray) (t : List Int) (c : Nat) (hc : (c : Int) < N) (hc2 : c ≤ 100000) (h4 : k = 4 → N ≤ 2) (h5 : k = 5 → N ≤ 3) (h6 : k = 6 → N ≤ 2) (h12 : k = 12 ∨ k = 31 → num = N - 1 ∧ N ≤ 17) (w : World) :
  Calls Tryd.prog 66 #[.agg #[.int .i64 k, .int .i64 N, .string s, .int .i64 num, .int .i64 at_], .int .i64 (c : Int)] w fun e w' => e = .returned (.int .i64 (plR (stP (k, N, t, num, at_) (c : Int)))) ∧ Bw w w' := by
 unfold stP
 dsimp only
 by_cases k1 : k = 1
 ·subst k1
  rw [if_pos (.inl rfl)]
  go_enter Tryd.func66, Tryd.ntmps66
  go_wp2
  all_goals go_ret
  all_goals exact ⟨by first | rfl | (simp [*]; done) | (simp; omega), bq⟩
 by_cases k2 : k = 2
 ·subst k2
  rw [if_pos (.inr rfl)]
  go_enter Tryd.func66, Tryd.ntmps66
  go_wp2
  all_goals go_ret
  all_goals exact ⟨by first | rfl | (simp [*]; done) | (simp; omega), bq⟩
 by_cases k11 : k = 11
 ·subst k11
  rw [if_neg (by decide), if_pos rfl]
  go_enter Tryd.func66, Tryd.ntmps66
  go_wp2
  all_goals go_ret
  all_goals exact ⟨by first | rfl | (simp [*]; done) | (simp; omega), bq⟩
 by_cases k21 : k = 21
 ·subst k21
  rw [if_neg (by decide), if_neg (by decide), if_pos rfl]
  go_enter Tryd.func66, Tryd.ntmps66
  go_wp2
  all_goals go_ret
  all_goals exact ⟨by first | rfl | (simp [*]; done) | (simp; omega), bq⟩
 by_cases k4 : k = 4
 ·subst k4
  rw [if_neg (by decide), if_neg (by decide), if_neg (by decide), if_pos rfl]
  have hc9 : c = 0 ∨ c = 1 := by have := h4 rfl; omega
  clear h4 h5 h6 h12 hc hc2
  rcases hc9 with rfl | rfl
  ·rw [if_pos (show ((0 : Nat) : Int) = 0 from rfl)]
   go_enter Tryd.func66, Tryd.ntmps66
   go_wp2
   all_goals go_ret
   all_goals exact ⟨by first | rfl | (simp [*]; done) | (simp; omega), bq⟩
  ·rw [if_neg (by decide)]
   go_enter Tryd.func66, Tryd.ntmps66
   go_wp2
   all_goals go_ret
   all_goals exact ⟨by first | rfl | (simp [*]; done) | (simp; omega), bq⟩
 by_cases k5 : k = 5
 ·subst k5
  rw [if_neg (by decide), if_neg (by decide), if_neg (by decide), if_neg (by decide), if_pos (.inl rfl)]
  have hc9 : c = 0 ∨ c = 1 ∨ c = 2 := by have := h5 rfl; omega
  clear h4 h5 h6 h12 hc hc2
  rcases hc9 with rfl | rfl | rfl
  ·rw [if_pos (show ((0 : Nat) : Int) = 0 from rfl)]
   go_enter Tryd.func66, Tryd.ntmps66
   go_wp2
   all_goals go_ret
   all_goals exact ⟨by first | rfl | (simp [*]; done) | (simp; omega), bq⟩
  ·rw [if_neg (by decide), if_pos (show ((1 : Nat) : Int) = 1 from rfl)]
   go_enter Tryd.func66, Tryd.ntmps66
   go_wp2
   all_goals go_ret
   all_goals exact ⟨by first | rfl | (simp [*]; done) | (simp; omega), bq⟩
  ·rw [if_neg (by decide), if_neg (by decide)]
   go_enter Tryd.func66, Tryd.ntmps66
   go_wp2
   all_goals go_ret
   all_goals exact ⟨by first | rfl | (simp [*]; done) | (simp; omega), bq⟩
 by_cases k6 : k = 6
 ·subst k6
  rw [if_neg (by decide), if_neg (by decide), if_neg (by decide), if_neg (by decide), if_pos (.inr rfl)]
  have hc9 : c = 0 ∨ c = 1 := by have := h6 rfl; omega
  clear h4 h5 h6 h12 hc hc2
  rcases hc9 with rfl | rfl
  ·rw [if_pos (show ((0 : Nat) : Int) = 0 from rfl)]
   go_enter Tryd.func66, Tryd.ntmps66
   go_wp2
   all_goals go_ret
   all_goals exact ⟨by first | rfl | (simp [*]; done) | (simp; omega), bq⟩
  ·rw [if_neg (by decide), if_pos (show ((1 : Nat) : Int) = 1 from rfl)]
   go_enter Tryd.func66, Tryd.ntmps66
   go_wp2
   all_goals go_ret
   all_goals exact ⟨by first | rfl | (simp [*]; done) | (simp; omega), bq⟩
 by_cases k12 : k = 12
 ·subst k12
  obtain ⟨hnum, hN17⟩ := h12 (.inl rfl)
  have hN0 : 0 ≤ N := by omega
  subst hnum
  rw [if_neg (by decide), if_neg (by decide), if_neg (by decide), if_neg (by decide), if_neg (by decide), if_pos (.inl rfl)]
  clear h4 h5 h6 h12
  by_cases hcn : (c : Int) < N - 1
  ·rw [if_pos hcn]
   go_enter Tryd.func66, Tryd.ntmps66
   go_wp2
   all_goals go_ret
   all_goals exact ⟨by first | rfl | (simp [*]; done) | (simp; omega), bq⟩
  ·rw [if_neg hcn]
   go_enter Tryd.func66, Tryd.ntmps66
   go_wp2
   all_goals go_ret
   all_goals exact ⟨by first | rfl | (simp [*]; done) | (simp; omega), bq⟩
 by_cases k31 : k = 31
 ·subst k31
  obtain ⟨hnum, hN17⟩ := h12 (.inr rfl)
  have hN0 : 0 ≤ N := by omega
  subst hnum
  rw [if_neg (by decide), if_neg (by decide), if_neg (by decide), if_neg (by decide), if_neg (by decide), if_pos (.inr rfl)]
  clear h4 h5 h6 h12
  by_cases hcn : (c : Int) < N - 1
  ·rw [if_pos hcn]
   go_enter Tryd.func66, Tryd.ntmps66
   go_wp2
   all_goals go_ret
   all_goals exact ⟨by first | rfl | (simp [*]; done) | (simp; omega), bq⟩
  ·rw [if_neg hcn]
   go_enter Tryd.func66, Tryd.ntmps66
   go_wp2
   all_goals go_ret
   all_goals exact ⟨by first | rfl | (simp [*]; done) | (simp; omega), bq⟩
 rw [if_neg (by omega), if_neg (by omega), if_neg (by omega), if_neg (by omega), if_neg (by omega), if_neg (by omega)]
 clear h4 h5 h6 h12
 go_enter Tryd.func66, Tryd.ntmps66
 go_wp2
 all_goals go_ret
 all_goals exact ⟨by first | rfl | (simp [*]; done) | (simp; omega), bq⟩

end Go.Proofs.YtdhkcdehedbpcaaDoor

namespace Go.Proofs.YtdhkcdehedbpcaaDoor
open Go Go.RowKit

def cntP (k N num : Int) : Bool :=
 if k = 7 ∨ k = 8 ∨ k = 14 ∨ k = 15 ∨ k = 16 ∨ k = 17 ∨ k = 18 ∨ k = 19 then N == 0
 else if k = 3 ∨ k = 10 ∨ k = 13 ∨ k = 22 ∨ k = 26 ∨ k = 27 ∨ k = 30 then N == 1
 else if k = 4 ∨ k = 6 ∨ k = 11 ∨ k = 23 ∨ k = 24 ∨ k = 25 ∨ k = 29 then N == 2
 else if k = 5 then N == 2 || N == 3
 else if k = 9 then N == 0 || N == 1
 else if k = 28 ∨ k = 32 then decide (1 ≤ N) && decide (N ≤ 17)
 else if k = 12 ∨ k = 31 then decide (0 ≤ num) && decide (num ≤ 16) && (N == num + 1)
 else decide (0 ≤ N)

def fldP (k : Int) (t : List Int) (num : Int) : Bool :=
 if k = 3 ∨ k = 11 ∨ k = 12 ∨ k = 19 ∨ k = 22 ∨ k = 30 then isName t
 else if k = 14 then decide (0 ≤ num) && decide (num ≤ 2305843009213693951)
 else if k = 23 then binP t
 else true

set_option maxRecDepth 100000 in
set_option maxHeartbeats 16000000 in
theorem count_any (kn : Nat) (h1 : 0 < kn) (h2 : kn < 33) (N num at_ : Int) (s : ByteArray) (hN : -9223372036854775808 ≤ N ∧ N ≤ 9223372036854775807) (w : World) :
  Calls Tryd.prog 64 #[.agg #[.int .i64 (kn : Int), .int .i64 N, .string s, .int .i64 num, .int .i64 at_]] w fun e w' => e = .returned (.bool (cntP (kn : Int) N num)) ∧ Bw w w' := by
 have hc : kn = 1 ∨ kn = 2 ∨ kn = 3 ∨ kn = 4 ∨ kn = 5 ∨ kn = 6 ∨ kn = 7 ∨ kn = 8 ∨ kn = 9 ∨ kn = 10 ∨ kn = 11 ∨ kn = 12 ∨ kn = 13 ∨ kn = 14 ∨ kn = 15 ∨ kn = 16 ∨ kn = 17 ∨ kn = 18 ∨ kn = 19 ∨ kn = 20 ∨ kn = 21 ∨ kn = 22 ∨ kn = 23 ∨ kn = 24 ∨ kn = 25 ∨ kn = 26 ∨ kn = 27 ∨ kn = 28 ∨ kn = 29 ∨ kn = 30 ∨ kn = 31 ∨ kn = 32 := by omega
 clear h1 h2
 rcases hc with rfl | rfl | rfl | rfl | rfl | rfl | rfl | rfl | rfl | rfl | rfl | rfl | rfl | rfl | rfl | rfl | rfl | rfl | rfl | rfl | rfl | rfl | rfl | rfl | rfl | rfl | rfl | rfl | rfl | rfl | rfl | rfl
 ·rw [show cntP ((1 : Nat) : Int) N num = decide (0 ≤ N) from rfl]
  go_enter Tryd.func64, Tryd.ntmps64
  go_wp2
  all_goals go_ret
  all_goals exact ⟨by first | rfl | (simp [*]; done) | (simp; omega), bq⟩
 ·rw [show cntP ((2 : Nat) : Int) N num = decide (0 ≤ N) from rfl]
  go_enter Tryd.func64, Tryd.ntmps64
  go_wp2
  all_goals go_ret
  all_goals exact ⟨by first | rfl | (simp [*]; done) | (simp; omega), bq⟩
 ·rw [show cntP ((3 : Nat) : Int) N num = (N == 1) from rfl]
  go_enter Tryd.func64, Tryd.ntmps64
  go_wp2
  all_goals go_ret
  all_goals exact ⟨by first | rfl | (simp [*]; done) | (simp; omega), bq⟩
 ·rw [show cntP ((4 : Nat) : Int) N num = (N == 2) from rfl]
  go_enter Tryd.func64, Tryd.ntmps64
  go_wp2
  all_goals go_ret
  all_goals exact ⟨by first | rfl | (simp [*]; done) | (simp; omega), bq⟩
 ·rw [show cntP ((5 : Nat) : Int) N num = (N == 2 || N == 3) from rfl]
  go_enter Tryd.func64, Tryd.ntmps64
  go_wp2
  all_goals go_ret
  all_goals exact ⟨by first | rfl | (simp [*]; done) | (simp; omega), bq⟩
 ·rw [show cntP ((6 : Nat) : Int) N num = (N == 2) from rfl]
  go_enter Tryd.func64, Tryd.ntmps64
  go_wp2
  all_goals go_ret
  all_goals exact ⟨by first | rfl | (simp [*]; done) | (simp; omega), bq⟩
 ·rw [show cntP ((7 : Nat) : Int) N num = (N == 0) from rfl]
  go_enter Tryd.func64, Tryd.ntmps64
  go_wp2
  all_goals go_ret
  all_goals exact ⟨by first | rfl | (simp [*]; done) | (simp; omega), bq⟩
 ·rw [show cntP ((8 : Nat) : Int) N num = (N == 0) from rfl]
  go_enter Tryd.func64, Tryd.ntmps64
  go_wp2
  all_goals go_ret
  all_goals exact ⟨by first | rfl | (simp [*]; done) | (simp; omega), bq⟩
 ·rw [show cntP ((9 : Nat) : Int) N num = (N == 0 || N == 1) from rfl]
  go_enter Tryd.func64, Tryd.ntmps64
  go_wp2
  all_goals go_ret
  all_goals exact ⟨by first | rfl | (simp [*]; done) | (simp; omega), bq⟩
 ·rw [show cntP ((10 : Nat) : Int) N num = (N == 1) from rfl]
  go_enter Tryd.func64, Tryd.ntmps64
  go_wp2
  all_goals go_ret
  all_goals exact ⟨by first | rfl | (simp [*]; done) | (simp; omega), bq⟩
 ·rw [show cntP ((11 : Nat) : Int) N num = (N == 2) from rfl]
  go_enter Tryd.func64, Tryd.ntmps64
  go_wp2
  all_goals go_ret
  all_goals exact ⟨by first | rfl | (simp [*]; done) | (simp; omega), bq⟩
 ·rw [show cntP ((12 : Nat) : Int) N num = (decide (0 ≤ num) && decide (num ≤ 16) && (N == num + 1)) from rfl]
  go_enter Tryd.func64, Tryd.ntmps64
  go_wp2
  all_goals go_ret
  all_goals exact ⟨by first | rfl | (simp [*]; done) | (simp; omega), bq⟩
 ·rw [show cntP ((13 : Nat) : Int) N num = (N == 1) from rfl]
  go_enter Tryd.func64, Tryd.ntmps64
  go_wp2
  all_goals go_ret
  all_goals exact ⟨by first | rfl | (simp [*]; done) | (simp; omega), bq⟩
 ·rw [show cntP ((14 : Nat) : Int) N num = (N == 0) from rfl]
  go_enter Tryd.func64, Tryd.ntmps64
  go_wp2
  all_goals go_ret
  all_goals exact ⟨by first | rfl | (simp [*]; done) | (simp; omega), bq⟩
 ·rw [show cntP ((15 : Nat) : Int) N num = (N == 0) from rfl]
  go_enter Tryd.func64, Tryd.ntmps64
  go_wp2
  all_goals go_ret
  all_goals exact ⟨by first | rfl | (simp [*]; done) | (simp; omega), bq⟩
 ·rw [show cntP ((16 : Nat) : Int) N num = (N == 0) from rfl]
  go_enter Tryd.func64, Tryd.ntmps64
  go_wp2
  all_goals go_ret
  all_goals exact ⟨by first | rfl | (simp [*]; done) | (simp; omega), bq⟩
 ·rw [show cntP ((17 : Nat) : Int) N num = (N == 0) from rfl]
  go_enter Tryd.func64, Tryd.ntmps64
  go_wp2
  all_goals go_ret
  all_goals exact ⟨by first | rfl | (simp [*]; done) | (simp; omega), bq⟩
 ·rw [show cntP ((18 : Nat) : Int) N num = (N == 0) from rfl]
  go_enter Tryd.func64, Tryd.ntmps64
  go_wp2
  all_goals go_ret
  all_goals exact ⟨by first | rfl | (simp [*]; done) | (simp; omega), bq⟩
 ·rw [show cntP ((19 : Nat) : Int) N num = (N == 0) from rfl]
  go_enter Tryd.func64, Tryd.ntmps64
  go_wp2
  all_goals go_ret
  all_goals exact ⟨by first | rfl | (simp [*]; done) | (simp; omega), bq⟩
 ·rw [show cntP ((20 : Nat) : Int) N num = decide (0 ≤ N) from rfl]
  go_enter Tryd.func64, Tryd.ntmps64
  go_wp2
  all_goals go_ret
  all_goals exact ⟨by first | rfl | (simp [*]; done) | (simp; omega), bq⟩
 ·rw [show cntP ((21 : Nat) : Int) N num = decide (0 ≤ N) from rfl]
  go_enter Tryd.func64, Tryd.ntmps64
  go_wp2
  all_goals go_ret
  all_goals exact ⟨by first | rfl | (simp [*]; done) | (simp; omega), bq⟩
 ·rw [show cntP ((22 : Nat) : Int) N num = (N == 1) from rfl]
  go_enter Tryd.func64, Tryd.ntmps64
  go_wp2
  all_goals go_ret
  all_goals exact ⟨by first | rfl | (simp [*]; done) | (simp; omega), bq⟩
 ·rw [show cntP ((23 : Nat) : Int) N num = (N == 2) from rfl]
  go_enter Tryd.func64, Tryd.ntmps64
  go_wp2
  all_goals go_ret
  all_goals exact ⟨by first | rfl | (simp [*]; done) | (simp; omega), bq⟩
 ·rw [show cntP ((24 : Nat) : Int) N num = (N == 2) from rfl]
  go_enter Tryd.func64, Tryd.ntmps64
  go_wp2
  all_goals go_ret
  all_goals exact ⟨by first | rfl | (simp [*]; done) | (simp; omega), bq⟩
 ·rw [show cntP ((25 : Nat) : Int) N num = (N == 2) from rfl]
  go_enter Tryd.func64, Tryd.ntmps64
  go_wp2
  all_goals go_ret
  all_goals exact ⟨by first | rfl | (simp [*]; done) | (simp; omega), bq⟩
 ·rw [show cntP ((26 : Nat) : Int) N num = (N == 1) from rfl]
  go_enter Tryd.func64, Tryd.ntmps64
  go_wp2
  all_goals go_ret
  all_goals exact ⟨by first | rfl | (simp [*]; done) | (simp; omega), bq⟩
 ·rw [show cntP ((27 : Nat) : Int) N num = (N == 1) from rfl]
  go_enter Tryd.func64, Tryd.ntmps64
  go_wp2
  all_goals go_ret
  all_goals exact ⟨by first | rfl | (simp [*]; done) | (simp; omega), bq⟩
 ·rw [show cntP ((28 : Nat) : Int) N num = (decide (1 ≤ N) && decide (N ≤ 17)) from rfl]
  go_enter Tryd.func64, Tryd.ntmps64
  go_wp2
  all_goals go_ret
  all_goals exact ⟨by first | rfl | (simp [*]; done) | (simp; omega), bq⟩
 ·rw [show cntP ((29 : Nat) : Int) N num = (N == 2) from rfl]
  go_enter Tryd.func64, Tryd.ntmps64
  go_wp2
  all_goals go_ret
  all_goals exact ⟨by first | rfl | (simp [*]; done) | (simp; omega), bq⟩
 ·rw [show cntP ((30 : Nat) : Int) N num = (N == 1) from rfl]
  go_enter Tryd.func64, Tryd.ntmps64
  go_wp2
  all_goals go_ret
  all_goals exact ⟨by first | rfl | (simp [*]; done) | (simp; omega), bq⟩
 ·rw [show cntP ((31 : Nat) : Int) N num = (decide (0 ≤ num) && decide (num ≤ 16) && (N == num + 1)) from rfl]
  go_enter Tryd.func64, Tryd.ntmps64
  go_wp2
  all_goals go_ret
  all_goals exact ⟨by first | rfl | (simp [*]; done) | (simp; omega), bq⟩
 ·rw [show cntP ((32 : Nat) : Int) N num = (decide (1 ≤ N) && decide (N ≤ 17)) from rfl]
  go_enter Tryd.func64, Tryd.ntmps64
  go_wp2
  all_goals go_ret
  all_goals exact ⟨by first | rfl | (simp [*]; done) | (simp; omega), bq⟩

def bsL : List (List Int) := [[61, 61], [33, 61], [60], [60, 61], [62], [62, 61], [43], [45], [42], [47], [37]]
def bsv : Array Value := (bsL.map fun s => Value.string (strOfNums s)).toArray

theorem bs_get (i : Nat) (h : i < 11) : ∃ s, bsL[i]? = some s ∧ bsv[i]? = some (.string (strOfNums s)) ∧ (∀ c ∈ s, 0 ≤ c ∧ c ≤ 255) := by
 have : ∀ i : Fin 11, (∀ c ∈ bsL.getD i.val [], 0 ≤ c ∧ c ≤ 255) := by decide
 have hi : bsL[i]? = some (bsL.getD i []) := by
  rw [List.getD_eq_getElem?_getD, List.getElem?_eq_getElem (by exact h)]; rfl
 refine ⟨_, hi, ?_, this ⟨i, h⟩⟩
 unfold bsv
 rw [List.getElem?_toArray, List.getElem?_map, hi]; rfl

theorem bin_iff (t : List Int) (hb : ∀ c ∈ t, 0 ≤ c ∧ c ≤ 255) : binP t = decide (t ∈ bsL) := by
 have key : ∀ s ∈ bsL, decide (strOfNums t = strOfNums s) = decide (t = s) := by
  intro s hs
  have hb2 : ∀ c ∈ s, 0 ≤ c ∧ c ≤ 255 := by
   have : ∀ s ∈ bsL, ∀ c ∈ s, 0 ≤ c ∧ c ≤ 255 := by decide
   exact this s hs
  by_cases h : t = s
  ·subst h; simp
  ·rw [decide_eq_false h]
   have := strOf_ne hb hb2 h
   exact decide_eq_false (by intro e; rw [e] at this; simp at this)
 unfold binP
 rw [show [[43], [45], [42], [47], [37], [61, 61], [33, 61], [60], [60, 61], [62], [62, 61]].any (fun s => decide (strOfNums t = strOfNums s)) = [[43], [45], [42], [47], [37], [61, 61], [33, 61], [60], [60, 61], [62], [62, 61]].any (fun s => decide (t = s)) from by
  simp only [List.any_cons, List.any_nil]
  rw [key [43] (by decide), key [45] (by decide), key [42] (by decide), key [47] (by decide), key [37] (by decide), key [61, 61] (by decide), key [33, 61] (by decide), key [60] (by decide), key [60, 61] (by decide), key [62] (by decide), key [62, 61] (by decide)]]
 rw [Bool.eq_iff_iff]
 simp only [List.any_eq_true, decide_eq_true_eq, bsL, List.mem_cons, List.not_mem_nil, or_false]
 constructor
 ·rintro ⟨s, hs, rfl⟩
  rcases hs with h | h | h | h | h | h | h | h | h | h | h <;> simp [h]
 ·intro h
  exact ⟨t, by rcases h with h | h | h | h | h | h | h | h | h | h | h <;> simp [h], rfl⟩

set_option maxRecDepth 100000 in
set_option maxHeartbeats 8000000 in
theorem fields23_any (N num at_ : Int) (t : List Int) (hb : ∀ c ∈ t, 0 ≤ c ∧ c ≤ 255) (w : World) :
  Calls Tryd.prog 65 #[.agg #[.int .i64 23, .int .i64 N, .string (strOfNums t), .int .i64 num, .int .i64 at_]] w fun e w' => e = .returned (.bool (binP t)) ∧ Bw w w' := by
 rw [bin_iff t hb]
 have HBD := hid hb
 clear hb
 go_enter Tryd.func65, Tryd.ntmps65
 go_wp2
 go_loopw [4] (fun j wr => ∃ i m : Nat, i ≤ 11 ∧ j = .int .i64 (i : Nat) ∧ wr = ((w.alloc (.cells #[.int .i64 23, .int .i64 N, .string (strOfNums t), .int .i64 num, .int .i64 at_] 43)).alloc (.cells bsv 137)).drewN m ∧ (bsL.take i).all (fun s => decide (s ≠ t)) = true) (fun j _ => 11 - (intOf j).toNat)
 case atStart => exact ⟨0, 0, Nat.zero_le _, rfl, rfl, by simp⟩
 case round =>
  obtain ⟨i, m, hi, rfl, hwr, ha⟩ := hrel
  subst wr
  have HA := hid ha
  clear ha
  by_cases hlt : i < 11
  ·obtain ⟨s, hs1, hs2, hs5⟩ := bs_get i hlt
   have hlt2 : (i : Int) < 11 := by omega
   have hi0 : (0 : Int) ≤ (i : Int) := by omega
   have hc : ((w.alloc (.cells #[.int .i64 23, .int .i64 N, .string (strOfNums t), .int .i64 num, .int .i64 at_] 43)).alloc (.cells bsv 137)).cell? ⟨w.heap.size + 1, i, none⟩ = some (.string (strOfNums s)) := by
    have := World.cell?_alloc_mark (w.alloc (.cells #[.int .i64 23, .int .i64 N, .string (strOfNums t), .int .i64 num, .int .i64 at_] 43)) bsv 137 (0, 0) i
    simp only [World.size_alloc] at this
    exact this.trans hs2
   have H1 := hid hs1
   by_cases hsl : s = t
   ·subst hsl
    have hf : decide (s ∈ bsL) = true := decide_eq_true (List.mem_of_getElem? H1.out)
    have HF := hid hf
    clear hs1 hs2 hs5 hf
    generalize strOfNums s = x at *
    have hxx : (x.toList == x.toList) = true := by simp
    go_wp2
    go_quiet (fail)
    go_wp2
    all_goals go_ret
    all_goals exact ⟨ret_bool HF.out.symm, bq⟩
   ·have hne := strOf_ne hs5 HBD.out hsl
    have hs' : (bsL.take (i + 1)).all (fun s => decide (s ≠ t)) = true := by
     rw [all_take_get _ H1.out, HA.out]; simpa using hsl
    have HS' := hid hs'
    clear hs1 hs2 hs5 hs' hsl
    generalize strOfNums s = x at *
    generalize strOfNums t = y at *
    go_wp2
    go_quiet (fail)
    go_wp2
    go_roundw
    case rel => exact ⟨i + 1, _, by omega, by go_num, by first | rfl | trivial, HS'.out⟩
    case measure => simp [intOf]; omega
  ·have hf : decide (t ∈ bsL) = false := by
    have := HA.out
    rw [List.take_of_length_le (by show bsL.length ≤ i; have : bsL.length = 11 := rfl; omega)] at this
    simp only [decide_eq_false_iff_not]
    intro hmem
    have := List.all_eq_true.1 this t hmem
    simp at this
   have HF := hid hf
   clear hf
   go_wp2
   all_goals go_ret
   all_goals exact ⟨ret_bool HF.out.symm, bq⟩

set_option maxRecDepth 100000 in
set_option maxHeartbeats 16000000 in
theorem fields_any (k : Int) (N num at_ : Int) (t : List Int) (ht : (∀ c ∈ t, 0 ≤ c ∧ c ≤ 255) ∧ t.length ≤ 9223372036854775807) (w : World) :
  Calls Tryd.prog 65 #[.agg #[.int .i64 k, .int .i64 N, .string (strOfNums t), .int .i64 num, .int .i64 at_]] w fun e w' => e = .returned (.bool (fldP k t num)) ∧ Bw w w' := by
 have XN := hid (rNameB_any t ht.1 ht.2)
 unfold fldP
 by_cases k3 : k = 3
 ·subst k3
  rw [if_pos (by decide)]
  generalize isName t = bn at *
  generalize strOfNums t = s at *
  go_enter Tryd.func65, Tryd.ntmps65
  go_wp2_with (first
   | (go_at_call 84; refine (XN.out _).mono ?_; rintro e w' ⟨rfl, os, n, rfl⟩)
   | fail)
  all_goals go_ret
  all_goals exact ⟨by first | rfl | (simp [*]; done) | (simp; omega), by first | exact Ly.bw (Ly.lay (Ly.alloc (Ly.refl _) _) _ _) | exact bq⟩
 by_cases k11 : k = 11
 ·subst k11
  rw [if_pos (by decide)]
  generalize isName t = bn at *
  generalize strOfNums t = s at *
  go_enter Tryd.func65, Tryd.ntmps65
  go_wp2_with (first
   | (go_at_call 84; refine (XN.out _).mono ?_; rintro e w' ⟨rfl, os, n, rfl⟩)
   | fail)
  all_goals go_ret
  all_goals exact ⟨by first | rfl | (simp [*]; done) | (simp; omega), by first | exact Ly.bw (Ly.lay (Ly.alloc (Ly.refl _) _) _ _) | exact bq⟩
 by_cases k12 : k = 12
 ·subst k12
  rw [if_pos (by decide)]
  generalize isName t = bn at *
  generalize strOfNums t = s at *
  go_enter Tryd.func65, Tryd.ntmps65
  go_wp2_with (first
   | (go_at_call 84; refine (XN.out _).mono ?_; rintro e w' ⟨rfl, os, n, rfl⟩)
   | fail)
  all_goals go_ret
  all_goals exact ⟨by first | rfl | (simp [*]; done) | (simp; omega), by first | exact Ly.bw (Ly.lay (Ly.alloc (Ly.refl _) _) _ _) | exact bq⟩
 by_cases k19 : k = 19
 ·subst k19
  rw [if_pos (by decide)]
  generalize isName t = bn at *
  generalize strOfNums t = s at *
  go_enter Tryd.func65, Tryd.ntmps65
  go_wp2_with (first
   | (go_at_call 84; refine (XN.out _).mono ?_; rintro e w' ⟨rfl, os, n, rfl⟩)
   | fail)
  all_goals go_ret
  all_goals exact ⟨by first | rfl | (simp [*]; done) | (simp; omega), by first | exact Ly.bw (Ly.lay (Ly.alloc (Ly.refl _) _) _ _) | exact bq⟩
 by_cases k22 : k = 22
 ·subst k22
  rw [if_pos (by decide)]
  generalize isName t = bn at *
  generalize strOfNums t = s at *
  go_enter Tryd.func65, Tryd.ntmps65
  go_wp2_with (first
   | (go_at_call 84; refine (XN.out _).mono ?_; rintro e w' ⟨rfl, os, n, rfl⟩)
   | fail)
  all_goals go_ret
  all_goals exact ⟨by first | rfl | (simp [*]; done) | (simp; omega), by first | exact Ly.bw (Ly.lay (Ly.alloc (Ly.refl _) _) _ _) | exact bq⟩
 by_cases k30 : k = 30
 ·subst k30
  rw [if_pos (by decide)]
  generalize isName t = bn at *
  generalize strOfNums t = s at *
  go_enter Tryd.func65, Tryd.ntmps65
  go_wp2_with (first
   | (go_at_call 84; refine (XN.out _).mono ?_; rintro e w' ⟨rfl, os, n, rfl⟩)
   | fail)
  all_goals go_ret
  all_goals exact ⟨by first | rfl | (simp [*]; done) | (simp; omega), by first | exact Ly.bw (Ly.lay (Ly.alloc (Ly.refl _) _) _ _) | exact bq⟩
 rw [if_neg (by omega)]
 by_cases k14 : k = 14
 ·subst k14
  rw [if_pos rfl]
  generalize strOfNums t = s at *
  go_enter Tryd.func65, Tryd.ntmps65
  go_wp2_with (first
   | (go_at_call 84; refine (XN.out _).mono ?_; rintro e w' ⟨rfl, os, n, rfl⟩)
   | fail)
  all_goals go_ret
  all_goals exact ⟨by first | rfl | (simp [*]; done) | (simp; omega), by first | exact Ly.bw (Ly.lay (Ly.alloc (Ly.refl _) _) _ _) | exact bq⟩
 rw [if_neg k14]
 by_cases k23 : k = 23
 ·subst k23
  rw [if_pos rfl]
  exact fields23_any N num at_ t ht.1 w
 rw [if_neg k23]
 generalize strOfNums t = s at *
 go_enter Tryd.func65, Tryd.ntmps65
 go_wp2_with (first
  | (go_at_call 84; refine (XN.out _).mono ?_; rintro e w' ⟨rfl, os, n, rfl⟩)
  | fail)
 all_goals go_ret
 all_goals exact ⟨by first | rfl | (simp [*]; done) | (simp; omega), by first | exact Ly.bw (Ly.lay (Ly.alloc (Ly.refl _) _) _ _) | exact bq⟩

end Go.Proofs.YtdhkcdehedbpcaaDoor

namespace Go.Proofs.YtdhkcdehedbpcaaDoor
open Go Go.RowKit

set_option maxHeartbeats 4000000 in
theorem cnt_fld (kn : Nat) (h1 : 0 < kn) (h2 : kn < 33) (N num at_ : Int) (t : List Int) (hN : N ≤ 9223372036854775807) : (cntP (kn : Int) N num && fldP (kn : Int) t num) = wmP ((kn : Int), N, t, num, at_) := by
 have hc : kn = 1 ∨ kn = 2 ∨ kn = 3 ∨ kn = 4 ∨ kn = 5 ∨ kn = 6 ∨ kn = 7 ∨ kn = 8 ∨ kn = 9 ∨ kn = 10 ∨ kn = 11 ∨ kn = 12 ∨ kn = 13 ∨ kn = 14 ∨ kn = 15 ∨ kn = 16 ∨ kn = 17 ∨ kn = 18 ∨ kn = 19 ∨ kn = 20 ∨ kn = 21 ∨ kn = 22 ∨ kn = 23 ∨ kn = 24 ∨ kn = 25 ∨ kn = 26 ∨ kn = 27 ∨ kn = 28 ∨ kn = 29 ∨ kn = 30 ∨ kn = 31 ∨ kn = 32 := by omega
 clear h1 h2
 cases hn : isName t <;> cases hb : binP t
 all_goals
  rcases hc with rfl | rfl | rfl | rfl | rfl | rfl | rfl | rfl | rfl | rfl | rfl | rfl | rfl | rfl | rfl | rfl | rfl | rfl | rfl | rfl | rfl | rfl | rfl | rfl | rfl | rfl | rfl | rfl | rfl | rfl | rfl | rfl
 all_goals
  rw [Bool.eq_iff_iff]
  simp [cntP, fldP, wmP, shpA, shpT, hn, hb]
  try omega

theorem NC.bw {w w' : World} {g o : Nat} {L : List ANode} (h : NC w g o L) (hb : Bw w w') : NC w' g o L :=
 ⟨Nat.lt_of_lt_of_le h.lt hb.size, fun i hi j hj => (World.cell?_of_block (w := w) (w' := w') (a := ⟨g, o + i * 5 + j, none⟩) (hb.block g h.lt)).trans (h.c i hi j hj), h.b⟩

theorem ckR_gt {f : Nat} {r r' : List ANode} {at_ at' : Nat} {a : Int} (h : ckR f r at_ a = .ok r' at') : at_ < at' := by
 cases f with
 | zero => cases h
 | succ f =>
  cases r with
  | nil => cases h
  | cons n r =>
   rw [ckR] at h
   split at h
   ·cases h
   split at h
   ·cases h
   have q := kd_suf (ckR_suf f) n n.2.1.toNat 0 r (at_ + 1)
   rw [h] at q
   have := q.2
   omega

def crV (c : CR) : Int × Int := match c with | .bad p e => ((p : Int), e) | .ok _ at_ => ((at_ : Int), 0)

set_option maxRecDepth 100000 in
set_option maxHeartbeats 16000000 in
theorem rcheck_any (g o cap : Nat) (L : List ANode) (hl : L.length ≤ 1000) : ∀ (f : Nat) (at_ : Nat) (a : Int) (w : World), NC w g o L → at_ ≤ L.length → L.length < at_ + f → 1 ≤ a ∧ a ≤ 8 →
  Calls Tryd.prog 31 #[.slice (some ⟨g, o, none⟩) L.length cap, .int .i64 (at_ : Int), .int .i64 (plR a)] w fun e w' => e = .returned (.tuple #[.int .i64 (crV (ckR f (L.drop at_) at_ a)).1, .int .i64 (crV (ckR f (L.drop at_) at_ a)).2]) ∧ Bw w w' := by
 intro f
 induction f with
 | zero => intro at_ a w h h1 h2; omega
 | succ f ih =>
  intro at_ a w h h1 h2 ha
  by_cases hend : at_ = L.length
  ·subst hend
   have e : ckR (f + 1) (L.drop L.length) L.length a = .bad L.length 6 := by rw [List.drop_length, ckR]
   rw [e]
   have hee : ((L.length : Int) == (L.length : Int)) = true := by simp
   clear h ih h1 h2 e
   generalize plR a = pa
   go_enter Tryd.func31, Tryd.ntmps31
   go_wp2
   all_goals go_ret2
   all_goals exact ⟨rfl, bq⟩
  ·have hlt : at_ < L.length := by omega
   have hne : ((at_ : Int) == (L.length : Int)) = false := by rw [beq_eq_false_iff_ne]; omega
   have hlt2 : (at_ : Int) < (L.length : Int) := by omega
   have ha0 : (0 : Int) ≤ (at_ : Int) := by omega
   have hdrop : L.drop at_ = L[at_] :: L.drop (at_ + 1) := List.drop_eq_getElem_cons hlt
   rw [hdrop, ckR]
   have y0 := h.c at_ hlt 0 (by decide)
   have y1 := h.c at_ hlt 1 (by decide)
   have y2 := h.c at_ hlt 2 (by decide)
   have y3 := h.c at_ hlt 3 (by decide)
   have y4 := h.c at_ hlt 4 (by decide)
   have hb9 := h.b at_ hlt
   have hgl := h.lt
   generalize L[at_] = n at *
   obtain ⟨nk, nN, nt, nu, na⟩ := n
   replace y0 : w.cell? ⟨g, o + at_ * 5, none⟩ = some (.int .i64 nk) := y0
   replace y1 : w.cell? ⟨g, o + at_ * 5 + 1, none⟩ = some (.int .i64 nN) := y1
   replace y2 : w.cell? ⟨g, o + at_ * 5 + 2, none⟩ = some (.string (strOfNums nt)) := y2
   replace y3 : w.cell? ⟨g, o + at_ * 5 + 3, none⟩ = some (.int .i64 nu) := y3
   replace y4 : w.cell? ⟨g, o + at_ * 5 + 4, none⟩ = some (.int .i64 na) := y4
   dsimp only at hb9 ⊢
   have HNC := hid h
   have HNB := hid hb9
   have HIH := hid ih
   have HLT := hid (And.intro h2 hlt)
   clear hdrop h hb9 ih h1 h2 hend
   have HMAY := hid (may_any nk a ha)
   cases hft : ftP nk a
   ·rw [if_pos rfl]
    rw [hft] at HMAY
    clear hft HNB
    generalize strOfNums nt = ss at *
    generalize plR a = pa at *
    go_enter Tryd.func31, Tryd.ntmps31
    go_wp2_with (first
     | (go_at_call 63; refine (HMAY.out _).mono ?_; rintro e w' ⟨rfl, hw'⟩; subst w')
     | fail)
    all_goals go_ret2
    all_goals exact ⟨rfl, bq⟩
   ·rw [if_neg (by decide)]
    rw [hft] at HMAY
    obtain ⟨kn, rfl, hk1, hk2⟩ := ft_kind hft
    have HCNT := hid (count_any kn hk1 hk2 nN nu na (strOfNums nt) HNB.out.1)
    have HFLD := hid (fields_any (kn : Int) nN nu na nt HNB.out.2)
    have hcf := cnt_fld kn hk1 hk2 nN nu na nt HNB.out.1.2
    cases hwm : wmP ((kn : Int), nN, nt, nu, na)
    ·rw [if_pos rfl]
     rw [hwm] at hcf
     clear hft HNB hwm
     generalize plR a = pa at *
     generalize fldP (kn : Int) nt nu = bf at *
     generalize cntP (kn : Int) nN nu = bc at *
     generalize strOfNums nt = ss at *
     cases bc
     ·clear hcf
      go_enter Tryd.func31, Tryd.ntmps31
      go_wp2_with (first
       | (go_at_call 63; refine (HMAY.out _).mono ?_; rintro e w' ⟨rfl, hw'⟩; subst w')
       | (go_at_call 64; refine (HCNT.out _).mono ?_; rintro e w3 ⟨rfl, hb3⟩; have B3 := hid (Bw.trans (show Bw w _ from bq) hb3); clear hb3)
       | fail)
      all_goals go_ret2
      all_goals exact ⟨rfl, B3.out⟩
     ·obtain rfl : bf = false := by simpa using hcf
      clear hcf
      go_enter Tryd.func31, Tryd.ntmps31
      go_wp2_with (first
       | (go_at_call 63; refine (HMAY.out _).mono ?_; rintro e w' ⟨rfl, hw'⟩; subst w')
       | (go_at_call 64; refine (HCNT.out _).mono ?_; rintro e w3 ⟨rfl, hb3⟩; have B3 := hid (Bw.trans (show Bw w _ from bq) hb3); have z0 := ((Blk.new w #[.int .i64 (kn : Int), .int .i64 nN, .string ss, .int .i64 nu, .int .i64 na] 43).bw hb3).cell; have zl := ((Blk.new w #[.int .i64 (kn : Int), .int .i64 nN, .string ss, .int .i64 nu, .int .i64 na] 43).bw hb3).lt; clear hb3)
       | (go_at_call 65; refine (HFLD.out _).mono ?_; rintro e w4 ⟨rfl, hb4⟩; have B4 := hid (B3.out.trans hb4); clear hb4)
       | fail)
      all_goals go_ret2
      all_goals exact ⟨rfl, B4.out⟩
    ·rw [if_neg (by decide)]
     rw [hwm] at hcf
     simp only [Bool.and_eq_true] at hcf
     rw [hcf.1] at HCNT
     rw [hcf.2] at HFLD
     have hnn := wm_nonneg (n := ((kn : Int), nN, nt, nu, na)) hft hwm
     have hwf := wm_facts hwm
     dsimp only at hnn hwf
     obtain ⟨nd, hnd⟩ : ∃ nd : ANode, nd = ((kn : Int), nN, nt, nu, na) := ⟨_, rfl⟩
     obtain ⟨R, hR⟩ : ∃ R, R = kd (ckR f) ((kn : Int), nN, nt, nu, na) nN.toNat 0 (L.drop (at_ + 1)) (at_ + 1) := ⟨_, rfl⟩
     rw [← hR]
     rw [← hnd] at hR
     have HPL := hid (fun (c : Nat) (h1 : (c : Int) < nN) (h2 : c ≤ 100000) (w9 : World) => place_any (kn : Int) nN nu na (strOfNums nt) nt c h1 h2 hwf.1 hwf.2.1 hwf.2.2.1 hwf.2.2.2 w9)
     rw [← hnd] at HPL
     have HR := hid hR
     clear hft HNB hwm hcf hwf hR hnd
     generalize strOfNums nt = ss at *
     generalize plR a = pa at *
     go_enter Tryd.func31, Tryd.ntmps31
     go_wp2_with (first
      | (go_at_call 63; refine (HMAY.out _).mono ?_; rintro e w' ⟨rfl, hw'⟩; subst w')
      | (go_at_call 64; refine (HCNT.out _).mono ?_; rintro e w3 ⟨rfl, hb3⟩; have B3 := hid (Bw.trans (show Bw w _ from bq) hb3); have K3 := hid ((Blk.new w #[.int .i64 (kn : Int), .int .i64 nN, .string ss, .int .i64 nu, .int .i64 na] 43).bw hb3); have z0 := K3.out.cell; have zl := K3.out.lt; clear hb3)
      | (go_at_call 65; refine (HFLD.out _).mono ?_; rintro e w4 ⟨rfl, hb4⟩; have B4 := hid (B3.out.trans hb4); have K4 := hid (K3.out.bw hb4); clear hb4 z0 zl)
      | fail)
     clear HMAY HCNT HFLD K3 B3 y0 y1 y2 y3 y4
     go_loopw [9, 10] (fun u v wr => ∃ k i : Nat, u = .int .i64 (k : Int) ∧ v = .int .i64 (i : Int) ∧ (i : Int) ≤ nN ∧ at_ < k ∧ k ≤ L.length ∧ i < k ∧ kd (ckR f) nd (nN.toNat - i) i (L.drop k) k = R ∧ Bw w4 wr) (fun _ v _ => nN.toNat - (intOf v).toNat)
     case atStart => exact ⟨at_ + 1, 0, by simp, rfl, hnn, by omega, by omega, by omega, HR.out.symm, Bw.refl _⟩
     case round =>
      obtain ⟨k, i, rfl, rfl, hi, hk1', hk2', hik, hr, hbw⟩ := hrel
      have K5 := K4.out.bw hbw
      have z0 := K5.cell
      have zl := K5.lt
      have HBW := hid hbw
      have HRR := hid hr
      have K5H := hid K5
      clear K5 hbw hr HR
      by_cases hiN : (i : Int) < nN
      ·have hq : nN.toNat - i = (nN.toNat - (i + 1)) + 1 := by omega
       have hrr := HRR.out
       rw [hq, kd] at hrr
       have HRR2 := hid hrr
       have HNC5 := hid (HNC.out.bw (B4.out.trans HBW.out))
       have HP := hid (HPL.out i hiN (by omega))
       have HC := hid (fun w9 (hb : Bw wr w9) => HIH.out k (stP nd i) w9 (HNC5.out.bw hb) hk2' (by have := HLT.out; omega) (stP_range nd i))
       have HQ := hid (And.intro hk1' (And.intro hk2' (And.intro hik hiN)))
       have hkb : k ≤ 1000 := by omega
       have hib : i ≤ 1000 := by omega
       have hki : (i : Int) ≤ 1000 := by omega
       clear hrr hq HRR
       cases hc : ckR f (L.drop k) k (stP nd i) with
       | bad p e9 =>
        have herr := ckR_err f (L.drop k) k (stP nd i) (by have := HLT.out; simp; omega)
        rw [hc] at herr
        have hR9 : R = .bad p e9 := by have := HRR2.out; rw [hc] at this; exact this.symm
        subst hR9
        rw [hc] at HC
        have hen : (e9 != 0) = true := by rcases herr with h | h | h <;> subst h <;> rfl
        clear HRR2 hc herr hik hk1' hk2' hi hki
        dsimp only [crV] at HC ⊢
        generalize plR (stP nd i) = ps at *
        generalize stP nd i = pz at *
        go_wp2_with (first
         | (go_at_call 66; refine (HP.out _).mono ?_; rintro e w6 ⟨rfl, hb6⟩; have B6 := hid (Bw.trans (show Bw wr _ from bq) hb6); clear hb6)
         | (go_at_call 31; refine (HC.out _ B6.out).mono ?_; rintro e w7 ⟨rfl, hb7⟩; have B7 := hid (B6.out.trans hb7); clear hb7)
         | fail)
        all_goals go_ret2
        all_goals exact ⟨rfl, B4.out.trans (HBW.out.trans B7.out)⟩
       | ok r' at' =>
        have hsuf := ckR_suf f (L.drop k) k (stP nd i)
        have hgt := ckR_gt hc
        have hlen := ckR_len f (L.drop k) k (stP nd i)
        rw [hc] at hsuf hlen
        obtain ⟨hs1, _⟩ := hsuf
        obtain ⟨hl1, _⟩ := hlen
        have hr' : r' = L.drop at' := by
         rw [hs1, List.drop_drop]
         congr 1
         omega
        have hat : at' ≤ L.length := by
         have := hl1
         rw [List.length_drop] at this
         omega
        have hkd : kd (ckR f) nd (nN.toNat - (i + 1)) ((i + 1 : Nat) : Int) (L.drop at') at' = R := by
         have := HRR2.out
         rw [hc, hr'] at this
         rw [show ((i + 1 : Nat) : Int) = (i : Int) + 1 by omega]
         exact this
        have HKD := hid hkd
        have HAT := hid (And.intro hat hgt)
        rw [hc] at HC
        clear HRR2 hc hik hk1' hk2' hi hki hs1 hl1 hr' hat hkd hgt
        dsimp only [crV] at HC
        generalize plR (stP nd i) = ps at *
        generalize stP nd i = pz at *
        go_wp2_with (first
         | (go_at_call 66; refine (HP.out _).mono ?_; rintro e w6 ⟨rfl, hb6⟩; have B6 := hid (Bw.trans (show Bw wr _ from bq) hb6); clear hb6)
         | (go_at_call 31; refine (HC.out _ B6.out).mono ?_; rintro e w7 ⟨rfl, hb7⟩; have B7 := hid (B6.out.trans hb7); clear hb7)
         | fail)
        go_roundw
        case rel =>
         have q1 := HAT.out
         have q2 := HQ.out
         exact ⟨at', i + 1, rfl, by go_num, by omega, by omega, q1.1, by omega, HKD.out, HBW.out.trans B7.out⟩
        case measure => simp [intOf]; omega
      ·have hR9 : R = .ok (L.drop k) k := by
        rw [← HRR.out, show nN.toNat - i = 0 by omega, kd]
       subst hR9
       clear HRR HIH HPL HNC
       have hN2 : nN ≤ (i : Int) := by omega
       clear hiN hi
       go_wp2
       all_goals go_ret2
       all_goals exact ⟨rfl, B4.out.trans HBW.out⟩

end Go.Proofs.YtdhkcdehedbpcaaDoor

