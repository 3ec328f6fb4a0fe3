/- The document's may, place, count, fields: contracts. · The document's count, fields: contracts. -/
import Derived.Test.YtlcieebneclmpaaDoorC3
import Derived.Deep.QuietTactic
import Derived.BigQuiet
set_option linter.unusedSimpArgs false
set_option linter.unusedVariables false
namespace Go.Proofs.YtlcieebneclmpaaDoor
open Go Go.RowKit

/-- The document's number of what is asked for. -/
def plR (a : Int) : Int := if a = 1 then 0 else if a = 2 then 1 else if a = 3 then 2 else if a = 4 then 7 else if a = 5 then 6 else if a = 6 then 3 else if a = 7 then 4 else 5

theorem ft_of {a : Int} {p : Int → Bool} (h1 : ∀ n : Nat, n < 33 → ftP (n : Int) a = p (n : Int)) (h2 : ∀ k : Int, k < 0 ∨ 33 ≤ k → p k = false) (k : Int) : ftP k a = p k := by
  by_cases hk : k < 0 ∨ 33 ≤ k
  · rw [h2 k hk]
    unfold ftP
    rw [if_pos (by omega)]
  · obtain ⟨n, rfl⟩ : ∃ n : Nat, k = (n : Int) := ⟨k.toNat, by omega⟩
    exact h1 n (by omega)

theorem ft1 (k : Int) : ftP k 1 = (k == 1) := ft_of (p := fun k => k == 1) (by decide) (fun k h => by simp; omega) k
theorem ft2 (k : Int) : ftP k 2 = (decide (2 ≤ k) && decide (k ≤ 13)) := ft_of (p := fun k => decide (2 ≤ k) && decide (k ≤ 13)) (by decide) (fun k h => by simp; omega) k
theorem ft3 (k : Int) : ftP k 3 = (decide (14 ≤ k) && decide (k ≤ 32) && (k != 22)) := ft_of (p := fun k => decide (14 ≤ k) && decide (k ≤ 32) && (k != 22)) (by decide) (fun k h => by simp; omega) k
theorem ft4 (k : Int) : ftP k 4 = (k == 22) := ft_of (p := fun k => k == 22) (by decide) (fun k h => by simp; omega) k
theorem ft5 (k : Int) : ftP k 5 = (k == 19) := ft_of (p := fun k => k == 19) (by decide) (fun k h => by simp; omega) k
theorem ft6 (k : Int) : ftP k 6 = (k == 2) := ft_of (p := fun k => k == 2) (by decide) (fun k h => by simp; omega) k
theorem ft7 (k : Int) : ftP k 7 = (k == 2 || k == 5) := ft_of (p := fun k => k == 2 || k == 5) (by decide) (fun k h => by simp; omega) k
theorem ft8 (k : Int) : ftP k 8 = (k == 19 || k == 29 || k == 30) := ft_of (p := fun k => k == 19 || k == 29 || k == 30) (by decide) (fun k h => by simp; omega) k

set_option maxRecDepth 100000 in
set_option maxHeartbeats 4000000 in
theorem may_any (k a : Int) (ha : 1 ≤ a ∧ a ≤ 8) (w : World) :
    Calls Tryd.prog 34 #[.int .i64 k, .int .i64 (plR a)] w fun e w' => e = .returned (.bool (ftP k a)) ∧ w' = w := by
  have hc : a = 1 ∨ a = 2 ∨ a = 3 ∨ a = 4 ∨ a = 5 ∨ a = 6 ∨ a = 7 ∨ a = 8 := by omega
  clear ha
  rcases hc with rfl | rfl | rfl | rfl | rfl | rfl | rfl | rfl
  · rw [ft1, show plR 1 = 0 from rfl]
    go_enter Tryd.func34, Tryd.ntmps34
    go_wp2
    all_goals go_ret
    all_goals exact ⟨by first | rfl | (simp [*]; done) | (simp; omega), rfl⟩
  · rw [ft2, show plR 2 = 1 from rfl]
    go_enter Tryd.func34, Tryd.ntmps34
    go_wp2
    all_goals go_ret
    all_goals exact ⟨by first | rfl | (simp [*]; done) | (simp; omega), rfl⟩
  · rw [ft3, show plR 3 = 2 from rfl]
    go_enter Tryd.func34, Tryd.ntmps34
    go_wp2
    all_goals go_ret
    all_goals exact ⟨by first | rfl | (simp [*]; done) | (simp; omega), rfl⟩
  · rw [ft4, show plR 4 = 7 from rfl]
    go_enter Tryd.func34, Tryd.ntmps34
    go_wp2
    all_goals go_ret
    all_goals exact ⟨by first | rfl | (simp [*]; done) | (simp; omega), rfl⟩
  · rw [ft5, show plR 5 = 6 from rfl]
    go_enter Tryd.func34, Tryd.ntmps34
    go_wp2
    all_goals go_ret
    all_goals exact ⟨by first | rfl | (simp [*]; done) | (simp; omega), rfl⟩
  · rw [ft6, show plR 6 = 3 from rfl]
    go_enter Tryd.func34, Tryd.ntmps34
    go_wp2
    all_goals go_ret
    all_goals exact ⟨by first | rfl | (simp [*]; done) | (simp; omega), rfl⟩
  · rw [ft7, show plR 7 = 4 from rfl]
    go_enter Tryd.func34, Tryd.ntmps34
    go_wp2
    all_goals go_ret
    all_goals exact ⟨by first | rfl | (simp [*]; done) | (simp; omega), rfl⟩
  · rw [ft8, show plR 8 = 5 from rfl]
    go_enter Tryd.func34, Tryd.ntmps34
    go_wp2
    all_goals go_ret
    all_goals exact ⟨by first | rfl | (simp [*]; done) | (simp; omega), rfl⟩

set_option maxRecDepth 100000 in
set_option maxHeartbeats 8000000 in
theorem place_any (k N num at_ : Int) (s : ByteArray) (t : List Int) (c : Nat) (hc : (c : Int) < N) (hc2 : c ≤ 100000) (h4 : k = 4 → N ≤ 2) (h5 : k = 5 → N ≤ 3) (h6 : k = 6 → N ≤ 2) (h12 : k = 12 ∨ k = 31 → num = N - 1 ∧ N ≤ 17) (w : World) :
    Calls Tryd.prog 37 #[.agg #[.int .i64 k, .int .i64 N, .string s, .int .i64 num, .int .i64 at_], .int .i64 (c : Int)] w fun e w' => e = .returned (.int .i64 (plR (stP (k, N, t, num, at_) (c : Int)))) ∧ Bw w w' := by
  unfold stP
  dsimp only
  by_cases k1 : k = 1
  · subst k1
    rw [if_pos (.inl rfl)]
    go_enter Tryd.func37, Tryd.ntmps37
    go_wp2
    all_goals go_ret
    all_goals exact ⟨by first | rfl | (simp [*]; done) | (simp; omega), (by repeat (first | exact Bw.refl _ | apply Bw.alloc | apply Bw.drewN | apply Bw.drew))⟩
  by_cases k2 : k = 2
  · subst k2
    rw [if_pos (.inr rfl)]
    go_enter Tryd.func37, Tryd.ntmps37
    go_wp2
    all_goals go_ret
    all_goals exact ⟨by first | rfl | (simp [*]; done) | (simp; omega), (by repeat (first | exact Bw.refl _ | apply Bw.alloc | apply Bw.drewN | apply Bw.drew))⟩
  by_cases k11 : k = 11
  · subst k11
    rw [if_neg (by decide), if_pos rfl]
    go_enter Tryd.func37, Tryd.ntmps37
    go_wp2
    all_goals go_ret
    all_goals exact ⟨by first | rfl | (simp [*]; done) | (simp; omega), (by repeat (first | exact Bw.refl _ | apply Bw.alloc | apply Bw.drewN | apply Bw.drew))⟩
  by_cases k21 : k = 21
  · subst k21
    rw [if_neg (by decide), if_neg (by decide), if_pos rfl]
    go_enter Tryd.func37, Tryd.ntmps37
    go_wp2
    all_goals go_ret
    all_goals exact ⟨by first | rfl | (simp [*]; done) | (simp; omega), (by repeat (first | exact Bw.refl _ | apply Bw.alloc | apply Bw.drewN | apply Bw.drew))⟩
  by_cases k4 : k = 4
  · subst k4
    rw [if_neg (by decide), if_neg (by decide), if_neg (by decide), if_pos rfl]
    have hc9 : c = 0 ∨ c = 1 := by have := h4 rfl; omega
    clear h4 h5 h6 h12 hc hc2
    rcases hc9 with rfl | rfl
    · rw [if_pos (show ((0 : Nat) : Int) = 0 from rfl)]
      go_enter Tryd.func37, Tryd.ntmps37
      go_wp2
      all_goals go_ret
      all_goals exact ⟨by first | rfl | (simp [*]; done) | (simp; omega), (by repeat (first | exact Bw.refl _ | apply Bw.alloc | apply Bw.drewN | apply Bw.drew))⟩
    · rw [if_neg (by decide)]
      go_enter Tryd.func37, Tryd.ntmps37
      go_wp2
      all_goals go_ret
      all_goals exact ⟨by first | rfl | (simp [*]; done) | (simp; omega), (by repeat (first | exact Bw.refl _ | apply Bw.alloc | apply Bw.drewN | apply Bw.drew))⟩
  by_cases k5 : k = 5
  · subst k5
    rw [if_neg (by decide), if_neg (by decide), if_neg (by decide), if_neg (by decide), if_pos (.inl rfl)]
    have hc9 : c = 0 ∨ c = 1 ∨ c = 2 := by have := h5 rfl; omega
    clear h4 h5 h6 h12 hc hc2
    rcases hc9 with rfl | rfl | rfl
    · rw [if_pos (show ((0 : Nat) : Int) = 0 from rfl)]
      go_enter Tryd.func37, Tryd.ntmps37
      go_wp2
      all_goals go_ret
      all_goals exact ⟨by first | rfl | (simp [*]; done) | (simp; omega), (by repeat (first | exact Bw.refl _ | apply Bw.alloc | apply Bw.drewN | apply Bw.drew))⟩
    · rw [if_neg (by decide), if_pos (show ((1 : Nat) : Int) = 1 from rfl)]
      go_enter Tryd.func37, Tryd.ntmps37
      go_wp2
      all_goals go_ret
      all_goals exact ⟨by first | rfl | (simp [*]; done) | (simp; omega), (by repeat (first | exact Bw.refl _ | apply Bw.alloc | apply Bw.drewN | apply Bw.drew))⟩
    · rw [if_neg (by decide), if_neg (by decide)]
      go_enter Tryd.func37, Tryd.ntmps37
      go_wp2
      all_goals go_ret
      all_goals exact ⟨by first | rfl | (simp [*]; done) | (simp; omega), (by repeat (first | exact Bw.refl _ | apply Bw.alloc | apply Bw.drewN | apply Bw.drew))⟩
  by_cases k6 : k = 6
  · subst k6
    rw [if_neg (by decide), if_neg (by decide), if_neg (by decide), if_neg (by decide), if_pos (.inr rfl)]
    have hc9 : c = 0 ∨ c = 1 := by have := h6 rfl; omega
    clear h4 h5 h6 h12 hc hc2
    rcases hc9 with rfl | rfl
    · rw [if_pos (show ((0 : Nat) : Int) = 0 from rfl)]
      go_enter Tryd.func37, Tryd.ntmps37
      go_wp2
      all_goals go_ret
      all_goals exact ⟨by first | rfl | (simp [*]; done) | (simp; omega), (by repeat (first | exact Bw.refl _ | apply Bw.alloc | apply Bw.drewN | apply Bw.drew))⟩
    · rw [if_neg (by decide), if_pos (show ((1 : Nat) : Int) = 1 from rfl)]
      go_enter Tryd.func37, Tryd.ntmps37
      go_wp2
      all_goals go_ret
      all_goals exact ⟨by first | rfl | (simp [*]; done) | (simp; omega), (by repeat (first | exact Bw.refl _ | apply Bw.alloc | apply Bw.drewN | apply Bw.drew))⟩
  by_cases k12 : k = 12
  · subst k12
    obtain ⟨hnum, hN17⟩ := h12 (.inl rfl)
    have hN0 : 0 ≤ N := by omega
    subst hnum
    rw [if_neg (by decide), if_neg (by decide), if_neg (by decide), if_neg (by decide), if_neg (by decide), if_pos (.inl rfl)]
    clear h4 h5 h6 h12
    by_cases hcn : (c : Int) < N - 1
    · rw [if_pos hcn]
      go_enter Tryd.func37, Tryd.ntmps37
      go_wp2
      all_goals go_ret
      all_goals exact ⟨by first | rfl | (simp [*]; done) | (simp; omega), (by repeat (first | exact Bw.refl _ | apply Bw.alloc | apply Bw.drewN | apply Bw.drew))⟩
    · rw [if_neg hcn]
      go_enter Tryd.func37, Tryd.ntmps37
      go_wp2
      all_goals go_ret
      all_goals exact ⟨by first | rfl | (simp [*]; done) | (simp; omega), (by repeat (first | exact Bw.refl _ | apply Bw.alloc | apply Bw.drewN | apply Bw.drew))⟩
  by_cases k31 : k = 31
  · subst k31
    obtain ⟨hnum, hN17⟩ := h12 (.inr rfl)
    have hN0 : 0 ≤ N := by omega
    subst hnum
    rw [if_neg (by decide), if_neg (by decide), if_neg (by decide), if_neg (by decide), if_neg (by decide), if_pos (.inr rfl)]
    clear h4 h5 h6 h12
    by_cases hcn : (c : Int) < N - 1
    · rw [if_pos hcn]
      go_enter Tryd.func37, Tryd.ntmps37
      go_wp2
      all_goals go_ret
      all_goals exact ⟨by first | rfl | (simp [*]; done) | (simp; omega), (by repeat (first | exact Bw.refl _ | apply Bw.alloc | apply Bw.drewN | apply Bw.drew))⟩
    · rw [if_neg hcn]
      go_enter Tryd.func37, Tryd.ntmps37
      go_wp2
      all_goals go_ret
      all_goals exact ⟨by first | rfl | (simp [*]; done) | (simp; omega), (by repeat (first | exact Bw.refl _ | apply Bw.alloc | apply Bw.drewN | apply Bw.drew))⟩
  rw [if_neg (by omega), if_neg (by omega), if_neg (by omega), if_neg (by omega), if_neg (by omega), if_neg (by omega)]
  clear h4 h5 h6 h12
  go_enter Tryd.func37, Tryd.ntmps37
  go_wp2
  all_goals go_ret
  all_goals exact ⟨by first | rfl | (simp [*]; done) | (simp; omega), (by repeat (first | exact Bw.refl _ | apply Bw.alloc | apply Bw.drewN | apply Bw.drew))⟩

end Go.Proofs.YtlcieebneclmpaaDoor

set_option linter.unusedSimpArgs false
set_option linter.unusedVariables false
namespace Go.Proofs.YtlcieebneclmpaaDoor
open Go Go.RowKit

def cntP (k N num : Int) : Bool :=
  if k = 7 ∨ k = 8 ∨ k = 14 ∨ k = 15 ∨ k = 16 ∨ k = 17 ∨ k = 18 ∨ k = 19 then N == 0
  else if k = 3 ∨ k = 10 ∨ k = 13 ∨ k = 22 ∨ k = 26 ∨ k = 27 ∨ k = 30 then N == 1
  else if k = 4 ∨ k = 6 ∨ k = 11 ∨ k = 23 ∨ k = 24 ∨ k = 25 ∨ k = 29 then N == 2
  else if k = 5 then N == 2 || N == 3
  else if k = 9 then N == 0 || N == 1
  else if k = 28 ∨ k = 32 then decide (1 ≤ N) && decide (N ≤ 17)
  else if k = 12 ∨ k = 31 then decide (0 ≤ num) && decide (num ≤ 16) && (N == num + 1)
  else decide (0 ≤ N)

def fldP (k : Int) (t : List Int) (num : Int) : Bool :=
  if k = 3 ∨ k = 11 ∨ k = 12 ∨ k = 19 ∨ k = 22 ∨ k = 30 then isName t
  else if k = 14 then decide (0 ≤ num) && decide (num ≤ 2305843009213693951)
  else if k = 23 then binP t
  else true

set_option maxRecDepth 100000 in
set_option maxHeartbeats 16000000 in
theorem count_any (kn : Nat) (h1 : 0 < kn) (h2 : kn < 33) (N num at_ : Int) (s : ByteArray) (hN : -9223372036854775808 ≤ N ∧ N ≤ 9223372036854775807) (w : World) :
    Calls Tryd.prog 35 #[.agg #[.int .i64 (kn : Int), .int .i64 N, .string s, .int .i64 num, .int .i64 at_]] w fun e w' => e = .returned (.bool (cntP (kn : Int) N num)) ∧ Bw w w' := by
  have hc : kn = 1 ∨ kn = 2 ∨ kn = 3 ∨ kn = 4 ∨ kn = 5 ∨ kn = 6 ∨ kn = 7 ∨ kn = 8 ∨ kn = 9 ∨ kn = 10 ∨ kn = 11 ∨ kn = 12 ∨ kn = 13 ∨ kn = 14 ∨ kn = 15 ∨ kn = 16 ∨ kn = 17 ∨ kn = 18 ∨ kn = 19 ∨ kn = 20 ∨ kn = 21 ∨ kn = 22 ∨ kn = 23 ∨ kn = 24 ∨ kn = 25 ∨ kn = 26 ∨ kn = 27 ∨ kn = 28 ∨ kn = 29 ∨ kn = 30 ∨ kn = 31 ∨ kn = 32 := by omega
  clear h1 h2
  rcases hc with rfl | rfl | rfl | rfl | rfl | rfl | rfl | rfl | rfl | rfl | rfl | rfl | rfl | rfl | rfl | rfl | rfl | rfl | rfl | rfl | rfl | rfl | rfl | rfl | rfl | rfl | rfl | rfl | rfl | rfl | rfl | rfl
  · rw [show cntP ((1 : Nat) : Int) N num = decide (0 ≤ N) from rfl]
    go_enter Tryd.func35, Tryd.ntmps35
    go_wp2
    all_goals go_ret
    all_goals exact ⟨by first | rfl | (simp [*]; done) | (simp; omega), (by repeat (first | exact Bw.refl _ | apply Bw.alloc | apply Bw.drewN | apply Bw.drew))⟩
  · rw [show cntP ((2 : Nat) : Int) N num = decide (0 ≤ N) from rfl]
    go_enter Tryd.func35, Tryd.ntmps35
    go_wp2
    all_goals go_ret
    all_goals exact ⟨by first | rfl | (simp [*]; done) | (simp; omega), (by repeat (first | exact Bw.refl _ | apply Bw.alloc | apply Bw.drewN | apply Bw.drew))⟩
  · rw [show cntP ((3 : Nat) : Int) N num = (N == 1) from rfl]
    go_enter Tryd.func35, Tryd.ntmps35
    go_wp2
    all_goals go_ret
    all_goals exact ⟨by first | rfl | (simp [*]; done) | (simp; omega), (by repeat (first | exact Bw.refl _ | apply Bw.alloc | apply Bw.drewN | apply Bw.drew))⟩
  · rw [show cntP ((4 : Nat) : Int) N num = (N == 2) from rfl]
    go_enter Tryd.func35, Tryd.ntmps35
    go_wp2
    all_goals go_ret
    all_goals exact ⟨by first | rfl | (simp [*]; done) | (simp; omega), (by repeat (first | exact Bw.refl _ | apply Bw.alloc | apply Bw.drewN | apply Bw.drew))⟩
  · rw [show cntP ((5 : Nat) : Int) N num = (N == 2 || N == 3) from rfl]
    go_enter Tryd.func35, Tryd.ntmps35
    go_wp2
    all_goals go_ret
    all_goals exact ⟨by first | rfl | (simp [*]; done) | (simp; omega), (by repeat (first | exact Bw.refl _ | apply Bw.alloc | apply Bw.drewN | apply Bw.drew))⟩
  · rw [show cntP ((6 : Nat) : Int) N num = (N == 2) from rfl]
    go_enter Tryd.func35, Tryd.ntmps35
    go_wp2
    all_goals go_ret
    all_goals exact ⟨by first | rfl | (simp [*]; done) | (simp; omega), (by repeat (first | exact Bw.refl _ | apply Bw.alloc | apply Bw.drewN | apply Bw.drew))⟩
  · rw [show cntP ((7 : Nat) : Int) N num = (N == 0) from rfl]
    go_enter Tryd.func35, Tryd.ntmps35
    go_wp2
    all_goals go_ret
    all_goals exact ⟨by first | rfl | (simp [*]; done) | (simp; omega), (by repeat (first | exact Bw.refl _ | apply Bw.alloc | apply Bw.drewN | apply Bw.drew))⟩
  · rw [show cntP ((8 : Nat) : Int) N num = (N == 0) from rfl]
    go_enter Tryd.func35, Tryd.ntmps35
    go_wp2
    all_goals go_ret
    all_goals exact ⟨by first | rfl | (simp [*]; done) | (simp; omega), (by repeat (first | exact Bw.refl _ | apply Bw.alloc | apply Bw.drewN | apply Bw.drew))⟩
  · rw [show cntP ((9 : Nat) : Int) N num = (N == 0 || N == 1) from rfl]
    go_enter Tryd.func35, Tryd.ntmps35
    go_wp2
    all_goals go_ret
    all_goals exact ⟨by first | rfl | (simp [*]; done) | (simp; omega), (by repeat (first | exact Bw.refl _ | apply Bw.alloc | apply Bw.drewN | apply Bw.drew))⟩
  · rw [show cntP ((10 : Nat) : Int) N num = (N == 1) from rfl]
    go_enter Tryd.func35, Tryd.ntmps35
    go_wp2
    all_goals go_ret
    all_goals exact ⟨by first | rfl | (simp [*]; done) | (simp; omega), (by repeat (first | exact Bw.refl _ | apply Bw.alloc | apply Bw.drewN | apply Bw.drew))⟩
  · rw [show cntP ((11 : Nat) : Int) N num = (N == 2) from rfl]
    go_enter Tryd.func35, Tryd.ntmps35
    go_wp2
    all_goals go_ret
    all_goals exact ⟨by first | rfl | (simp [*]; done) | (simp; omega), (by repeat (first | exact Bw.refl _ | apply Bw.alloc | apply Bw.drewN | apply Bw.drew))⟩
  · rw [show cntP ((12 : Nat) : Int) N num = (decide (0 ≤ num) && decide (num ≤ 16) && (N == num + 1)) from rfl]
    go_enter Tryd.func35, Tryd.ntmps35
    go_wp2
    all_goals go_ret
    all_goals exact ⟨by first | rfl | (simp [*]; done) | (simp; omega), (by repeat (first | exact Bw.refl _ | apply Bw.alloc | apply Bw.drewN | apply Bw.drew))⟩
  · rw [show cntP ((13 : Nat) : Int) N num = (N == 1) from rfl]
    go_enter Tryd.func35, Tryd.ntmps35
    go_wp2
    all_goals go_ret
    all_goals exact ⟨by first | rfl | (simp [*]; done) | (simp; omega), (by repeat (first | exact Bw.refl _ | apply Bw.alloc | apply Bw.drewN | apply Bw.drew))⟩
  · rw [show cntP ((14 : Nat) : Int) N num = (N == 0) from rfl]
    go_enter Tryd.func35, Tryd.ntmps35
    go_wp2
    all_goals go_ret
    all_goals exact ⟨by first | rfl | (simp [*]; done) | (simp; omega), (by repeat (first | exact Bw.refl _ | apply Bw.alloc | apply Bw.drewN | apply Bw.drew))⟩
  · rw [show cntP ((15 : Nat) : Int) N num = (N == 0) from rfl]
    go_enter Tryd.func35, Tryd.ntmps35
    go_wp2
    all_goals go_ret
    all_goals exact ⟨by first | rfl | (simp [*]; done) | (simp; omega), (by repeat (first | exact Bw.refl _ | apply Bw.alloc | apply Bw.drewN | apply Bw.drew))⟩
  · rw [show cntP ((16 : Nat) : Int) N num = (N == 0) from rfl]
    go_enter Tryd.func35, Tryd.ntmps35
    go_wp2
    all_goals go_ret
    all_goals exact ⟨by first | rfl | (simp [*]; done) | (simp; omega), (by repeat (first | exact Bw.refl _ | apply Bw.alloc | apply Bw.drewN | apply Bw.drew))⟩
  · rw [show cntP ((17 : Nat) : Int) N num = (N == 0) from rfl]
    go_enter Tryd.func35, Tryd.ntmps35
    go_wp2
    all_goals go_ret
    all_goals exact ⟨by first | rfl | (simp [*]; done) | (simp; omega), (by repeat (first | exact Bw.refl _ | apply Bw.alloc | apply Bw.drewN | apply Bw.drew))⟩
  · rw [show cntP ((18 : Nat) : Int) N num = (N == 0) from rfl]
    go_enter Tryd.func35, Tryd.ntmps35
    go_wp2
    all_goals go_ret
    all_goals exact ⟨by first | rfl | (simp [*]; done) | (simp; omega), (by repeat (first | exact Bw.refl _ | apply Bw.alloc | apply Bw.drewN | apply Bw.drew))⟩
  · rw [show cntP ((19 : Nat) : Int) N num = (N == 0) from rfl]
    go_enter Tryd.func35, Tryd.ntmps35
    go_wp2
    all_goals go_ret
    all_goals exact ⟨by first | rfl | (simp [*]; done) | (simp; omega), (by repeat (first | exact Bw.refl _ | apply Bw.alloc | apply Bw.drewN | apply Bw.drew))⟩
  · rw [show cntP ((20 : Nat) : Int) N num = decide (0 ≤ N) from rfl]
    go_enter Tryd.func35, Tryd.ntmps35
    go_wp2
    all_goals go_ret
    all_goals exact ⟨by first | rfl | (simp [*]; done) | (simp; omega), (by repeat (first | exact Bw.refl _ | apply Bw.alloc | apply Bw.drewN | apply Bw.drew))⟩
  · rw [show cntP ((21 : Nat) : Int) N num = decide (0 ≤ N) from rfl]
    go_enter Tryd.func35, Tryd.ntmps35
    go_wp2
    all_goals go_ret
    all_goals exact ⟨by first | rfl | (simp [*]; done) | (simp; omega), (by repeat (first | exact Bw.refl _ | apply Bw.alloc | apply Bw.drewN | apply Bw.drew))⟩
  · rw [show cntP ((22 : Nat) : Int) N num = (N == 1) from rfl]
    go_enter Tryd.func35, Tryd.ntmps35
    go_wp2
    all_goals go_ret
    all_goals exact ⟨by first | rfl | (simp [*]; done) | (simp; omega), (by repeat (first | exact Bw.refl _ | apply Bw.alloc | apply Bw.drewN | apply Bw.drew))⟩
  · rw [show cntP ((23 : Nat) : Int) N num = (N == 2) from rfl]
    go_enter Tryd.func35, Tryd.ntmps35
    go_wp2
    all_goals go_ret
    all_goals exact ⟨by first | rfl | (simp [*]; done) | (simp; omega), (by repeat (first | exact Bw.refl _ | apply Bw.alloc | apply Bw.drewN | apply Bw.drew))⟩
  · rw [show cntP ((24 : Nat) : Int) N num = (N == 2) from rfl]
    go_enter Tryd.func35, Tryd.ntmps35
    go_wp2
    all_goals go_ret
    all_goals exact ⟨by first | rfl | (simp [*]; done) | (simp; omega), (by repeat (first | exact Bw.refl _ | apply Bw.alloc | apply Bw.drewN | apply Bw.drew))⟩
  · rw [show cntP ((25 : Nat) : Int) N num = (N == 2) from rfl]
    go_enter Tryd.func35, Tryd.ntmps35
    go_wp2
    all_goals go_ret
    all_goals exact ⟨by first | rfl | (simp [*]; done) | (simp; omega), (by repeat (first | exact Bw.refl _ | apply Bw.alloc | apply Bw.drewN | apply Bw.drew))⟩
  · rw [show cntP ((26 : Nat) : Int) N num = (N == 1) from rfl]
    go_enter Tryd.func35, Tryd.ntmps35
    go_wp2
    all_goals go_ret
    all_goals exact ⟨by first | rfl | (simp [*]; done) | (simp; omega), (by repeat (first | exact Bw.refl _ | apply Bw.alloc | apply Bw.drewN | apply Bw.drew))⟩
  · rw [show cntP ((27 : Nat) : Int) N num = (N == 1) from rfl]
    go_enter Tryd.func35, Tryd.ntmps35
    go_wp2
    all_goals go_ret
    all_goals exact ⟨by first | rfl | (simp [*]; done) | (simp; omega), (by repeat (first | exact Bw.refl _ | apply Bw.alloc | apply Bw.drewN | apply Bw.drew))⟩
  · rw [show cntP ((28 : Nat) : Int) N num = (decide (1 ≤ N) && decide (N ≤ 17)) from rfl]
    go_enter Tryd.func35, Tryd.ntmps35
    go_wp2
    all_goals go_ret
    all_goals exact ⟨by first | rfl | (simp [*]; done) | (simp; omega), (by repeat (first | exact Bw.refl _ | apply Bw.alloc | apply Bw.drewN | apply Bw.drew))⟩
  · rw [show cntP ((29 : Nat) : Int) N num = (N == 2) from rfl]
    go_enter Tryd.func35, Tryd.ntmps35
    go_wp2
    all_goals go_ret
    all_goals exact ⟨by first | rfl | (simp [*]; done) | (simp; omega), (by repeat (first | exact Bw.refl _ | apply Bw.alloc | apply Bw.drewN | apply Bw.drew))⟩
  · rw [show cntP ((30 : Nat) : Int) N num = (N == 1) from rfl]
    go_enter Tryd.func35, Tryd.ntmps35
    go_wp2
    all_goals go_ret
    all_goals exact ⟨by first | rfl | (simp [*]; done) | (simp; omega), (by repeat (first | exact Bw.refl _ | apply Bw.alloc | apply Bw.drewN | apply Bw.drew))⟩
  · rw [show cntP ((31 : Nat) : Int) N num = (decide (0 ≤ num) && decide (num ≤ 16) && (N == num + 1)) from rfl]
    go_enter Tryd.func35, Tryd.ntmps35
    go_wp2
    all_goals go_ret
    all_goals exact ⟨by first | rfl | (simp [*]; done) | (simp; omega), (by repeat (first | exact Bw.refl _ | apply Bw.alloc | apply Bw.drewN | apply Bw.drew))⟩
  · rw [show cntP ((32 : Nat) : Int) N num = (decide (1 ≤ N) && decide (N ≤ 17)) from rfl]
    go_enter Tryd.func35, Tryd.ntmps35
    go_wp2
    all_goals go_ret
    all_goals exact ⟨by first | rfl | (simp [*]; done) | (simp; omega), (by repeat (first | exact Bw.refl _ | apply Bw.alloc | apply Bw.drewN | apply Bw.drew))⟩

/-- The signs between two, in the document's order. -/
def bsL : List (List Int) := [[61, 61], [33, 61], [60], [60, 61], [62], [62, 61], [43], [45], [42], [47], [37]]
def bsv : Array Value := (bsL.map fun s => Value.string (strOfNums s)).toArray

theorem bs_get (i : Nat) (h : i < 11) : ∃ s, bsL[i]? = some s ∧ bsv[i]? = some (.string (strOfNums s)) ∧ (∀ c ∈ s, 0 ≤ c ∧ c ≤ 255) := by
  have : ∀ i : Fin 11, (∀ c ∈ bsL.getD i.val [], 0 ≤ c ∧ c ≤ 255) := by decide
  have hi : bsL[i]? = some (bsL.getD i []) := by
    rw [List.getD_eq_getElem?_getD, List.getElem?_eq_getElem (by exact h)]; rfl
  refine ⟨_, hi, ?_, this ⟨i, h⟩⟩
  unfold bsv
  rw [List.getElem?_toArray, List.getElem?_map, hi]; rfl

theorem bin_iff (t : List Int) (hb : ∀ c ∈ t, 0 ≤ c ∧ c ≤ 255) : binP t = decide (t ∈ bsL) := by
  have key : ∀ s ∈ bsL, decide (strOfNums t = strOfNums s) = decide (t = s) := by
    intro s hs
    have hb2 : ∀ c ∈ s, 0 ≤ c ∧ c ≤ 255 := by
      have : ∀ s ∈ bsL, ∀ c ∈ s, 0 ≤ c ∧ c ≤ 255 := by decide
      exact this s hs
    by_cases h : t = s
    · subst h; simp
    · rw [decide_eq_false h]
      have := strOf_ne hb hb2 h
      exact decide_eq_false (by intro e; rw [e] at this; simp at this)
  unfold binP
  rw [show [[43], [45], [42], [47], [37], [61, 61], [33, 61], [60], [60, 61], [62], [62, 61]].any (fun s => decide (strOfNums t = strOfNums s)) = [[43], [45], [42], [47], [37], [61, 61], [33, 61], [60], [60, 61], [62], [62, 61]].any (fun s => decide (t = s)) from by
    simp only [List.any_cons, List.any_nil]
    rw [key [43] (by decide), key [45] (by decide), key [42] (by decide), key [47] (by decide), key [37] (by decide), key [61, 61] (by decide), key [33, 61] (by decide), key [60] (by decide), key [60, 61] (by decide), key [62] (by decide), key [62, 61] (by decide)]]
  rw [Bool.eq_iff_iff]
  simp only [List.any_eq_true, decide_eq_true_eq, bsL, List.mem_cons, List.not_mem_nil, or_false]
  constructor
  · rintro ⟨s, hs, rfl⟩
    rcases hs with h | h | h | h | h | h | h | h | h | h | h <;> simp [h]
  · intro h
    exact ⟨t, by rcases h with h | h | h | h | h | h | h | h | h | h | h <;> simp [h], rfl⟩

set_option maxRecDepth 100000 in
set_option maxHeartbeats 8000000 in
theorem fields23_any (N num at_ : Int) (t : List Int) (hb : ∀ c ∈ t, 0 ≤ c ∧ c ≤ 255) (w : World) :
    Calls Tryd.prog 36 #[.agg #[.int .i64 23, .int .i64 N, .string (strOfNums t), .int .i64 num, .int .i64 at_]] w fun e w' => e = .returned (.bool (binP t)) ∧ Bw w w' := by
  rw [bin_iff t hb]
  have HBD := hid hb
  clear hb
  go_enter Tryd.func36, Tryd.ntmps36
  go_wp2
  go_loopw [4] (fun j wr => ∃ i m : Nat, i ≤ 11 ∧ j = .int .i64 (i : Nat) ∧ wr = ((w.alloc (.cells #[.int .i64 23, .int .i64 N, .string (strOfNums t), .int .i64 num, .int .i64 at_] 38)).alloc (.cells bsv 85)).drewN m ∧ (bsL.take i).all (fun s => decide (s ≠ t)) = true) (fun j _ => 11 - (intOf j).toNat)
  case atStart => exact ⟨0, 0, Nat.zero_le _, rfl, rfl, by simp⟩
  case round =>
    obtain ⟨i, m, hi, rfl, hwr, ha⟩ := hrel
    subst wr
    have HA := hid ha
    clear ha
    by_cases hlt : i < 11
    · obtain ⟨s, hs1, hs2, hs5⟩ := bs_get i hlt
      have hlt2 : (i : Int) < 11 := by omega
      have hi0 : (0 : Int) ≤ (i : Int) := by omega
      have hc : ((w.alloc (.cells #[.int .i64 23, .int .i64 N, .string (strOfNums t), .int .i64 num, .int .i64 at_] 38)).alloc (.cells bsv 85)).cell? ⟨w.heap.size + 1, i, none⟩ = some (.string (strOfNums s)) := by
        have := World.cell?_alloc_mark (w.alloc (.cells #[.int .i64 23, .int .i64 N, .string (strOfNums t), .int .i64 num, .int .i64 at_] 38)) bsv 85 (0, 0) i
        simp only [World.size_alloc] at this
        exact this.trans hs2
      have H1 := hid hs1
      by_cases hsl : s = t
      · subst hsl
        have hf : decide (s ∈ bsL) = true := decide_eq_true (List.mem_of_getElem? H1.out)
        have HF := hid hf
        clear hs1 hs2 hs5 hf
        generalize strOfNums s = x at *
        have hxx : (x.toList == x.toList) = true := by simp
        go_wp2
        go_quiet (fail)
        go_wp2
        all_goals go_ret
        all_goals exact ⟨ret_bool HF.out.symm, (by repeat (first | exact Bw.refl _ | apply Bw.alloc | apply Bw.drewN | apply Bw.drew))⟩
      · have hne := strOf_ne hs5 HBD.out hsl
        have hs' : (bsL.take (i + 1)).all (fun s => decide (s ≠ t)) = true := by
          rw [all_take_get _ H1.out, HA.out]; simpa using hsl
        have HS' := hid hs'
        clear hs1 hs2 hs5 hs' hsl
        generalize strOfNums s = x at *
        generalize strOfNums t = y at *
        go_wp2
        go_quiet (fail)
        go_wp2
        go_roundw
        case rel => exact ⟨i + 1, _, by omega, by go_num, by first | rfl | trivial, HS'.out⟩
        case measure => simp [intOf]; omega
    · have hf : decide (t ∈ bsL) = false := by
        have := HA.out
        rw [List.take_of_length_le (by show bsL.length ≤ i; have : bsL.length = 11 := rfl; omega)] at this
        simp only [decide_eq_false_iff_not]
        intro hmem
        have := List.all_eq_true.1 this t hmem
        simp at this
      have HF := hid hf
      clear hf
      go_wp2
      all_goals go_ret
      all_goals exact ⟨ret_bool HF.out.symm, (by repeat (first | exact Bw.refl _ | apply Bw.alloc | apply Bw.drewN | apply Bw.drew))⟩

set_option maxRecDepth 100000 in
set_option maxHeartbeats 16000000 in
theorem fields_any (k : Int) (N num at_ : Int) (t : List Int) (ht : (∀ c ∈ t, 0 ≤ c ∧ c ≤ 255) ∧ t.length ≤ 9223372036854775807) (w : World) :
    Calls Tryd.prog 36 #[.agg #[.int .i64 k, .int .i64 N, .string (strOfNums t), .int .i64 num, .int .i64 at_]] w fun e w' => e = .returned (.bool (fldP k t num)) ∧ Bw w w' := by
  have XN := hid (rNameB_any t ht.1 ht.2)
  unfold fldP
  by_cases k3 : k = 3
  · subst k3
    rw [if_pos (by decide)]
    generalize isName t = bn at *
    generalize strOfNums t = s at *
    go_enter Tryd.func36, Tryd.ntmps36
    go_wp2_with (first
      | (go_at_call 17; refine (XN.out _).mono ?_; rintro e w' ⟨rfl, os, n, rfl⟩)
      | fail)
    all_goals go_ret
    all_goals exact ⟨by first | rfl | (simp [*]; done) | (simp; omega), by first | exact Ly.bw (Ly.lay (Ly.alloc (Ly.refl _) _) _ _) | exact (by repeat (first | exact Bw.refl _ | apply Bw.alloc | apply Bw.drewN | apply Bw.drew))⟩
  by_cases k11 : k = 11
  · subst k11
    rw [if_pos (by decide)]
    generalize isName t = bn at *
    generalize strOfNums t = s at *
    go_enter Tryd.func36, Tryd.ntmps36
    go_wp2_with (first
      | (go_at_call 17; refine (XN.out _).mono ?_; rintro e w' ⟨rfl, os, n, rfl⟩)
      | fail)
    all_goals go_ret
    all_goals exact ⟨by first | rfl | (simp [*]; done) | (simp; omega), by first | exact Ly.bw (Ly.lay (Ly.alloc (Ly.refl _) _) _ _) | exact (by repeat (first | exact Bw.refl _ | apply Bw.alloc | apply Bw.drewN | apply Bw.drew))⟩
  by_cases k12 : k = 12
  · subst k12
    rw [if_pos (by decide)]
    generalize isName t = bn at *
    generalize strOfNums t = s at *
    go_enter Tryd.func36, Tryd.ntmps36
    go_wp2_with (first
      | (go_at_call 17; refine (XN.out _).mono ?_; rintro e w' ⟨rfl, os, n, rfl⟩)
      | fail)
    all_goals go_ret
    all_goals exact ⟨by first | rfl | (simp [*]; done) | (simp; omega), by first | exact Ly.bw (Ly.lay (Ly.alloc (Ly.refl _) _) _ _) | exact (by repeat (first | exact Bw.refl _ | apply Bw.alloc | apply Bw.drewN | apply Bw.drew))⟩
  by_cases k19 : k = 19
  · subst k19
    rw [if_pos (by decide)]
    generalize isName t = bn at *
    generalize strOfNums t = s at *
    go_enter Tryd.func36, Tryd.ntmps36
    go_wp2_with (first
      | (go_at_call 17; refine (XN.out _).mono ?_; rintro e w' ⟨rfl, os, n, rfl⟩)
      | fail)
    all_goals go_ret
    all_goals exact ⟨by first | rfl | (simp [*]; done) | (simp; omega), by first | exact Ly.bw (Ly.lay (Ly.alloc (Ly.refl _) _) _ _) | exact (by repeat (first | exact Bw.refl _ | apply Bw.alloc | apply Bw.drewN | apply Bw.drew))⟩
  by_cases k22 : k = 22
  · subst k22
    rw [if_pos (by decide)]
    generalize isName t = bn at *
    generalize strOfNums t = s at *
    go_enter Tryd.func36, Tryd.ntmps36
    go_wp2_with (first
      | (go_at_call 17; refine (XN.out _).mono ?_; rintro e w' ⟨rfl, os, n, rfl⟩)
      | fail)
    all_goals go_ret
    all_goals exact ⟨by first | rfl | (simp [*]; done) | (simp; omega), by first | exact Ly.bw (Ly.lay (Ly.alloc (Ly.refl _) _) _ _) | exact (by repeat (first | exact Bw.refl _ | apply Bw.alloc | apply Bw.drewN | apply Bw.drew))⟩
  by_cases k30 : k = 30
  · subst k30
    rw [if_pos (by decide)]
    generalize isName t = bn at *
    generalize strOfNums t = s at *
    go_enter Tryd.func36, Tryd.ntmps36
    go_wp2_with (first
      | (go_at_call 17; refine (XN.out _).mono ?_; rintro e w' ⟨rfl, os, n, rfl⟩)
      | fail)
    all_goals go_ret
    all_goals exact ⟨by first | rfl | (simp [*]; done) | (simp; omega), by first | exact Ly.bw (Ly.lay (Ly.alloc (Ly.refl _) _) _ _) | exact (by repeat (first | exact Bw.refl _ | apply Bw.alloc | apply Bw.drewN | apply Bw.drew))⟩
  rw [if_neg (by omega)]
  by_cases k14 : k = 14
  · subst k14
    rw [if_pos rfl]
    generalize strOfNums t = s at *
    go_enter Tryd.func36, Tryd.ntmps36
    go_wp2_with (first
      | (go_at_call 17; refine (XN.out _).mono ?_; rintro e w' ⟨rfl, os, n, rfl⟩)
      | fail)
    all_goals go_ret
    all_goals exact ⟨by first | rfl | (simp [*]; done) | (simp; omega), by first | exact Ly.bw (Ly.lay (Ly.alloc (Ly.refl _) _) _ _) | exact (by repeat (first | exact Bw.refl _ | apply Bw.alloc | apply Bw.drewN | apply Bw.drew))⟩
  rw [if_neg k14]
  by_cases k23 : k = 23
  · subst k23
    rw [if_pos rfl]
    exact fields23_any N num at_ t ht.1 w
  rw [if_neg k23]
  generalize strOfNums t = s at *
  go_enter Tryd.func36, Tryd.ntmps36
  go_wp2_with (first
    | (go_at_call 17; refine (XN.out _).mono ?_; rintro e w' ⟨rfl, os, n, rfl⟩)
    | fail)
  all_goals go_ret
  all_goals exact ⟨by first | rfl | (simp [*]; done) | (simp; omega), by first | exact Ly.bw (Ly.lay (Ly.alloc (Ly.refl _) _) _ _) | exact (by repeat (first | exact Bw.refl _ | apply Bw.alloc | apply Bw.drewN | apply Bw.drew))⟩

end Go.Proofs.YtlcieebneclmpaaDoor

