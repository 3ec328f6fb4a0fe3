/- The program's quotients, parts as integers, powers: their contracts, of any complex numbers; the world is as it was but for draws. -/
import Derived.Test.YtdakgnbnjncnmaaW1
import Derived.LoopTactic
set_option linter.unusedSimpArgs false
set_option linter.unusedVariables false
namespace Go.Proofs.Ytdakgnbnjncnmaa
open Go Go.RowKit

/-- Is the square of the length nought? -/
def dz (c d : Nat) : Bool := F.order (nrm c d) 0 == some .eq
def qre (a b c d : Nat) : Nat := if dz c d then 0 else dre a b c d
def qim (a b c d : Nat) : Nat := if dz c d then 0 else dim a b c d
def qer (c d : Nat) : Int := if dz c d then 10 else 0

set_option maxHeartbeats 400000 in
theorem div_any (a b c d : Nat) (w : World) : Calls Try.prog 27 #[.complex .f64 a b, .complex .f64 c d] w fun e w' => e = .returned (.tuple #[.complex .f64 (qre a b c d) (qim a b c d), .int .i64 (qer c d)]) ∧ Dn w w' := by
  by_cases h : dz c d = true
  · have h' : (F.order (nrm c d) 0 == some .eq) = true := h
    rw [show qre a b c d = 0 from if_pos h, show qim a b c d = 0 from if_pos h, show qer c d = 10 from if_pos h]
    clear h
    go_enter Try.func27, Try.ntmps27
    go_wp2_with (first | (go_at_call 25; refine (norm_any _ _ _).mono ?_; rintro e w' ⟨rfl, m, rfl⟩) | (go_at_call 41; refine (product_any _ _ _).mono ?_; rintro e w' ⟨rfl, rfl⟩) | (go_at_call 40; refine (join_any _ _ _).mono ?_; rintro e w' ⟨rfl, rfl⟩))
    go_ret2
    exact ⟨rfl, _, rfl⟩
  · have h : dz c d = false := by simpa using h
    have h' : (F.order (nrm c d) 0 == some .eq) = false := h
    rw [show qre a b c d = dre a b c d by simp [qre, h], show qim a b c d = dim a b c d by simp [qim, h], show qer c d = 0 by simp [qer, h]]
    clear h
    go_enter Try.func27, Try.ntmps27
    go_wp2_with (first | (go_at_call 25; refine (norm_any _ _ _).mono ?_; rintro e w' ⟨rfl, m, rfl⟩) | (go_at_call 41; refine (product_any _ _ _).mono ?_; rintro e w' ⟨rfl, rfl⟩) | (go_at_call 40; refine (join_any _ _ _).mono ?_; rintro e w' ⟨rfl, rfl⟩))
    go_ret2
    exact ⟨by simp [cn_fv, fo_fv, fo_fv_l, fo_fv_r, dre, dim], _, rfl⟩

/-- Does a part lie from -2^61 on, below 2^61? -/
def pin (x : Nat) : Bool := (F.order x lo61 == some .gt || F.order x lo61 == some .eq) && (F.order x hi61 == some .lt)
def pval (x : Nat) : Int := (floatToIntVal .f64 x .i64).getD 0
def pv (x : Nat) : Int := if pin x then pval x else 0
def pe (x : Nat) : Int := if pin x then 0 else 9


theorem cut_zero_le (s : Bool) (n d B : Nat) (h : n ≤ B * 2 ^ d) : Ieee.Toward.zero.cut s n d ≤ B := by
  simp only [Ieee.Toward.cut, Nat.one_shiftLeft, Bool.toNat_false, Nat.add_zero]
  by_cases hd : d ≤ n.log2 + 2
  · rw [Nat.min_eq_left hd]
    exact Nat.div_le_of_le_mul (by rw [Nat.mul_comm]; exact h)
  · rw [Nat.min_eq_right (by omega)]
    have h1 := Nat.lt_log2_self (n := n)
    have h2 : n < 2 ^ (n.log2 + 2) := Nat.lt_of_lt_of_le h1 (Nat.pow_le_pow_right (by decide) (by omega))
    rw [Nat.div_eq_of_lt h2]
    exact Nat.zero_le _

theorem signed_le (s : Bool) (m k B : Nat) (h1 : Ieee.signed true B 0 ≤ Ieee.signed s m k) (h2 : Ieee.signed s m k ≤ Ieee.signed false B 0) : m <<< k ≤ B := by
  cases s <;> simp only [Ieee.signed, Nat.shiftLeft_zero, if_true, Bool.false_eq_true, if_false] at h1 h2 <;> omega

/-- A part within the bounds is cut to an integer. -/
theorem pin_some (x : Nat) (h : pin x = true) : ∃ n, floatToIntVal .f64 x .i64 = some n := by
  simp only [pin, Ieee.Format.order, read_lo, read_hi] at h
  simp only [floatToIntVal, FloatKind.decode]
  show ∃ n, (match (F.read x).toInt .zero with | some n => if IntKind.i64.min ≤ n ∧ n ≤ IntKind.i64.max then some n else none | none => none) = some n
  revert h
  generalize F.read x = dd
  cases dd with
  | nan s t => intro h; simp [Ieee.Datum.order] at h
  | infinity s => intro h; cases s <;> simp [Ieee.Datum.order] at h
  | number s m i =>
    intro h
    have hle : m <<< (i - min i 9).toNat ≤ 4503599627370496 <<< (9 - min i 9).toNat := by
      simp only [Ieee.Datum.order, Bool.and_eq_true, Bool.or_eq_true, beq_iff_eq, Option.some.injEq] at h
      obtain ⟨h1, h2⟩ := h
      have h1' : Ieee.signed true 4503599627370496 (9 - min i 9).toNat ≤ Ieee.signed s m (i - min i 9).toNat := by
        rcases h1 with h1 | h1
        · rw [Int.compare_eq_gt] at h1; omega
        · rw [Int.compare_eq_eq] at h1; omega
      rw [Int.compare_eq_lt] at h2
      refine signed_le s m _ _ ?_ ?_
      · simpa [Ieee.signed] using h1'
      · have := Int.le_of_lt h2
        simpa [Ieee.signed] using this
    have hc : Ieee.Toward.zero.cut s (m <<< i.toNat) (-i).toNat ≤ 2305843009213693952 := by
      apply cut_zero_le
      simp only [Nat.shiftLeft_eq] at hle ⊢
      by_cases hi : 0 ≤ i
      · by_cases h9 : i ≤ 9
        · have e1 : (i - min i 9).toNat = 0 := by omega
          have e2 : (9 - min i 9).toNat = 9 - i.toNat := by omega
          have e3 : (-i).toNat = 0 := by omega
          rw [e1, e2] at hle
          rw [e3]
          have e4 : (4503599627370496 * 2 ^ (9 - i.toNat)) * 2 ^ i.toNat = 2305843009213693952 := by
            rw [Nat.mul_assoc, ← Nat.pow_add, show 9 - i.toNat + i.toNat = 9 by omega]
          have := Nat.mul_le_mul_right (2 ^ i.toNat) hle
          rw [e4] at this
          simpa using this
        · have e1 : (i - min i 9).toNat = i.toNat - 9 := by omega
          have e2 : (9 - min i 9).toNat = 0 := by omega
          have e3 : (-i).toNat = 0 := by omega
          rw [e1, e2] at hle
          rw [e3]
          have e4 : m * 2 ^ (i.toNat - 9) * 2 ^ 9 = m * 2 ^ i.toNat := by
            rw [Nat.mul_assoc, ← Nat.pow_add, show i.toNat - 9 + 9 = i.toNat by omega]
          have := Nat.mul_le_mul_right (2 ^ 9) hle
          rw [e4] at this
          simpa using this
      · have e1 : (i - min i 9).toNat = 0 := by omega
        have e2 : (9 - min i 9).toNat = 9 + (-i).toNat := by omega
        have e3 : i.toNat = 0 := by omega
        rw [e1, e2] at hle
        rw [e3]
        have e4 : 4503599627370496 * 2 ^ (9 + (-i).toNat) = 2305843009213693952 * 2 ^ (-i).toNat := by
          rw [Nat.pow_add, ← Nat.mul_assoc]
        rw [e4] at hle
        simpa using hle
    generalize hq : Ieee.Toward.zero.cut s (m <<< i.toNat) (-i).toNat = q at hc
    refine ⟨Ieee.signed s q 0, ?_⟩
    simp only [Ieee.Datum.toInt, Ieee.Datum.integral, hq]
    rw [if_pos]
    have e : IntKind.i64.min = -9223372036854775808 := rfl
    have e' : IntKind.i64.max = 9223372036854775807 := rfl
    rw [e, e']
    cases s <;> simp [Ieee.signed] <;> omega

theorem pv_int (x : Nat) (n : Int) (h : pin x = true) (k : floatToIntVal .f64 x .i64 = some n) : pv x = n := by simp [pv, h, pval, k]

theorem part_any (a b : Nat) (im : Bool) (w : World) : Calls Try.prog 29 #[.complex .f64 a b, .bool im] w fun e w' => e = .returned (.tuple #[.int .i64 (pv (if im then b else a)), .int .i64 (pe (if im then b else a))]) ∧ w' = w := by
  have key : ∀ (x : Nat), (im = true → x = b) → (im = false → x = a) → Calls Try.prog 29 #[.complex .f64 a b, .bool im] w fun e w' => e = .returned (.tuple #[.int .i64 (pv x), .int .i64 (pe x)]) ∧ w' = w := by
    intro x hb ha
    by_cases h : pin x = true
    · obtain ⟨n, hn⟩ := pin_some x h
      rw [pv_int x n h hn, show pe x = 0 from if_pos h]
      have hcv := fun (w : World) => run_convert_float_int (P := Try.prog) w 31 3 .f64 .i64 x n (by kernel_rfl) Try.underlying3 hn
      simp only [pin, Bool.and_eq_true] at h
      obtain ⟨h1, h2⟩ := h
      have h1 : (F.order x 14105274032924393472 == some .gt || F.order x 14105274032924393472 == some .eq) = true := h1
      have h2 : (F.order x 4881901996069617664 == some .lt) = true := h2
      clear hn
      cases im
      · obtain rfl := ha rfl
        clear ha hb
        go_enter Try.func29, Try.ntmps29
        go_wp2
        go_ret2
        exact ⟨rfl, rfl⟩
      · obtain rfl := hb rfl
        clear ha hb
        go_enter Try.func29, Try.ntmps29
        go_wp2
        go_ret2
        exact ⟨rfl, rfl⟩
    · have h : pin x = false := by simpa using h
      rw [show pv x = 0 by simp [pv, h], show pe x = 9 by simp [pe, h]]
      simp only [pin, Bool.and_eq_false_iff] at h
      by_cases h1 : (F.order x lo61 == some .gt || F.order x lo61 == some .eq) = true
      · have h2 : (F.order x 4881901996069617664 == some .lt) = false := by
          rcases h with h | h
          · rw [h1] at h; cases h
          · exact h
        have h1 : (F.order x 14105274032924393472 == some .gt || F.order x 14105274032924393472 == some .eq) = true := h1
        clear h
        cases im
        · obtain rfl := ha rfl
          clear ha hb
          go_enter Try.func29, Try.ntmps29
          go_wp2
          go_ret2
          exact ⟨rfl, rfl⟩
        · obtain rfl := hb rfl
          clear ha hb
          go_enter Try.func29, Try.ntmps29
          go_wp2
          go_ret2
          exact ⟨rfl, rfl⟩
      · have h1 : (F.order x 14105274032924393472 == some .gt || F.order x 14105274032924393472 == some .eq) = false := Bool.eq_false_iff.2 h1
        clear h
        cases im
        · obtain rfl := ha rfl
          clear ha hb
          go_enter Try.func29, Try.ntmps29
          go_wp2
          go_ret2
          exact ⟨rfl, rfl⟩
        · obtain rfl := hb rfl
          clear ha hb
          go_enter Try.func29, Try.ntmps29
          go_wp2
          go_ret2
          exact ⟨rfl, rfl⟩
  exact key _ (fun h => by simp [h]) (fun h => by simp [h])

/-- 1, multiplied so often. -/
def pw (a b : Nat) : Nat → Nat × Nat
  | 0 => (4607182418800017408, 0)
  | k + 1 => (mre (pw a b k).1 (pw a b k).2 a b, mim (pw a b k).1 (pw a b k).2 a b)

def pwr (a b : Nat) (n : Int) : Nat := if 0 ≤ n ∧ n ≤ 64 then (pw a b n.toNat).1 else 0
def pwi (a b : Nat) (n : Int) : Nat := if 0 ≤ n ∧ n ≤ 64 then (pw a b n.toNat).2 else 0
def pwe (n : Int) : Int := if 0 ≤ n ∧ n ≤ 64 then 0 else 1

set_option maxHeartbeats 400000 in
theorem power_in (a b : Nat) (n : Nat) (hn : n ≤ 64) (w : World) : Calls Try.prog 32 #[.complex .f64 a b, .int .i64 n] w fun e w' => e = .returned (.tuple #[.complex .f64 (pw a b n).1 (pw a b n).2, .int .i64 0]) ∧ Dn w w' := by
  have h0 : ¬ (n : Int) < 0 := by omega
  have h1 : ¬ (64 : Int) < (n : Int) := by omega
  go_enter Try.func32, Try.ntmps32
  go_wp2
  go_loopw [6, 14] (fun p i wr => ∃ k m : Nat, k ≤ n ∧ i = .int .i64 k ∧ p = .complex .f64 (pw a b k).1 (pw a b k).2 ∧ wr = w.drewN m) (fun _ i _ => n - (intOf i).toNat)
  case atStart => exact ⟨0, 0, Nat.zero_le _, rfl, rfl, rfl⟩
  case round =>
    obtain ⟨k, m, hk, rfl, rfl, rfl⟩ := hrel
    go_wp2_with (go_at_call 22; refine (mul_any _ _ _ _ _).mono ?_; rintro e w' ⟨rfl, m', rfl⟩)
    · have hlt : k < n := by omega
      go_roundw
      case rel => exact ⟨k + 1, _, by omega, by go_num, rfl, rfl⟩
      case measure => simp [intOf]; omega
    · have : k = n := by omega
      subst this
      go_ret2
      exact ⟨rfl, _, rfl⟩

theorem power_out (a b : Nat) (n : Int) (hn : ¬ (0 ≤ n ∧ n ≤ 64)) (w : World) : Calls Try.prog 32 #[.complex .f64 a b, .int .i64 n] w fun e w' => e = .returned (.tuple #[.complex .f64 0 0, .int .i64 1]) ∧ Dn w w' := by
  by_cases h : n < 0
  · clear hn
    go_enter Try.func32, Try.ntmps32
    go_wp2
    go_ret2
    exact ⟨rfl, Dn.refl _⟩
  · have h1 : 64 < n := by omega
    clear hn
    go_enter Try.func32, Try.ntmps32
    go_wp2
    go_ret2
    exact ⟨rfl, Dn.refl _⟩

theorem power_any (a b : Nat) (n : Int) (w : World) : Calls Try.prog 32 #[.complex .f64 a b, .int .i64 n] w fun e w' => e = .returned (.tuple #[.complex .f64 (pwr a b n) (pwi a b n), .int .i64 (pwe n)]) ∧ Dn w w' := by
  by_cases h : 0 ≤ n ∧ n ≤ 64
  · obtain ⟨k, rfl⟩ : ∃ k : Nat, n = k := ⟨n.toNat, by omega⟩
    rw [pwr, pwi, pwe, if_pos h, if_pos h, if_pos h]
    exact power_in a b k (by omega) w
  · rw [pwr, pwi, pwe, if_neg h, if_neg h, if_neg h]
    exact power_out a b n h w

end Go.Proofs.Ytdakgnbnjncnmaa
