/- The words of whole numbers up to 2^53: as parts they are those integers; sums and differences of them are the integers' own. -/
import Derived.Test.YtdakgnbnjncnmaaW2
set_option linter.unusedSimpArgs false
set_option linter.unusedVariables false
namespace Go.Proofs.Ytdakgnbnjncnmaa
open Go Go.RowKit

theorem cut_zero_exact (s : Bool) (q d : Nat) : Ieee.Toward.zero.cut s (q * 2 ^ d) d = q := by
  simp only [Ieee.Toward.cut, Nat.one_shiftLeft, Bool.toNat_false, Nat.add_zero]
  by_cases h0 : q = 0
  · subst h0; simp
  · have e : min d ((q * 2 ^ d).log2 + 2) = d := by rw [log2_mul q d h0]; omega
    rw [e, Nat.mul_div_cancel _ (Nat.two_pow_pos d)]

theorem pin_wi (s : Bool) (k : Nat) (hk : k ≤ 9007199254740992) : pin (wi s k) = true := by
  obtain ⟨m, p, hr, hm, hp⟩ := read_wi s k hk
  have hp1 : p ≤ 1 := by
    rcases hp with ⟨e, rfl, _⟩ | ⟨_, _, rfl⟩ <;> omega
  have e0 : min p 9 = p := by omega
  have hb : 9007199254740992 ≤ 4503599627370496 <<< (9 - p).toNat := by
    rw [Nat.shiftLeft_eq]
    have : 2 ^ 1 ≤ 2 ^ (9 - p).toNat := Nat.pow_le_pow_right (by decide) (by omega)
    omega
  have h1 : compare (Ieee.signed s m 0) (Ieee.signed true 4503599627370496 (9 - p).toNat) = .gt := by
    rw [Int.compare_eq_gt]
    cases s <;> simp only [Ieee.signed, Nat.shiftLeft_zero, if_true, Bool.false_eq_true, if_false] <;> omega
  have h2 : compare (Ieee.signed s m 0) (Ieee.signed false 4503599627370496 (9 - p).toNat) = .lt := by
    rw [Int.compare_eq_lt]
    cases s <;> simp only [Ieee.signed, Nat.shiftLeft_zero, if_true, Bool.false_eq_true, if_false] <;> omega
  have e1 : (p - p).toNat = 0 := by omega
  simp only [pin, Ieee.Format.order, read_lo, read_hi, hr, Ieee.Datum.order, e0, e1, h1, h2]
  rfl

theorem pv_wi (s : Bool) (k : Nat) (hk : k ≤ 9007199254740992) : pv (wi s k) = sv s k := by
  refine pv_int _ _ (pin_wi s k hk) ?_
  obtain ⟨m, p, hr, hm, hp⟩ := read_wi s k hk
  have hc : Ieee.Toward.zero.cut s (m <<< p.toNat) (-p).toNat = k := by
    rcases hp with ⟨e, rfl, rfl⟩ | ⟨rfl, rfl, rfl⟩
    · have e1 : (-(e : Int)).toNat = 0 := by omega
      have e2 : (-(-(e : Int))).toNat = e := by omega
      rw [e1, e2, Nat.shiftLeft_zero]
      exact cut_zero_exact s k e
    · exact cut_zero_exact s 9007199254740992 0
  have hs : Ieee.signed s k 0 = sv s k := by
    cases s <;> simp [Ieee.signed, sv]
  simp only [floatToIntVal, FloatKind.decode]
  show (match (F.read (wi s k)).toInt .zero with | some n => if IntKind.i64.min ≤ n ∧ n ≤ IntKind.i64.max then some n else none | none => none) = _
  rw [hr]
  simp only [Ieee.Datum.toInt, Ieee.Datum.integral, hc, hs]
  rw [if_pos]
  have e : IntKind.i64.min = -9223372036854775808 := rfl
  have e' : IntKind.i64.max = 9223372036854775807 := rfl
  rw [e, e']
  cases s <;> simp [sv] <;> omega

theorem pe_wi (s : Bool) (k : Nat) (hk : k ≤ 9007199254740992) : pe (wi s k) = 0 := if_pos (pin_wi s k hk)

/-- The word of an integer. -/
abbrev fi (n : Int) : Nat := floatOfInt .f64 n

theorem pv_fi (n : Int) (h : n.natAbs ≤ 9007199254740992) : pv (fi n) = n := by rw [fi, int_wi n h, pv_wi _ _ h, sv_int]
theorem pe_fi (n : Int) (h : n.natAbs ≤ 9007199254740992) : pe (fi n) = 0 := by rw [fi, int_wi n h, pe_wi _ _ h]

theorem fo_add_wi (s t : Bool) (a b : Nat) (ha : a ≤ 9007199254740992) (hb : b < 9007199254740992) (hs : (sv s a + sv t b).natAbs ≤ 9007199254740992) :
    fo .add (wi s a) (wi t b) = wi (sg s t (sv s a + sv t b)) (sv s a + sv t b).natAbs := by
  rw [fo, add_wi s t a b ha hb hs]; rfl
theorem sv_not (t : Bool) (b : Nat) : sv (!t) b = - sv t b := by cases t <;> simp [sv]
theorem fo_sub_wi (s t : Bool) (a b : Nat) (ha : a ≤ 9007199254740992) (hb : b < 9007199254740992) (hs : (sv s a - sv t b).natAbs ≤ 9007199254740992) :
    fo .sub (wi s a) (wi t b) = wi (sg s (!t) (sv s a - sv t b)) (sv s a - sv t b).natAbs := by
  have e : sv s a + sv (!t) b = sv s a - sv t b := by rw [sv_not]; omega
  rw [fo, sub_wi _ _ _ (by omega), add_wi s (!t) a b ha hb (by rw [e]; exact hs), e]; rfl
theorem fo_mul_wi (s t : Bool) (a b : Nat) (ha : a < 9007199254740992) (hb : b < 9007199254740992) (hs : a * b ≤ 9007199254740992) :
    fo .mul (wi s a) (wi t b) = wi (s ^^ t) (a * b) := by
  rw [fo, mul_wi s t a b ha hb hs]; rfl

theorem sv_sg (s t : Bool) (n : Int) : sv (sg s t n) n.natAbs = n := by
  unfold sg
  by_cases h : n = 0
  · subst h; cases s <;> cases t <;> rfl
  · rw [if_neg h, sv_int]

theorem fi_add (n m : Int) (hn : n.natAbs ≤ 9007199254740992) (hm : m.natAbs < 9007199254740992) (hs : (n + m).natAbs ≤ 9007199254740992) : fo .add (fi n) (fi m) = fi (n + m) := by
  rw [fi, fi, fi, int_wi n hn, int_wi m (by omega), int_wi (n + m) hs, fo_add_wi _ _ _ _ hn hm (by rw [sv_int, sv_int]; exact hs), sv_int, sv_int]
  congr 1
  unfold sg
  by_cases h : n + m = 0
  · rw [if_pos h, h]
    by_cases h1 : n < 0
    · have : ¬ m < 0 := by omega
      simp [this]
    · simp [h1]
  · rw [if_neg h]
theorem fi_sub (n m : Int) (hn : n.natAbs ≤ 9007199254740992) (hm : m.natAbs < 9007199254740992) (hs : (n - m).natAbs ≤ 9007199254740992) : fo .sub (fi n) (fi m) = fi (n - m) := by
  rw [fi, fi, fi, int_wi n hn, int_wi m (by omega), int_wi (n - m) hs, fo_sub_wi _ _ _ _ hn hm (by rw [sv_int, sv_int]; exact hs), sv_int, sv_int]
  congr 1
  unfold sg
  by_cases h : n - m = 0
  · rw [if_pos h, h]
    by_cases h1 : n < 0
    · have : m < 0 := by omega
      simp [this]
    · simp [h1]
  · rw [if_neg h]

theorem fi_back (n m : Int) (hn : n.natAbs ≤ 4503599627370496) (hm : m.natAbs ≤ 4503599627370496) : fo .sub (fo .add (fi n) (fi m)) (fi m) = fi n := by
  rw [fi_add n m (by omega) (by omega) (by omega), fi_sub (n + m) m (by omega) (by omega) (by omega)]
  congr 1; omega

theorem sm_self (x y : Nat) : sm x y x y = true := by simp [sm]

end Go.Proofs.Ytdakgnbnjncnmaa
