/- The floats of 64 bits: the words of whole numbers up to 2^53: their sums, differences, products, and the integers that they are cut to. -/
import Derived.Test.YtdakgnbnjncnmaaFm
set_option linter.unusedSimpArgs false
set_option linter.unusedVariables false
namespace Go.Proofs.Ytdakgnbnjncnmaa
open Go Ieee

/-- The rung of a whole number up to 2^53. -/
def ru (k : Nat) : Nat := if k = 0 then 0 else if k = 9007199254740992 then 1076 * 4503599627370496 else (k.log2 + 1022) * 4503599627370496 + k * 2 ^ (52 - k.log2)

/-- The word of a whole number with a sign. -/
def wi (s : Bool) (k : Nat) : Nat := F.word s (ru k)

theorem log2_lt53 {k : Nat} (h : k < 9007199254740992) (h0 : k ≠ 0) : k.log2 ≤ 52 := by
  have := Nat.log2_self_le h0
  apply Nat.le_of_not_lt
  intro hc
  have : 2 ^ 53 ≤ 2 ^ k.log2 := Nat.pow_le_pow_right (by decide) hc
  omega

theorem log2_mul (k e : Nat) (h0 : k ≠ 0) : (k * 2 ^ e).log2 = k.log2 + e := by
  have hp : 0 < 2 ^ e := Nat.two_pow_pos e
  rw [Nat.log2_eq_iff (Nat.mul_ne_zero h0 (by omega))]
  have h1 := Nat.log2_self_le h0
  have h2 := Nat.lt_log2_self (n := k)
  constructor
  · rw [Nat.pow_add]; exact Nat.mul_le_mul_right _ h1
  · rw [show k.log2 + e + 1 = (k.log2 + 1) + e by omega, Nat.pow_add]; exact Nat.mul_lt_mul_of_pos_right h2 hp

theorem cut_exact (neg : Bool) (q d : Nat) (h0 : q ≠ 0) : Toward.even.cut neg (q * 2 ^ d) d = q := by
  have hp : 0 < 2 ^ d := Nat.two_pow_pos d
  have e : min d ((q * 2 ^ d).log2 + 2) = d := by rw [log2_mul q d h0]; omega
  simp only [Toward.cut, e, Nat.one_shiftLeft]
  rw [Nat.mul_div_cancel _ hp, Nat.mul_mod_left]
  have : (decide (2 ^ d < 2 * 0) || (2 ^ d == 2 * 0 && q % 2 == 1)) = false := by
    have h1 : ¬ 2 ^ d < 2 * 0 := by omega
    have h2 : (2 ^ d == 2 * 0) = false := by simp
    simp [h2]
  rw [this]; rfl

theorem nearest_int (neg : Bool) (k e : Nat) (hk : k ≤ 9007199254740992) : F.nearest neg (k * 2 ^ e) (-(e : Int)) = wi neg k := by
  unfold wi ru
  by_cases h0 : k = 0
  · subst h0; simp [Format.nearest]
  · have hp : 0 < 2 ^ e := Nat.two_pow_pos e
    have hm : k * 2 ^ e ≠ 0 := Nat.mul_ne_zero h0 (by omega)
    unfold Format.nearest
    rw [if_neg hm, if_neg h0]
    simp only [log2_mul k e h0, fb, lp, bn, ir]
    by_cases h53 : k = 9007199254740992
    · subst h53
      have l : Nat.log2 9007199254740992 = 53 := by decide
      rw [l, if_pos rfl]
      have e1 : max (-(e : Int) + ((53 + e : Nat) : Int) - ((52 : Nat) : Int)) (-1074) = 1 := by omega
      rw [e1]
      have e2 : (-(e : Int) - 1).toNat = 0 := by omega
      have e3 : (1 - -(e : Int)).toNat = 1 + e := by omega
      rw [e2, e3]
      have e4 : (9007199254740992 * 2 ^ e) <<< 0 = 4503599627370496 * 2 ^ (1 + e) := by
        rw [Nat.shiftLeft_zero, Nat.pow_add]; omega
      rw [e4, cut_exact _ _ _ (by decide)]
      rfl
    · have hlt : k < 9007199254740992 := by omega
      have hl := log2_lt53 hlt h0
      have hup := Nat.lt_log2_self (n := k)
      have hkb : k * 2 ^ (52 - k.log2) < 9007199254740992 := by
        have : 2 ^ (k.log2 + 1) * 2 ^ (52 - k.log2) = 2 ^ 53 := by rw [← Nat.pow_add]; congr 1; omega
        have := Nat.mul_lt_mul_of_pos_right hup (Nat.two_pow_pos (52 - k.log2))
        omega
      rw [if_neg h53]
      have e1 : max (-(e : Int) + ((k.log2 + e : Nat) : Int) - ((52 : Nat) : Int)) (-1074) = (k.log2 : Int) - 52 := by omega
      rw [e1]
      have e5 : ((k.log2 : Int) - 52 - -1074).toNat = k.log2 + 1022 := by omega
      rw [e5]
      have kept : Toward.even.cut neg ((k * 2 ^ e) <<< (-(e : Int) - ((k.log2 : Int) - 52)).toNat) ((k.log2 : Int) - 52 - -(e : Int)).toNat = k * 2 ^ (52 - k.log2) := by
        by_cases he : e ≤ 52 - k.log2
        · have e2 : (-(e : Int) - ((k.log2 : Int) - 52)).toNat = 52 - k.log2 - e := by omega
          have e3 : ((k.log2 : Int) - 52 - -(e : Int)).toNat = 0 := by omega
          rw [e2, e3]
          have e4 : (k * 2 ^ e) <<< (52 - k.log2 - e) = (k * 2 ^ (52 - k.log2)) * 2 ^ 0 := by
            rw [Nat.shiftLeft_eq, Nat.mul_assoc, ← Nat.pow_add]
            simp only [Nat.pow_zero, Nat.mul_one]
            congr 2; omega
          rw [e4, cut_exact _ _ _ (Nat.mul_ne_zero h0 (by have := Nat.two_pow_pos (52 - k.log2); omega))]
        · have e2 : (-(e : Int) - ((k.log2 : Int) - 52)).toNat = 0 := by omega
          have e3 : ((k.log2 : Int) - 52 - -(e : Int)).toNat = e - (52 - k.log2) := by omega
          rw [e2, e3]
          have e4 : (k * 2 ^ e) <<< 0 = (k * 2 ^ (52 - k.log2)) * 2 ^ (e - (52 - k.log2)) := by
            rw [Nat.shiftLeft_zero, Nat.mul_assoc, ← Nat.pow_add]
            congr 2; omega
          rw [e4, cut_exact _ _ _ (Nat.mul_ne_zero h0 (by have := Nat.two_pow_pos (52 - k.log2); omega))]
      rw [kept, Nat.min_eq_left (by omega)]

theorem ru_lt (k : Nat) (hk : k ≤ 9007199254740992) : ru k < 9218868437227405312 := by
  unfold ru
  split
  · omega
  · rename_i h0
    split
    · omega
    · have hlt : k < 9007199254740992 := by omega
      have hl := log2_lt53 hlt h0
      have hup := Nat.lt_log2_self (n := k)
      have : 2 ^ (k.log2 + 1) * 2 ^ (52 - k.log2) = 2 ^ 53 := by rw [← Nat.pow_add]; congr 1; omega
      have := Nat.mul_lt_mul_of_pos_right hup (Nat.two_pow_pos (52 - k.log2))
      omega

theorem isn_wi (s : Bool) (k : Nat) (hk : k ≤ 9007199254740992) : isn (wi s k) = false := isn_le _ _ (Nat.le_of_lt (ru_lt k hk))
theorem cn_wi (s : Bool) (k : Nat) (hk : k ≤ 9007199254740992) : cn (wi s k) = wi s k := cn_of _ (isn_wi s k hk)

/-- What the word of a whole number stands for. -/
theorem read_wi (s : Bool) (k : Nat) (hk : k ≤ 9007199254740992) :
    ∃ m p, F.read (wi s k) = .number s m p ∧ m < 9007199254740992 ∧ ((∃ e : Nat, p = -(e : Int) ∧ m = k * 2 ^ e) ∨ (k = 9007199254740992 ∧ m = 4503599627370496 ∧ p = 1)) := by
  have hlt := ru_lt k hk
  unfold wi
  rw [read_word s (ru k) (by omega)]
  by_cases h0 : k = 0
  · subst h0
    exact ⟨0, -1074, by simp [ru], by omega, .inl ⟨1074, rfl, by omega⟩⟩
  · by_cases h53 : k = 9007199254740992
    · subst h53
      exact ⟨4503599627370496, 1, by simp [ru], by omega, .inr ⟨rfl, rfl, rfl⟩⟩
    · have hl53 : k < 9007199254740992 := by omega
      have hl := log2_lt53 hl53 h0
      have hup := Nat.lt_log2_self (n := k)
      have hlo := Nat.log2_self_le h0
      have hkb : k * 2 ^ (52 - k.log2) < 9007199254740992 := by
        have : 2 ^ (k.log2 + 1) * 2 ^ (52 - k.log2) = 2 ^ 53 := by rw [← Nat.pow_add]; congr 1; omega
        have := Nat.mul_lt_mul_of_pos_right hup (Nat.two_pow_pos (52 - k.log2))
        omega
      have hkl : 4503599627370496 ≤ k * 2 ^ (52 - k.log2) := by
        have : 2 ^ k.log2 * 2 ^ (52 - k.log2) = 2 ^ 52 := by rw [← Nat.pow_add]; congr 1; omega
        have := Nat.mul_le_mul_right (2 ^ (52 - k.log2)) hlo
        omega
      have hr : ru k = (k.log2 + 1022) * 4503599627370496 + k * 2 ^ (52 - k.log2) := by simp [ru, h0, h53]
      generalize hm : k * 2 ^ (52 - k.log2) = m at *
      rw [if_neg (by omega), if_pos (by omega)]
      refine ⟨m, (k.log2 : Int) - 52, ?_, hkb, .inl ⟨52 - k.log2, by omega, ?_⟩⟩
      · congr 1 <;> omega
      · exact hm.symm


/-- The number of a sign and a magnitude. -/
def sv (s : Bool) (k : Nat) : Int := if s then -(k : Int) else k

theorem signed_eq (s : Bool) (m k : Nat) : signed s m k = sv s m * 2 ^ k := by
  unfold signed sv
  rw [Nat.shiftLeft_eq]
  split <;> simp [Int.neg_mul]

theorem sv_mul (s : Bool) (k e : Nat) : sv s (k * 2 ^ e) = sv s k * 2 ^ e := by
  unfold sv
  split <;> simp [Int.neg_mul]

/-- A whole number's word, at a place not above its own, and not above 0. -/
theorem signed_wi (s : Bool) (k m : Nat) (p : Int) (e : Nat) (hp : -(e : Int) ≤ p)
    (h : (∃ e : Nat, p = -(e : Int) ∧ m = k * 2 ^ e) ∨ (k = 9007199254740992 ∧ m = 4503599627370496 ∧ p = 1)) :
    signed s m (p - -(e : Int)).toNat = sv s k * 2 ^ e := by
  rw [signed_eq]
  rcases h with ⟨e', rfl, rfl⟩ | ⟨rfl, rfl, rfl⟩
  · rw [sv_mul, Int.mul_assoc, ← Int.pow_add]
    congr 2; omega
  · have e1 : (1 - -(e : Int)).toNat = 1 + e := by omega
    rw [e1, Int.pow_add]
    have : sv s 9007199254740992 = sv s 4503599627370496 * 2 := by cases s <;> decide
    rw [this]; simp [Int.mul_assoc]

/-- The sign of a sum. -/
def sg (s t : Bool) (n : Int) : Bool := if n = 0 then s && t else decide (n < 0)

theorem add_wi (s t : Bool) (a b : Nat) (ha : a ≤ 9007199254740992) (hb : b < 9007199254740992) (hs : (sv s a + sv t b).natAbs ≤ 9007199254740992) :
    floatBits .add .f64 (wi s a) (wi t b) = some (wi (sg s t (sv s a + sv t b)) (sv s a + sv t b).natAbs) := by
  obtain ⟨m, i, hr, hm, hi⟩ := read_wi s a ha
  obtain ⟨n, j, hr', hn, hj⟩ := read_wi t b (by omega)
  simp only [floatBits, Format.add]
  show ((F.read (wi s a)).sum (F.read (wi t b))).map F.write = _
  rw [hr, hr']
  have hj' : ∃ e : Nat, j = -(e : Int) := by
    rcases hj with ⟨e, h, _⟩ | ⟨h, _⟩
    · exact ⟨e, h⟩
    · omega
  have hb' : ∃ e : Nat, min i j = -(e : Int) := by
    obtain ⟨e, rfl⟩ := hj'
    exact ⟨(-(min i (-(e : Int)))).toNat, by omega⟩
  obtain ⟨e, he⟩ := hb'
  simp only [Datum.sum, he]
  rw [signed_wi s a m i e (by omega) hi, signed_wi t b n j e (by omega) hj, ← Int.add_mul]
  generalize sv s a + sv t b = z at *
  have hp : (0 : Int) < 2 ^ e := Int.pow_pos (by decide)
  have hz : (z * 2 ^ e = 0) = (z = 0) := by
    apply propext
    constructor
    · intro h
      rcases Int.mul_eq_zero.1 h with h | h
      · exact h
      · omega
    · rintro rfl; simp
  have hl : (z * 2 ^ e < 0) = (z < 0) := by
    apply propext
    constructor
    · intro h
      apply Int.lt_of_not_ge
      intro hc
      have := Int.mul_nonneg hc (Int.le_of_lt hp)
      omega
    · intro h
      exact Int.mul_neg_of_neg_of_pos h hp
  have hn : (z * 2 ^ e).natAbs = z.natAbs * 2 ^ e := by
    rw [Int.natAbs_mul, Int.natAbs_pow]; rfl
  simp only [hz, hl, hn, Option.map_some, Format.write]
  rw [nearest_int _ _ _ hs]
  rfl

theorem mul_wi (s t : Bool) (a b : Nat) (ha : a < 9007199254740992) (hb : b < 9007199254740992) (hs : a * b ≤ 9007199254740992) :
    floatBits .mul .f64 (wi s a) (wi t b) = some (wi (s ^^ t) (a * b)) := by
  obtain ⟨m, i, hr, hm, hi⟩ := read_wi s a (by omega)
  obtain ⟨n, j, hr', hn, hj⟩ := read_wi t b (by omega)
  simp only [floatBits, Format.mul]
  show ((F.read (wi s a)).product (F.read (wi t b))).map F.write = _
  rw [hr, hr']
  rcases hi with ⟨e, rfl, rfl⟩ | ⟨h, _⟩
  · rcases hj with ⟨e', rfl, rfl⟩ | ⟨h, _⟩
    · simp only [Datum.product, Option.map_some, Format.write]
      have e1 : a * 2 ^ e * (b * 2 ^ e') = (a * b) * 2 ^ (e + e') := by
        rw [Nat.pow_add]; simp only [Nat.mul_assoc, Nat.mul_left_comm, Nat.mul_comm]
      have e2 : -(e : Int) + -(e' : Int) = -((e + e' : Nat) : Int) := by omega
      rw [e1, e2, nearest_int _ _ _ hs]
    · omega
  · omega

theorem fneg_wi (s : Bool) (k : Nat) (hk : k ≤ 9007199254740992) : fneg (wi s k) = wi (!s) k :=
  fneg_word s (ru k) (by have := ru_lt k hk; omega)

theorem sub_wi (x : Nat) (t : Bool) (b : Nat) (hb : b ≤ 9007199254740992) : floatBits .sub .f64 x (wi t b) = floatBits .add .f64 x (wi (!t) b) := by
  simp only [floatBits, Format.add, Format.sub]
  show ((F.read x).sum (F.read (F.word t (ru b))).opposite).map F.write = ((F.read x).sum (F.read (F.word (!t) (ru b)))).map F.write
  rw [opp_read t (ru b) (by have := ru_lt b hb; omega)]

theorem int_wi (n : Int) (h : n.natAbs ≤ 9007199254740992) : floatOfInt .f64 n = wi (decide (n < 0)) n.natAbs := by
  have := nearest_int (decide (n < 0)) n.natAbs 0 h
  simpa [floatOfInt, FloatKind.nearest, FloatKind.encode, Format.write] using this

theorem isn_int (n : Int) : isn (floatOfInt .f64 n) = false := isn_write (.number (n < 0) n.natAbs 0) rfl

theorem sv_int (n : Int) : sv (decide (n < 0)) n.natAbs = n := by
  unfold sv
  by_cases h : n < 0 <;> simp [h] <;> omega

/-! ## parts as integers -/

/-- -2^61, 2^61. -/
def lo61 : Nat := 14105274032924393472
def hi61 : Nat := 4881901996069617664

theorem read_lo : F.read lo61 = .number true 4503599627370496 9 := rfl
theorem read_hi : F.read hi61 = .number false 4503599627370496 9 := rfl

end Go.Proofs.Ytdakgnbnjncnmaa
