/- The floats of 64 bits, further: orders that play no part, mirrors, squares, the words of whole numbers up to 2^53. -/
import Derived.Test.YtdakgnbnjncnmaaFl
set_option linter.unusedSimpArgs false
set_option linter.unusedVariables false
namespace Go.Proofs.Ytdakgnbnjncnmaa
open Go Ieee

/-! ## the other order -/

theorem sum_comm (d e : Datum) : d.sum e = e.sum d := by
  cases d <;> cases e <;> simp [Datum.sum]
  · rename_i s m i t n j
    rw [Int.min_comm j i, Int.add_comm (signed t n _), Bool.and_comm t s]
    exact ⟨rfl, rfl, rfl⟩
  · rename_i s t
    cases s <;> cases t <;> rfl
theorem product_comm (d e : Datum) : d.product e = e.product d := by
  cases d <;> cases e <;> simp [Datum.product, Bool.xor_comm]
  · rename_i s m i t n j
    exact ⟨Nat.mul_comm _ _, Int.add_comm _ _⟩

theorem fo_add_comm (x y : Nat) : fo .add x y = fo .add y x := by
  simp only [fo, floatBits, Format.add, sum_comm (F.read x)]
theorem fo_mul_comm (x y : Nat) : fo .mul x y = fo .mul y x := by
  simp only [fo, floatBits, Format.mul, product_comm (F.read x)]

/-! ## mirrors -/

theorem xor_top (r : Nat) (h : r < 2 ^ 63) : r ^^^ 2 ^ 63 = 2 ^ 63 + r := by
  apply Nat.eq_of_testBit_eq
  intro j
  rw [Nat.testBit_xor, Nat.testBit_two_pow]
  rcases Nat.lt_trichotomy j 63 with hj | hj | hj
  · rw [Nat.testBit_two_pow_add_gt hj, decide_eq_false (by omega)]; simp
  · subst hj; rw [Nat.testBit_two_pow_add_eq]; simp
  · have h1 : r.testBit j = false := Nat.testBit_lt_two_pow (Nat.lt_of_lt_of_le h (Nat.pow_le_pow_right (by decide) (by omega)))
    have h2 : (2 ^ 63 + r).testBit j = false := Nat.testBit_lt_two_pow (Nat.lt_of_lt_of_le (by omega : 2 ^ 63 + r < 2 ^ 64) (Nat.pow_le_pow_right (by decide) (by omega)))
    rw [h1, h2]; simp; omega

theorem fneg_word (s : Bool) (r : Nat) (h : r < 9223372036854775808) : fneg (F.word s r) = F.word (!s) r := by
  have e : fneg (F.word s r) = F.word s r ^^^ 2 ^ 63 := rfl
  rw [e]
  cases s
  · simp only [Format.word, sw, Bool.not_false, if_true]
    exact xor_top r (by omega)
  · simp only [Format.word, sw, Bool.not_true, if_true]
    have := xor_top r (by omega)
    have k : 9223372036854775808 + r = r ^^^ 2 ^ 63 := by omega
    show (9223372036854775808 + r) ^^^ 2 ^ 63 = _
    rw [k, Nat.xor_assoc, Nat.xor_self]; simp

theorem opp_read (s : Bool) (r : Nat) (h : r < 9223372036854775808) : F.read (F.word (!s) r) = (F.read (F.word s r)).opposite := by
  rw [read_word _ _ h, read_word _ _ h]
  split
  · rfl
  · split
    · rfl
    · split <;> rfl

theorem read_fneg (x : Nat) (h : x < 18446744073709551616) : F.read (fneg x) = (F.read x).opposite := by
  obtain ⟨s, r, hr, rfl⟩ := word_of x h
  rw [fneg_word s r hr, opp_read s r hr]

theorem isn_fneg (x : Nat) (h : x < 18446744073709551616) : isn (fneg x) = isn x := by
  unfold isn
  rw [read_fneg x h]
  cases F.read x <;> rfl

theorem fneg_lt (x : Nat) (h : x < 18446744073709551616) : fneg x < 18446744073709551616 := by
  obtain ⟨s, r, hr, rfl⟩ := word_of x h
  rw [fneg_word s r hr]
  unfold Format.word
  rw [sw]
  split <;> omega

theorem fneg_fneg (x : Nat) : fneg (fneg x) = x := by
  show (x ^^^ 2 ^ 63) ^^^ 2 ^ 63 = x
  rw [Nat.xor_assoc, Nat.xor_self]; simp

theorem nn_lt : nn < 18446744073709551616 := by decide
theorem cn_lt (x : Nat) (h : x < 18446744073709551616) : cn x < 18446744073709551616 := by
  unfold cn; split
  · exact nn_lt
  · exact h

/-- Mirrored twice. -/
theorem cn_fneg_fneg (x : Nat) (h : x < 18446744073709551616) : cn (fneg (cn (fneg (cn x)))) = cn x := by
  by_cases hx : isn x = true
  · have e : cn x = nn := by simp [cn, hx]
    have e2 : isn (fneg nn) = true := by rw [isn_fneg nn nn_lt]; exact isn_nn
    have e3 : cn (fneg nn) = nn := by simp [cn, e2]
    rw [e, e3, e3]
  · have hx' : isn x = false := by simpa using hx
    rw [cn_of x hx', cn_of (fneg x) (by rw [isn_fneg x h, hx']), fneg_fneg, cn_of x hx']

theorem write_opp (d : Datum) (h : d.isNaN = false) : F.write d.opposite = fneg (F.write d) := by
  cases d with
  | number s m p =>
    simp only [Datum.opposite, Format.write, Format.nearest, Toward.cut]
    split
    · rw [fneg_word _ _ (by omega)]
    · rw [fneg_word _ _ (by rw [ir]; omega)]
  | infinity s => simp only [Datum.opposite, Format.write]; rw [fneg_word _ _ (by rw [ir]; omega)]
  | nan s f => simp [Datum.isNaN] at h

theorem product_opp (d e : Datum) : d.product e.opposite = (d.product e).map Datum.opposite := by
  cases d <;> cases e <;> simp [Datum.product, Datum.opposite] <;> split <;> simp [Datum.opposite]
theorem product_opp2 (d e : Datum) : d.opposite.product e.opposite = d.product e := by
  cases d <;> cases e <;> simp [Datum.product, Datum.opposite]

theorem fo_mul_neg2 (x y : Nat) (hx : x < 18446744073709551616) (hy : y < 18446744073709551616) : fo .mul (fneg x) (fneg y) = fo .mul x y := by
  simp only [fo, floatBits, Format.mul]
  show (((F.read (fneg x)).product (F.read (fneg y))).map F.write).getD nn = _
  rw [read_fneg x hx, read_fneg y hy, product_opp2]

/-- A product with a mirrored number is the product's mirror. -/
theorem fo_mul_neg (x y : Nat) (hy : y < 18446744073709551616) : fo .mul x (fneg y) = cn (fneg (fo .mul x y)) := by
  simp only [fo, floatBits, Format.mul]
  show (((F.read x).product (F.read (fneg y))).map F.write).getD nn = _
  rw [read_fneg y hy, product_opp]
  cases h : (F.read x).product (F.read y) with
  | none =>
    have e2 : isn (fneg nn) = true := by rw [isn_fneg nn nn_lt]; exact isn_nn
    simp [h, cn, e2]
  | some d =>
    have hd := product_nan _ _ _ h
    simp only [h, Option.map_some, Option.getD_some]
    rw [write_opp d hd, cn_of]
    rw [← write_opp d hd]
    exact isn_write _ (by cases d <;> simp_all [Datum.opposite, Datum.isNaN])

theorem signed_not (s : Bool) (m k : Nat) : signed (!s) m k = - signed s m k := by
  cases s <;> simp [signed]

/-- A nought, of either sign. -/
def Nil0 (x : Nat) : Prop := x = 0 ∨ x = 9223372036854775808

theorem sum_opp (d e : Datum) : d.opposite.sum e.opposite = (d.sum e).map Datum.opposite ∨
    ∃ s t p q, d.sum e = some (.number s 0 p) ∧ d.opposite.sum e.opposite = some (.number t 0 q) := by
  cases d <;> cases e <;> simp [Datum.sum, Datum.opposite]
  · rename_i s m i t n j
    rw [signed_not, signed_not]
    by_cases h0 : signed s m (i - min i j).toNat + signed t n (j - min i j).toNat = 0
    · right
      have h1 : -signed s m (i - min i j).toNat + -signed t n (j - min i j).toNat = 0 := by omega
      simp [h0, h1]
    · left
      have h1 : ¬ -signed s m (i - min i j).toNat + -signed t n (j - min i j).toNat = 0 := by omega
      simp only [h0, h1, if_false]
      constructor
      · by_cases hl : signed s m (i - min i j).toNat + signed t n (j - min i j).toNat < 0
        · have : ¬ -signed s m (i - min i j).toNat + -signed t n (j - min i j).toNat < 0 := by omega
          simp [hl, this]
        · have : -signed s m (i - min i j).toNat + -signed t n (j - min i j).toNat < 0 := by omega
          simp [hl, this]
      · omega

theorem write_zero (s : Bool) (p : Int) : Nil0 (F.write (.number s 0 p)) := by
  cases s <;> simp [Format.write, Format.nearest, Format.word, Nil0, sw]

/-- The sum of two mirrored ones: the sum's mirror, but for the sign of what is 0. -/
theorem fo_add_neg (x y : Nat) (hx : x < 18446744073709551616) (hy : y < 18446744073709551616) :
    fo .add (fneg x) (fneg y) = cn (fneg (fo .add x y)) ∨ (Nil0 (fo .add (fneg x) (fneg y)) ∧ Nil0 (fo .add x y)) := by
  simp only [fo, floatBits, Format.add]
  show (((F.read (fneg x)).sum (F.read (fneg y))).map F.write).getD nn = _ ∨ (Nil0 ((((F.read (fneg x)).sum (F.read (fneg y))).map F.write).getD nn) ∧ _)
  rw [read_fneg x hx, read_fneg y hy]
  rcases sum_opp (F.read x) (F.read y) with h | ⟨s, t, p, q, h1, h2⟩
  · left
    rw [h]
    cases hd : (F.read x).sum (F.read y) with
    | none =>
      have e2 : isn (fneg nn) = true := by rw [isn_fneg nn nn_lt]; exact isn_nn
      simp [hd, cn, e2]
    | some d =>
      have hn := sum_nan _ _ _ hd
      simp only [hd, Option.map_some, Option.getD_some]
      rw [write_opp d hn, cn_of]
      rw [← write_opp d hn]
      exact isn_write _ (by cases d <;> simp_all [Datum.opposite, Datum.isNaN])
  · right
    rw [h2, h1]
    exact ⟨write_zero _ _, write_zero _ _⟩

theorem nil0_neg (x : Nat) (h : Nil0 x) : Nil0 (cn (fneg x)) := by
  have e : (9223372036854775808 : Nat) = F.word true 0 := rfl
  have e0 : (0 : Nat) = F.word false 0 := rfl
  rcases h with rfl | rfl
  · right
    have : fneg 0 = 9223372036854775808 := fneg_word false 0 (by omega)
    rw [this, cn_of]
    rw [e]; exact isn_le _ _ (by omega)
  · left
    have : fneg 9223372036854775808 = 0 := fneg_word true 0 (by omega)
    rw [this, cn_of]
    rw [e0]; exact isn_le _ _ (by omega)

/-! ## what is not below 0 -/

def Pos (x : Nat) : Prop := x = nn ∨ ∃ r, r ≤ 9218868437227405312 ∧ x = F.word false r

theorem pos_write (d : Datum) (h : d.isNaN = false) (hn : d.neg = false) : Pos (F.write d) := by
  right
  cases d with
  | number s m p =>
    simp only [Datum.neg] at hn; subst hn
    simp only [Format.write, Format.nearest]
    split
    · exact ⟨0, by omega, rfl⟩
    · exact ⟨_, by rw [ir]; exact Nat.min_le_right _ _, rfl⟩
  | infinity s => simp only [Datum.neg] at hn; subst hn; exact ⟨_, by rw [ir]; exact Nat.le_refl _, rfl⟩
  | nan s f => simp [Datum.isNaN] at h

theorem pos_read {x : Nat} (h : Pos x) : (F.read x).isNaN = true ∨ ((F.read x).isNaN = false ∧ (F.read x).neg = false) := by
  rcases h with rfl | ⟨r, hr, e⟩
  · left; exact isn_nn
  · right
    rw [e, read_word false r (by omega)]
    split
    · exact ⟨rfl, rfl⟩
    · split
      · exact ⟨rfl, rfl⟩
      · split
        · exact ⟨rfl, rfl⟩
        · omega

theorem signed_pos (m k : Nat) : 0 ≤ signed false m k := Int.natCast_nonneg _

theorem pos_square (x : Nat) : Pos (fo .mul x x) := by
  simp only [fo, floatBits, Format.mul]
  cases h : (F.read x).product (F.read x) with
  | none => left; simp [h]
  | some d =>
    simp only [h, Option.map_some, Option.getD_some]
    refine pos_write d (product_nan _ _ _ h) ?_
    revert h
    cases F.read x <;> simp [Datum.product] <;> (rintro rfl; rfl)

theorem pos_sum (x y : Nat) (hx : Pos x) (hy : Pos y) : Pos (fo .add x y) := by
  simp only [fo, floatBits, Format.add]
  cases h : (F.read x).sum (F.read y) with
  | none => left; simp [h]
  | some d =>
    simp only [h, Option.map_some, Option.getD_some]
    refine pos_write d (sum_nan _ _ _ h) ?_
    have h1 := pos_read hx
    have h2 := pos_read hy
    revert h h1 h2
    show (F.read x).sum (F.read y) = some d → _
    generalize F.read x = a
    generalize F.read y = b
    cases a <;> cases b <;> simp [Datum.sum, Datum.isNaN, Datum.neg]
    · rename_i s m i t n j
      rintro rfl rfl rfl
      have e1 : 0 ≤ signed false m (i - min i j).toNat := signed_pos _ _
      have e2 : 0 ≤ signed false n (j - min i j).toNat := signed_pos _ _
      simp
      omega
    · rintro rfl h1 h2; exact h2
    · rintro rfl h1 h2; exact h1
    · rintro rfl rfl h1 h2; exact h2

theorem pos_not_lt (x : Nat) (h : Pos x) : (F.order x 0 == some .lt) = false := by
  have h1 := pos_read h
  have e0 : F.read 0 = .number false 0 (-1074) := by
    have := read_word false 0 (by omega)
    simpa [Format.word] using this
  simp only [Format.order, e0]
  revert h1
  generalize F.read x = a
  cases a with
  | number s m i =>
    simp only [Datum.isNaN, Datum.neg]
    rintro (h | ⟨_, rfl⟩)
    · cases h
    · have e1 : 0 ≤ signed false m (i - min i (-1074)).toNat := signed_pos _ _
      have e2 : signed false 0 ((-1074) - min i (-1074)).toNat = 0 := by simp [signed]
      simp only [Datum.order, e2]
      have : compare (signed false m (i - min i (-1074)).toNat) 0 ≠ .lt := by
        intro hc
        rw [Int.compare_eq_lt] at hc
        omega
      simpa using this
  | infinity s =>
    simp only [Datum.isNaN, Datum.neg]
    rintro (h | ⟨_, rfl⟩)
    · cases h
    · simp [Datum.order]
  | nan s t => intro _; simp [Datum.order]

end Go.Proofs.Ytdakgnbnjncnmaa
