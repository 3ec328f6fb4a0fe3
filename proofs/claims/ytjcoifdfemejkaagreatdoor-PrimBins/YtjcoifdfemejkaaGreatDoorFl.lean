/- The floats of 64 bits as plain functions of their bits: what a sum, a difference, a product, a quotient and a mirror give, every NaN told as one and the same word. -/
import Derived.WalkLawsBesides
import Derived.Deep.Draws
set_option linter.unusedSimpArgs false
set_option linter.unusedVariables false
namespace Go.Proofs.YtjcoifdfemejkaaGreatDoor
open Go Ieee

abbrev F : Format := FloatKind.f64.format

/-- The one word of all that is no number. -/
def nn : Nat := 9221120237041090561

def isn (x : Nat) : Bool := (F.read x).isNaN

/-- A word, told. -/
def cn (x : Nat) : Nat := if isn x then nn else x

def fadd (x y : Nat) : Nat := (F.add x y).getD nn
def fsub (x y : Nat) : Nat := (F.sub x y).getD nn
def fmul (x y : Nat) : Nat := (F.mul x y).getD nn
def fdiv (x y : Nat) : Nat := (F.div x y).getD nn
def fneg (x : Nat) : Nat := Op.negFloat .f64 x

theorem sw : F.signWeight = 9223372036854775808 := rfl
theorem bn : F.binade = 4503599627370496 := rfl
theorem ir : F.infRung = 9218868437227405312 := rfl
theorem lp : F.leastPlace = -1074 := rfl
theorem fb : F.fractionBits = 52 := rfl

theorem read_word (neg : Bool) (r : Nat) (h : r < 9223372036854775808) :
    F.read (F.word neg r) = if r < 4503599627370496 then .number neg r (-1074)
      else if r < 9218868437227405312 then .number neg (4503599627370496 + r % 4503599627370496) (-1074 + (r / 4503599627370496 - 1 : Nat))
      else if r = 9218868437227405312 then .infinity neg else .nan neg (r - 9218868437227405312) := by
  have e1 : F.word neg r % 9223372036854775808 = r := by
    unfold Format.word; rw [sw]; cases neg <;> simp <;> omega
  have e2 : (F.word neg r / 9223372036854775808 % 2 == 1) = neg := by
    unfold Format.word; rw [sw]; cases neg <;> simp <;> omega
  simp only [Format.read, sw, bn, ir, lp, e1, e2]

theorem word_of (x : Nat) (h : x < 18446744073709551616) : ∃ neg r, r < 9223372036854775808 ∧ x = F.word neg r := by
  by_cases hx : x < 9223372036854775808
  · exact ⟨false, x, hx, by simp [Format.word]⟩
  · exact ⟨true, x - 9223372036854775808, by omega, by simp [Format.word, sw]; omega⟩

theorem isn_word (neg : Bool) (r : Nat) (h : r < 9223372036854775808) : isn (F.word neg r) = decide (9218868437227405312 < r) := by
  unfold isn
  rw [read_word neg r h]
  split
  · simp [Datum.isNaN]; omega
  · split
    · simp [Datum.isNaN]; omega
    · split
      · simp [Datum.isNaN]; omega
      · simp [Datum.isNaN]; omega

theorem isn_le (neg : Bool) (r : Nat) (h : r ≤ 9218868437227405312) : isn (F.word neg r) = false := by
  rw [isn_word neg r (by omega)]; simp; omega

/-- A word that is written of no NaN is none. -/
theorem isn_write (d : Datum) (h : d.isNaN = false) : isn (F.write d) = false := by
  cases d with
  | number s m p =>
    simp only [Format.write, Format.nearest]
    split
    · exact isn_le _ _ (by omega)
    · exact isn_le _ _ (by rw [ir]; exact Nat.min_le_right _ _)
  | infinity s => exact isn_le _ _ (by rw [ir]; exact Nat.le_refl _)
  | nan s f => simp [Datum.isNaN] at h

theorem isn_nn : isn nn = true := by
  have : nn = F.word false 9221120237041090561 := by simp [Format.word, nn]
  rw [this, isn_word _ _ (by omega)]; rfl

theorem cn_nn : cn nn = nn := by simp [cn]
theorem cn_of (x : Nat) (h : isn x = false) : cn x = x := by simp [cn, h]
theorem isn_cn (x : Nat) : isn (cn x) = isn x := by
  unfold cn; split <;> simp_all [isn_nn]
theorem cn_cn (x : Nat) : cn (cn x) = cn x := by
  by_cases h : isn x = true
  · simp [cn, h]
  · simp [cn_of x (by simpa using h)]

theorem sum_nan (d e : Datum) (r : Datum) (h : d.sum e = some r) : r.isNaN = false := by
  cases d <;> cases e <;> simp [Datum.sum] at h <;> first | (subst h; rfl) | (obtain ⟨_, rfl⟩ := h; rfl)
theorem product_nan (d e : Datum) (r : Datum) (h : d.product e = some r) : r.isNaN = false := by
  cases d <;> cases e <;> simp [Datum.product] at h <;> first | (subst h; rfl) | (obtain ⟨_, rfl⟩ := h; rfl)
theorem quotient_nan (k : Nat) (d e : Datum) (r : Datum) (h : d.quotient k e = some r) : r.isNaN = false := by
  cases d <;> cases e <;> simp [Datum.quotient] at h <;> first | (subst h; rfl) | skip
  split at h
  · split at h
    · cases h
    · cases h; rfl
  · cases h; rfl

theorem isn_bits {op : BinOp} {x y r : Nat} (h : floatBits op .f64 x y = some r) : isn r = false := by
  unfold floatBits at h
  split at h
  · simp only [Format.add, Option.map_eq_some_iff] at h; obtain ⟨d, h, rfl⟩ := h; exact isn_write d (sum_nan _ _ _ h)
  · simp only [Format.sub, Option.map_eq_some_iff] at h; obtain ⟨d, h, rfl⟩ := h; exact isn_write d (sum_nan _ _ _ h)
  · simp only [Format.mul, Option.map_eq_some_iff] at h; obtain ⟨d, h, rfl⟩ := h; exact isn_write d (product_nan _ _ _ h)
  · simp only [Format.div, Option.map_eq_some_iff] at h; obtain ⟨d, h, rfl⟩ := h; exact isn_write d (quotient_nan _ _ _ _ h)
  · cases h

/-- What an operation gives, told. -/
def fo (op : BinOp) (x y : Nat) : Nat := (floatBits op .f64 x y).getD nn

/-- What the model's operation gives in a world, and the world behind it. -/
def fv (op : BinOp) (x y : Nat) (w : World) : Nat :=
  (floatBits op .f64 x y).getD ((Question.nanBits .f64 x y).cut (w.tape w.drawn (.nanBits .f64 x y)))
/-- How often it draws. -/
def fd (op : BinOp) (x y : Nat) : Nat := if (floatBits op .f64 x y).isSome then 0 else 1

theorem isn_cut (x y t : Nat) : isn ((Question.nanBits .f64 x y).cut t) = true := by
  have hm : t / 2 % (2 ^ 52 - 1) < 2 ^ 52 - 1 := Nat.mod_lt _ (by decide)
  rcases Nat.mod_two_eq_zero_or_one t with h | h
  · have : (Question.nanBits .f64 x y).cut t = F.word false (9218868437227405312 + 1 + t / 2 % (2 ^ 52 - 1)) := by
      simp [Question.cut, h, Format.word]
    rw [this, isn_word _ _ (by omega)]; simp; omega
  · have : (Question.nanBits .f64 x y).cut t = F.word true (9218868437227405312 + 1 + t / 2 % (2 ^ 52 - 1)) := by
      simp [Question.cut, h, Format.word, sw]; omega
    rw [this, isn_word _ _ (by omega)]; simp; omega

theorem cn_fv (op : BinOp) (x y : Nat) (w : World) : cn (fv op x y w) = fo op x y := by
  unfold fv fo
  cases h : floatBits op .f64 x y with
  | none => simp [cn, isn_cut]
  | some r => simp [cn_of r (isn_bits h)]

theorem cn_fo (op : BinOp) (x y : Nat) : cn (fo op x y) = fo op x y := by
  unfold fo
  cases h : floatBits op .f64 x y with
  | none => simp [cn_nn]
  | some r => simp [cn_of r (isn_bits h)]

theorem cut_lt (x y t : Nat) : (Question.nanBits .f64 x y).cut t < 18446744073709551616 := by
  have hm : t / 2 % (2 ^ 52 - 1) < 2 ^ 52 - 1 := Nat.mod_lt _ (by decide)
  have : t % 2 < 2 := Nat.mod_lt _ (by decide)
  simp only [Question.cut]
  omega

theorem fv_lt (op : BinOp) (x y : Nat) (w : World) : fv op x y w < 18446744073709551616 := by
  unfold fv
  cases h : floatBits op .f64 x y with
  | none => simpa using cut_lt x y _
  | some r => have := floatBits_wf h; simpa [Lit.wf] using this

theorem fo_lt (op : BinOp) (x y : Nat) : fo op x y < 18446744073709551616 := by
  unfold fo
  cases h : floatBits op .f64 x y with
  | none => simp [nn]
  | some r => have := floatBits_wf h; simpa [Lit.wf] using this

theorem read_isn {x : Nat} (h : isn x = true) : ∃ s t, F.read x = .nan s t := by
  unfold isn at h
  cases hx : F.read x <;> simp [hx, Datum.isNaN] at h
  exact ⟨_, _, rfl⟩

/-- An operand that is no number: whichever its bits are. -/
theorem bits_isn_left {op : BinOp} {x : Nat} (y : Nat) (h : isn x = true) : floatBits op .f64 x y = none := by
  obtain ⟨s, t, h⟩ := read_isn h
  cases op <;> simp [floatBits, Format.add, Format.sub, Format.mul, Format.div, h, Datum.sum, Datum.product, Datum.quotient]
theorem bits_isn_right {op : BinOp} {y : Nat} (x : Nat) (h : isn y = true) : floatBits op .f64 x y = none := by
  obtain ⟨s, t, h⟩ := read_isn h
  cases op <;> simp [floatBits, Format.add, Format.sub, Format.mul, Format.div, h, Datum.sum, Datum.product, Datum.quotient, Datum.opposite] <;> cases FloatKind.f64.format.read x <;> rfl

theorem fo_cn_left (op : BinOp) (x y : Nat) : fo op (cn x) y = fo op x y := by
  by_cases h : isn x = true
  · unfold fo; rw [bits_isn_left y h, bits_isn_left y ((isn_cn x).trans h)]
  · rw [cn_of x (by simpa using h)]
theorem fo_cn_right (op : BinOp) (x y : Nat) : fo op x (cn y) = fo op x y := by
  by_cases h : isn y = true
  · unfold fo; rw [bits_isn_right x h, bits_isn_right x ((isn_cn y).trans h)]
  · rw [cn_of y (by simpa using h)]

theorem fo_congr (op : BinOp) {x y x' y' : Nat} (h : cn x = cn x') (k : cn y = cn y') : fo op x y = fo op x' y' := by
  rw [← fo_cn_left, ← fo_cn_right, h, k, fo_cn_left, fo_cn_right]

section
variable {P : Program} (w : World)
theorem run_f (op : BinOp) (hop : op = .add ∨ op = .sub ∨ op = .mul ∨ op = .quo) (t : TypeId) (x y : Nat) :
    (binOp op t (.float .f64 x) (.float .f64 y)).run P w = .ok (.float .f64 (fv op x y w)) (w.drewN (fd op x y)) := by
  cases h : floatBits op .f64 x y with
  | some r =>
    rw [run_float_arith w op t .f64 x y r h]; simp [fv, fd, h, World.drewN_zero]
  | none =>
    have h' := h
    unfold floatBits at h'
    rcases hop with rfl | rfl | rfl | rfl <;> simp only at h' <;> simp [binOp, Op.floatArith, h', fv, fd, h, Question.forced, World.drew_is_drewN]

@[go_sem] theorem run_fneg (x : Nat) : (Op.unary .neg (.float .f64 x)).run P w = .ok (.float .f64 (fneg x)) w := rfl
@[go_sem] theorem run_fadd (t : TypeId) (x y : Nat) : (binOp .add t (.float .f64 x) (.float .f64 y)).run P w = .ok (.float .f64 (fv .add x y w)) (w.drewN (fd .add x y)) := run_f w .add (.inl rfl) t x y
@[go_sem] theorem run_fsub (t : TypeId) (x y : Nat) : (binOp .sub t (.float .f64 x) (.float .f64 y)).run P w = .ok (.float .f64 (fv .sub x y w)) (w.drewN (fd .sub x y)) := run_f w .sub (.inr (.inl rfl)) t x y
@[go_sem] theorem run_fmul (t : TypeId) (x y : Nat) : (binOp .mul t (.float .f64 x) (.float .f64 y)).run P w = .ok (.float .f64 (fv .mul x y w)) (w.drewN (fd .mul x y)) := run_f w .mul (.inr (.inr (.inl rfl))) t x y
@[go_sem] theorem run_fquo (t : TypeId) (x y : Nat) : (binOp .quo t (.float .f64 x) (.float .f64 y)).run P w = .ok (.float .f64 (fv .quo x y w)) (w.drewN (fd .quo x y)) := run_f w .quo (.inr (.inr (.inr rfl))) t x y
end

section
variable {P : Program} (w : World) (a : Addr) (m : Mode)
@[go_sem] theorem run_store_float (k : FloatKind) (n : Nat) : (store a (.float k n) m).run P w = stored P w a (.float k n) m := run_store P w a _ m rfl
@[go_sem] theorem run_store_complex (k : FloatKind) (x y : Nat) : (store a (.complex k x y) m).run P w = stored P w a (.complex k x y) m := run_store P w a _ m rfl
@[go_sem] theorem alloc_drewN (n : Nat) (o : Obj) : (w.drewN n).alloc o = (w.alloc o).drewN n := rfl
@[go_sem] theorem setCell_drewN (n : Nat) (v : Value) : (w.drewN n).setCell a v = (w.setCell a v).drewN n := rfl
@[go_sem] theorem shape_drewN (n r : Nat) : (w.drewN n).shape? r = w.shape? r := rfl
end

end Go.Proofs.YtjcoifdfemejkaaGreatDoor
