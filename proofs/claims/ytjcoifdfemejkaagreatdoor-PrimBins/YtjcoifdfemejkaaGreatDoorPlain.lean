/- Plain arithmetic of tagged words: what a word's number, kind and index are, and how sums, products and quotients behave modulo 2 to the 62. Nothing of the program is in it. -/
import Derived.RowKit
import Derived.Laws.BitsAllLaws
namespace Go.Proofs.YtjcoifdfemejkaaGreatDoor
open Go.RowKit

def U (v : Int) : Prop := 0 ≤ v ∧ v < 18446744073709551616
def N (v : Int) : Prop := v % 4 = 0
/-- the word of a number -/
def mk (n : Int) : Int := (4 * n) % 18446744073709551616
/-- the number of a word whose tag is 0 -/
def nm (v : Int) : Int := ((v + 9223372036854775808) % 18446744073709551616 - 9223372036854775808) / 4
def isN (v : Int) : Bool := decide (v % 4 = 0)
def numV (v : Int) : Int := if v % 4 = 0 then nm v else 0
def kd (v : Int) : Int :=
  if v % 4 = 0 then 0 else if v % 4 = 1 then (if v = 1 ∨ v = 5 ∨ v = 9 then 1 else 4) else if v / 4 ≤ 2147483647 then v % 4 else 4
def hasI (v : Int) : Bool := decide (kd v = 2 ∨ kd v = 3)
def idxV (v : Int) : Int := if kd v = 2 ∨ kd v = 3 then v / 4 else 0
def tru (v : Int) : Bool := v != 1 && v != 5
def refV (i : Int) : Int := if 0 ≤ i ∧ i ≤ 2147483647 then 4 * i + 2 else 0
def primV (i : Int) : Int := if 0 ≤ i ∧ i ≤ 2147483647 then 4 * i + 3 else 0
def erI (i : Int) : Int := if 0 ≤ i ∧ i ≤ 2147483647 then 0 else 1
def bv (b : Bool) : Int := if b then 9 else 5
def ltB (a b : Int) : Bool := decide (nm a < nm b)
def quo (x y : Int) : Int := x.tdiv y
def rest (x y : Int) : Int := x.tmod y

theorem and3 (v : Int) (h : U v) : bits .and .u64 v 3 = v % 4 := by
  obtain ⟨h0, h1⟩ := h
  rw [u64_and v 3 h0 h1 (by omega) (by omega)]
  show ((v.toNat &&& 3 : Nat) : Int) = _
  rw [show (3 : Nat) = 2 ^ 2 - 1 from rfl, Nat.and_two_pow_sub_one_eq_mod]
  omega
theorem or0 (v : Int) (h0 : 0 ≤ v) (h1 : v < 18446744073709551616) : bits .or .u64 v 0 = v := by
  rw [u64_or v 0 h0 h1 (by omega) (by omega)]
  show ((v.toNat ||| 0 : Nat) : Int) = _
  rw [Nat.or_zero]; omega
theorem or_low (i k : Nat) (hk : k < 4) : (i * 4) ||| k = i * 4 + k := by
  have h := Nat.two_pow_add_eq_or_of_lt (i := 2) (b := k) (by omega) i
  rw [show (2 : Nat) ^ 2 = 4 from rfl] at h
  rw [Nat.mul_comm i 4]; exact h.symm
theorem int_eq (n : Int) : bits BinOp.or IntKind.u64 (IntKind.u64.wrap (IntKind.u64.wrap n * 4)) 0 = mk n := by
  simp only [IntKind.wrap_u64]
  rw [or0 _ (by omega) (by omega)]
  unfold mk; omega
theorem rint_eq (n : Int) : IntKind.u64.wrap ((IntKind.u64.wrap n).tmod 4611686018427387904 * 4) = mk n := by
  simp only [IntKind.wrap_u64]
  rw [tmod_of_emod]
  unfold mk; omega
theorem or_tag (i k : Int) (h0 : 0 ≤ i) (h1 : i ≤ 2147483647) (k0 : 0 ≤ k) (k1 : k < 4) : bits BinOp.or IntKind.u64 (i * 4) k = 4 * i + k := by
  rw [u64_or (i * 4) k (by omega) (by omega) (by omega) (by omega)]
  have h := or_low i.toNat k.toNat (by omega)
  rw [show (i * 4).toNat = i.toNat * 4 by omega, h]; omega
theorem mk_U (n : Int) : U (mk n) := by unfold U mk; omega
theorem mk_N (n : Int) : N (mk n) := by unfold N mk; omega
theorem nm_bd (v : Int) : -2305843009213693952 ≤ nm v ∧ nm v ≤ 2305843009213693951 := by unfold nm; omega
theorem nm_of (v : Int) : wrap64 v / 4 = nm v := rfl
theorem mk_nm (v : Int) (h : U v) (n : N v) : mk (nm v) = v := by unfold U at h; unfold N at n; unfold mk nm; omega
/-- a number that is made and told: it is the same modulo 2 to the 62 -/
theorem nm_mk (n : Int) : ∃ k, nm (mk n) = n + 4611686018427387904 * k := by
  refine ⟨-((n + 2305843009213693952) / 4611686018427387904), ?_⟩
  unfold nm mk; omega
theorem nm_mk_in (n : Int) (h0 : -2305843009213693952 ≤ n) (h1 : n ≤ 2305843009213693951) : nm (mk n) = n := by unfold nm mk; omega
/-- words of numbers that are the same modulo 2 to the 62 are the same -/
theorem mk_congr (a b k : Int) (h : a = b + 4611686018427387904 * k) : mk a = mk b := by unfold mk; omega
theorem mk_wrap64 (n : Int) : mk (wrap64 n) = mk n := by unfold mk wrap64; omega
end Go.Proofs.YtjcoifdfemejkaaGreatDoor
