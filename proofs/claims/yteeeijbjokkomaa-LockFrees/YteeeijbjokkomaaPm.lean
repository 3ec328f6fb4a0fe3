/- Monitors, those who wait in them, those who were woken, as plain data. Nothing of the program is in it. -/
import Derived.Test.YteeeijbjokkomaaDa
set_option linter.unusedSimpArgs false
set_option linter.unusedVariables false
namespace Go.Proofs.Yteeeijbjokkomaa
open Go Go.RowKit

def I64 (a : Int) : Prop := -9223372036854775808 ≤ a ∧ a ≤ 9223372036854775807

/-! ## rows of things of k cells each -/

theorem fm_len {α : Type} {c : α → List Value} {k : Nat} (hk : ∀ x, (c x).length = k) : ∀ l : List α, (l.flatMap c).length = l.length * k
  | [] => by simp
  | x :: l => by rw [List.flatMap_cons, List.length_append, fm_len hk l, hk x, List.length_cons, Nat.succ_mul]; omega

theorem fm_at {α : Type} {c : α → List Value} {k : Nat} (hk : ∀ x, (c x).length = k) : ∀ (l : List α) (i j : Nat) (hi : i < l.length), j < k → (l.flatMap c)[i * k + j]? = (c l[i])[j]?
  | x :: l, 0, j, _, hj => by
    have := hk x
    simp only [List.flatMap_cons, Nat.zero_mul, Nat.zero_add, List.getElem_cons_zero]
    rw [List.getElem?_append_left (by omega)]
  | x :: l, i + 1, j, hi, hj => by
    have := hk x
    have ih := fm_at hk l i j (by simpa using hi) hj
    simp only [List.flatMap_cons, List.getElem_cons_succ]
    rw [← ih, List.getElem?_append_right (by rw [hk x, Nat.succ_mul]; omega), hk x, Nat.succ_mul]
    congr 1
    omega

theorem fm_snoc {α : Type} (c : α → List Value) (l : List α) (x : α) : (l ++ [x]).flatMap c = l.flatMap c ++ c x := by simp

theorem fm_one {α : Type} {c : α → List Value} (h : ∀ x, ∀ u ∈ c x, u.oneCell' = true) (l : List α) : ∀ u ∈ l.flatMap c, u.oneCell' = true := by
  intro u hu
  obtain ⟨x, _, hx⟩ := List.mem_flatMap.1 hu
  exact h x u hx

theorem fm_take {α : Type} {c : α → List Value} {k : Nat} (hk : ∀ x, (c x).length = k) : ∀ (l : List α) (n : Nat), (l.flatMap c).take (n * k) = (l.take n).flatMap c
  | [], n => by simp
  | x :: l, 0 => by simp
  | x :: l, n + 1 => by
    rw [List.flatMap_cons, List.take_succ_cons, List.flatMap_cons, List.take_append, hk x]
    have e : (n + 1) * k - k = n * k := by rw [Nat.succ_mul]; omega
    rw [e, fm_take hk l n, List.take_of_length_le (by rw [hk x, Nat.succ_mul]; omega)]

theorem fm_drop {α : Type} {c : α → List Value} {k : Nat} (hk : ∀ x, (c x).length = k) : ∀ (l : List α) (n : Nat), (l.flatMap c).drop (n * k) = (l.drop n).flatMap c
  | [], n => by simp
  | x :: l, 0 => by simp
  | x :: l, n + 1 => by
    rw [List.flatMap_cons, List.drop_succ_cons, List.drop_append, hk x]
    have e : (n + 1) * k - k = n * k := by rw [Nat.succ_mul]; omega
    rw [e, fm_drop hk l n, List.drop_of_length_le (by rw [hk x, Nat.succ_mul]; omega), List.nil_append]

/-! ## the things -/

/-- A monitor: whose it is, how often. -/
abbrev MM := Int × Int
/-- One that waits: who, how often it had it, in which, until when. -/
structure WW where
  t : Int
  n : Int
  m : Int
  u : Int
deriving DecidableEq
abbrev KK := WW × Bool

def mC (x : MM) : List Value := [.int .i64 x.1, .int .i64 x.2]
def wC (x : WW) : List Value := [.int .i64 x.t, .int .i64 x.n, .int .i64 x.m, .int .i64 x.u]
def kC (x : KK) : List Value := [.int .i64 x.1.t, .int .i64 x.1.n, .int .i64 x.1.m, .int .i64 x.1.u, .bool x.2]
/-- The same as the document has it. -/
def sC (x : KK) : List Value := [.int .i64 x.1.t, .int .i64 x.1.m, .int .i64 x.1.n, .int .i64 x.1.u, .bool x.2]
theorem mC_len (x : MM) : (mC x).length = 2 := rfl
theorem wC_len (x : WW) : (wC x).length = 4 := rfl
theorem kC_len (x : KK) : (kC x).length = 5 := rfl
theorem sC_len (x : KK) : (sC x).length = 5 := rfl
theorem mC_one (x : MM) : ∀ u ∈ mC x, u.oneCell' = true := by intro u hu; simp [mC] at hu; rcases hu with rfl | rfl <;> rfl
theorem wC_one (x : WW) : ∀ u ∈ wC x, u.oneCell' = true := by intro u hu; simp [wC] at hu; rcases hu with rfl | rfl | rfl | rfl <;> rfl
theorem kC_one (x : KK) : ∀ u ∈ kC x, u.oneCell' = true := by intro u hu; simp [kC] at hu; rcases hu with rfl | rfl | rfl | rfl | rfl <;> rfl
theorem sC_one (x : KK) : ∀ u ∈ sC x, u.oneCell' = true := by intro u hu; simp [sC] at hu; rcases hu with rfl | rfl | rfl | rfl | rfl <;> rfl

theorem mC_set : ∀ (L : List MM) (i : Nat) (a b : Int), i < L.length → ((L.flatMap mC).set (i * 2) (.int .i64 a)).set (i * 2 + 1) (.int .i64 b) = (L.set i (a, b)).flatMap mC
  | [], i, a, b, h => by simp at h
  | x :: l, 0, a, b, _ => by simp [mC]
  | x :: l, i + 1, a, b, h => by
    have ih := mC_set l i a b (by simpa using h)
    have e1 : (i + 1) * 2 + 1 = i * 2 + 1 + 1 + 1 := by omega
    have e0 : (i + 1) * 2 = i * 2 + 1 + 1 := by omega
    rw [e1, e0]
    simp only [mC, List.flatMap_cons, List.cons_append, List.nil_append, List.set_cons_succ] at *
    rw [ih]
theorem mC_set1 : ∀ (L : List MM) (i : Nat) (b : Int) (h : i < L.length), (L.flatMap mC).set (i * 2 + 1) (.int .i64 b) = (L.set i (L[i].1, b)).flatMap mC
  | [], i, b, h => by simp at h
  | x :: l, 0, b, _ => by simp [mC]
  | x :: l, i + 1, b, h => by
    have ih := mC_set1 l i b (by simpa using h)
    have e1 : (i + 1) * 2 + 1 = i * 2 + 1 + 1 + 1 := by omega
    rw [e1]
    simp only [mC, List.flatMap_cons, List.cons_append, List.nil_append, List.set_cons_succ, List.getElem_cons_succ] at *
    rw [ih]

/-! ## what the document says of them -/

/-- All monitors, who waits, who was woken. -/
structure LL where
  M : List MM
  W : List WW
  K : List KK

def oneOf (i n : Int) : Bool := decide (0 ≤ i) && decide (i < n)
theorem oneOf_yes {i n : Int} (h1 : 0 ≤ i) (h2 : i < n) : oneOf i n = true := by simp [oneOf, h1, h2]
theorem oneOf_iff {i n : Int} : oneOf i n = true ↔ 0 ≤ i ∧ i < n := by simp [oneOf]
theorem oneOf_no {i n : Int} (h : ¬ (0 ≤ i ∧ i < n)) : oneOf i n = false := by
  cases hh : oneOf i n
  · rfl
  · exact absurd (oneOf_iff.1 hh) h

def wrongA (A : LL) (m t : Int) : Bool := !(oneOf m A.M.length && oneOf t 256)
def monA (A : LL) (m : Int) : MM := A.M.getD m.toNat (-1, 0)
def freeM (x : MM) (t : Int) : Bool := x.1 == -1 || x.1 == t
def freeA (A : LL) (m t : Int) : Bool := !wrongA A m t && freeM (monA A m) t
def waitsA (A : LL) (t : Int) : Bool := A.W.any (fun w => w.t == t)
/-- The first one that the test tells of: its place; -1, if there is none. -/
def fst {α : Type} (P : α → Bool) : List α → Nat → Int
  | [], _ => -1
  | x :: l, i => if P x then (i : Int) else fst P l (i + 1)
def wokeA (A : LL) (t : Int) : Int := fst (fun k : KK => k.1.t == t) A.K 0
def putA (A : LL) (m : Int) (x : MM) : LL := { A with M := A.M.set m.toNat x }

def makeA (A : LL) : LL × Int × Int := if 1024 ≤ A.M.length then (A, 0, 3) else ({ A with M := A.M ++ [(-1, 0)] }, A.M.length, 0)
def lockE (A : LL) (m t : Int) : Int :=
  if wrongA A m t then 1 else if !freeM (monA A m) t || waitsA A t || decide (0 ≤ wokeA A t) then 7 else if 1099511627776 ≤ (monA A m).2 then 3 else 0
def lockA (A : LL) (m t : Int) : LL := if lockE A m t = 0 then putA A m (t, (monA A m).2 + 1) else A
def hasE (A : LL) (m t : Int) : Int := if wrongA A m t then 1 else if (monA A m).1 == t then 0 else 8
def nrm (x : MM) : MM := if x.2 = 0 then (-1, 0) else x
def unlockA (A : LL) (m t : Int) : LL := if hasE A m t = 0 then putA A m (nrm (t, (monA A m).2 - 1)) else A
def waitE (A : LL) (m t u : Int) : Int := if wrongA A m t then 1 else if u < -1 then 1 else hasE A m t
def waitA (A : LL) (m t u : Int) : LL := if waitE A m t u = 0 then { putA A m (-1, 0) with W := A.W ++ [⟨t, (monA A m).2, m, u⟩] } else A

/-- One more of a row that is split. -/
def splS {α : Type} (P : α → Bool) (most : Int) (r : List α × List α) (x : α) : List α × List α :=
  if decide ((r.1.length : Int) < most) && P x then (r.1 ++ [x], r.2) else (r.1, r.2 ++ [x])
def spl {α : Type} (P : α → Bool) (most : Int) (l : List α) : List α × List α := l.foldl (splS P most) ([], [])
theorem spl_next {α : Type} (P : α → Bool) (most : Int) (l : List α) {k : Nat} (h : k < l.length) : spl P most (l.take (k + 1)) = splS P most (spl P most (l.take k)) l[k] := by
  unfold spl
  rw [List.take_succ_eq_append_getElem h, List.foldl_append]
  rfl
theorem spl_len {α : Type} (P : α → Bool) (most : Int) (l : List α) : (spl P most l).1.length + (spl P most l).2.length = l.length := by
  have key : ∀ (l : List α) (r : List α × List α), (l.foldl (splS P most) r).1.length + (l.foldl (splS P most) r).2.length = r.1.length + r.2.length + l.length := by
    intro l
    induction l with
    | nil => intro r; rfl
    | cons x l ih =>
      intro r
      rw [List.foldl_cons, ih]
      unfold splS
      split <;> simp <;> omega
  have := key l ([], [])
  simpa [spl] using this
theorem spl_all {α : Type} (P : α → Bool) (l : List α) : spl P l.length l = (l.filter P, l.filter (fun x => !P x)) := by
  have key : ∀ (l : List α) (r : List α × List α) (n : Int), (r.1.length : Int) + l.length ≤ n → l.foldl (splS P n) r = (r.1 ++ l.filter P, r.2 ++ l.filter (fun x => !P x)) := by
    intro l
    induction l with
    | nil => intro r n _; simp
    | cons x l ih =>
      intro r n hn
      rw [List.foldl_cons]
      simp only [List.length_cons] at hn
      have h1 : decide ((r.1.length : Int) < n) = true := by simp; omega
      cases hp : P x
      · have hs : splS P n r x = (r.1, r.2 ++ [x]) := by unfold splS; rw [h1, hp]; rfl
        rw [hs, ih _ _ (by simp; omega)]
        simp [hp]
      · have hs : splS P n r x = (r.1 ++ [x], r.2) := by unfold splS; rw [h1, hp]; rfl
        rw [hs, ih _ _ (by simp; omega)]
        simp [hp]
  have := key l ([], []) l.length (by simp)
  simpa [spl] using this

def notS (A : LL) (m : Int) (all : Bool) : List WW × List WW := spl (fun w => w.m == m) (if all then (A.W.length : Int) else 1) A.W
def notifyA (A : LL) (m t : Int) (all : Bool) : LL := if hasE A m t = 0 then { A with W := (notS A m all).2, K := A.K ++ (notS A m all).1.map (fun w => (w, true)) } else A
def notifyL (A : LL) (m t : Int) (all : Bool) : List Int := if hasE A m t = 0 then (notS A m all).1.map (·.t) else []

def dueP (now : Int) (w : WW) : Bool := w.u != -1 && decide (w.u ≤ now)
/-- Put behind all whose time is not later. -/
def insU (x : WW) : List WW → List WW
  | [] => [x]
  | y :: l => if x.u < y.u then x :: y :: l else y :: insU x l
/-- By their times, of the same time in the order in which they stand. -/
def srt (l : List WW) : List WW := l.foldl (fun r x => insU x r) []
def dueL (A : LL) (now : Int) : List WW := srt (A.W.filter (dueP now))
def expireA (A : LL) (now : Int) : LL := { A with W := A.W.filter (fun w => !dueP now w), K := A.K ++ (dueL A now).map (fun w => (w, false)) }

def relE (A : LL) (t : Int) : Int :=
  if oneOf t 256 then (match A.K[(wokeA A t).toNat]? with
    | some k => if wokeA A t < 0 then 7 else if freeM (monA A k.1.m) t then 0 else 7
    | none => 7) else 1
def relockA (A : LL) (t : Int) : LL :=
  if relE A t = 0 then (match A.K[(wokeA A t).toNat]? with
    | some k => { putA A k.1.m (t, k.1.n) with K := A.K.eraseIdx (wokeA A t).toNat }
    | none => A) else A
def dropM (t : Int) (x : MM) : MM := if x.1 == t then (-1, 0) else x
def dropA (A : LL) (t : Int) : LL := ⟨A.M.map (dropM t), A.W.filter (fun w => !(w.t == t)), A.K.filter (fun k => !(k.1.t == t))⟩
def wokenV (A : LL) (t : Int) : Int × Bool × Bool := match A.K[(wokeA A t).toNat]? with
  | some k => if wokeA A t < 0 then (0, false, false) else (k.1.m, k.2, true)
  | none => (0, false, false)
/-- The least time. -/
def minU : List WW → Int × Bool
  | [] => (0, false)
  | w :: l => if w.u == -1 then minU l else (match minU l with | (v, true) => (if v < w.u then v else w.u, true) | (_, false) => (w.u, true))

/-! ## what always holds -/

def okM (x : MM) : Prop := x = (-1, 0) ∨ ((0 ≤ x.1 ∧ x.1 < 256) ∧ 1 ≤ x.2 ∧ x.2 ≤ 1099511627776)
structure okW (N : Nat) (w : WW) : Prop where
  t : 0 ≤ w.t ∧ w.t < 256
  n : 1 ≤ w.n ∧ w.n ≤ 1099511627776
  m : 0 ≤ w.m ∧ w.m < N
  u : -1 ≤ w.u ∧ w.u ≤ 9223372036854775807
structure OKA (A : LL) : Prop where
  M : ∀ x ∈ A.M, okM x
  W : ∀ w ∈ A.W, okW A.M.length w
  K : ∀ k ∈ A.K, okW A.M.length k.1
  big : A.M.length ≤ 1024

end Go.Proofs.Yteeeijbjokkomaa
