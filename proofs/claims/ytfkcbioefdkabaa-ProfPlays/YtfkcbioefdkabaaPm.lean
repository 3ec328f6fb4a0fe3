/- What a profile counts, as plain data: things that are told, one behind the other. Nothing of the program is in it. -/
import Derived.WalkKit
set_option linter.unusedSimpArgs false
set_option linter.unusedVariables false
namespace Go.Proofs.Ytfkcbioefdkabaa
open Go Go.RowKit

/-- A thing that is told: what, of which function or global, at which place, kinds, a value. -/
structure AA where
  d : Int
  f : Int
  t : Int
  a : Int
  b : Int
  v : Int

/-- One more thing, for a heat. -/
def heat1 (f : Int) (n : Nat) (x : AA) : Nat := if x.f = f then (if x.d = 0 ∨ x.d = 1 then n + 1 else if x.d = 4 then 0 else n) else n
def heatOf (L : List AA) (f : Int) : Nat := L.foldl (heat1 f) 0

/-- One more thing, for a place's bits. -/
def kind1 (f t : Int) (n : Nat) (x : AA) : Nat := if x.d = 2 ∧ x.f = f ∧ x.t = t then n ||| (1 <<< (x.a.toNat % 4) ||| 16 <<< (x.b.toNat % 4)) else n
def kindOf (L : List AA) (f t : Int) : Nat := L.foldl (kind1 f t) 0

/-- One more thing, for a global. -/
def write1 (g : Int) (p : Nat × Int) (x : AA) : Nat × Int := if x.d = 3 ∧ x.f = g then (p.1 + 1, x.v) else p
def writeOf (L : List AA) (g : Int) : Nat × Int := L.foldl (write1 g) (0, 0)

/-- May it be told? -/
def okT (F G : Nat) (x : AA) : Bool :=
  if x.d = 2 then decide (0 ≤ x.f ∧ x.f < F ∧ 0 ≤ x.t ∧ x.t < 65536 ∧ 0 ≤ x.a ∧ x.a ≤ 3 ∧ 0 ≤ x.b ∧ x.b ≤ 3)
  else if x.d = 3 then decide (0 ≤ x.f ∧ x.f < G) else decide (0 ≤ x.f ∧ x.f < F)

def tellL (F G : Nat) (L : List AA) (x : AA) : List AA := if okT F G x then L ++ [x] else L

theorem heat_snoc (L : List AA) (x : AA) (f : Int) : heatOf (L ++ [x]) f = heat1 f (heatOf L f) x := by simp [heatOf]
theorem kind_snoc (L : List AA) (x : AA) (f t : Int) : kindOf (L ++ [x]) f t = kind1 f t (kindOf L f t) x := by simp [kindOf]
theorem write_snoc (L : List AA) (x : AA) (g : Int) : writeOf (L ++ [x]) g = write1 g (writeOf L g) x := by simp [writeOf]

theorem bits_lt (i j : Nat) : 1 <<< (i % 4) ||| 16 <<< (j % 4) < 2 ^ 8 := by
  have h : ∀ a b : Fin 4, 1 <<< a.val ||| 16 <<< b.val < 2 ^ 8 := by decide
  exact h ⟨i % 4, by omega⟩ ⟨j % 4, by omega⟩
theorem kind_lt (f t : Int) : ∀ (L : List AA) (n : Nat), n < 2 ^ 8 → L.foldl (kind1 f t) n < 2 ^ 8
  | [], n, h => h
  | x :: L, n, h => by
    refine kind_lt f t L _ ?_
    unfold kind1
    split
    · exact Nat.or_lt_two_pow h (bits_lt _ _)
    · exact h
theorem kindOf_lt (L : List AA) (f t : Int) : kindOf L f t < 256 := kind_lt f t L 0 (by decide)

theorem heat_le (f : Int) : ∀ (L : List AA) (n : Nat), L.foldl (heat1 f) n ≤ n + L.length
  | [], n => by simp
  | x :: L, n => by
    have h := heat_le f L (heat1 f n x)
    have h1 : heat1 f n x ≤ n + 1 := by unfold heat1; split <;> (try split) <;> (try split) <;> omega
    simp only [List.foldl_cons, List.length_cons]
    omega
theorem heatOf_le (L : List AA) (f : Int) : heatOf L f ≤ L.length := by have := heat_le f L 0; unfold heatOf; omega

theorem write_le (g : Int) : ∀ (L : List AA) (p : Nat × Int), (L.foldl (write1 g) p).1 ≤ p.1 + L.length
  | [], p => by simp
  | x :: L, p => by
    have h := write_le g L (write1 g p x)
    have h1 : (write1 g p x).1 ≤ p.1 + 1 := by unfold write1; split <;> simp
    simp only [List.foldl_cons, List.length_cons]
    omega
theorem writeOf_le (L : List AA) (g : Int) : (writeOf L g).1 ≤ L.length := by have := write_le g L (0, 0); unfold writeOf; simpa using this

/-! ## the hot ones -/

/-- x comes ahead of y: hotter, or of the same heat and ahead in order. Pairs: the function, its heat. -/
def ahd (x y : Int × Int) : Bool := decide (y.2 < x.2) || (decide (x.2 = y.2) && decide (x.1 < y.1))

def insH (x : Int × Int) : List (Int × Int) → List (Int × Int)
  | [] => [x]
  | y :: l => if ahd x y then x :: y :: l else y :: insH x l
def sortH : List (Int × Int) → List (Int × Int)
  | [] => []
  | x :: l => insH x (sortH l)

theorem insH_perm (x : Int × Int) : ∀ l, (insH x l).Perm (x :: l)
  | [] => List.Perm.refl _
  | y :: l => by
    unfold insH
    split
    · exact List.Perm.refl _
    · exact ((insH_perm x l).cons y).trans (List.Perm.swap x y l)
theorem sortH_perm : ∀ l, (sortH l).Perm l
  | [] => List.Perm.refl _
  | x :: l => (insH_perm x _).trans ((sortH_perm l).cons x)

theorem ahd_total (x y : Int × Int) (h : ahd x y = false) : ahd y x = true ∨ x = y := by
  unfold ahd at *
  simp at h
  by_cases h1 : x.2 < y.2
  · left; simp [h1]
  · have h2 : x.2 = y.2 := by omega
    by_cases h3 : y.1 < x.1
    · left; simp [h2, h3]
    · right; exact Prod.ext (by have := h.2 h2; omega) h2
theorem ahd_trans {x y z : Int × Int} (h : ahd x y = true) (k : ahd y z = true) : ahd x z = true := by
  unfold ahd at *
  simp at h k ⊢
  omega
theorem ahd_irrefl (x : Int × Int) : ahd x x = false := by unfold ahd; simp
theorem ahd_asymm {x y : Int × Int} (h : ahd x y = true) : ahd y x = false := by
  cases k : ahd y x with
  | false => rfl
  | true => have := ahd_trans h k; rw [ahd_irrefl] at this; cases this

/-- In order: each one ahead of all behind it, or the same. -/
def Ord (l : List (Int × Int)) : Prop := l.Pairwise (fun x y => ahd y x = false)

theorem insH_ord (x : Int × Int) : ∀ l, Ord l → Ord (insH x l)
  | [], _ => by simp [insH, Ord]
  | y :: l, h => by
    have h' := h
    unfold Ord at h'
    rw [List.pairwise_cons] at h'
    unfold insH
    split
    · rename_i hxy
      unfold Ord
      rw [List.pairwise_cons]
      refine ⟨fun z hz => ?_, h⟩
      rcases List.mem_cons.1 hz with rfl | hz
      · exact ahd_asymm hxy
      · cases k : ahd z x with
        | false => rfl
        | true =>
          have := ahd_trans k hxy
          rw [h'.1 z hz] at this
          cases this
    · rename_i hxy
      unfold Ord
      rw [List.pairwise_cons]
      refine ⟨fun z hz => ?_, insH_ord x l h'.2⟩
      have := (insH_perm x l).mem_iff.1 hz
      rcases List.mem_cons.1 this with rfl | hz
      · simpa using hxy
      · exact h'.1 z hz
theorem sortH_ord : ∀ l, Ord (sortH l)
  | [] => by simp [sortH, Ord]
  | x :: l => insH_ord x _ (sortH_ord l)

/-- There is one order. -/
theorem ord_unique : ∀ (l m : List (Int × Int)), Ord l → Ord m → l.Perm m → l = m
  | [], m, _, _, hp => (List.nil_perm.1 hp).symm
  | x :: l, [], _, _, hp => by have := hp.length_eq; simp at this
  | x :: l, y :: m, hl, hm, hp => by
    have hl' := hl
    have hm' := hm
    unfold Ord at hl' hm'
    rw [List.pairwise_cons] at hl' hm'
    have e : x = y := by
      by_cases e : x = y
      · exact e
      · have h1 : y ∈ x :: l := hp.mem_iff.2 (by simp)
        have h2 : x ∈ y :: m := hp.mem_iff.1 (by simp)
        have h3 : y ∈ l := by rcases List.mem_cons.1 h1 with h | h; exact absurd h.symm e; exact h
        have h4 : x ∈ m := by rcases List.mem_cons.1 h2 with h | h; exact absurd h e; exact h
        rcases ahd_total x y (hm'.1 x h4) with k | k
        · rw [hl'.1 y h3] at k; cases k
        · exact k
    subst e
    rw [ord_unique l m hl'.2 hm'.2 (List.perm_cons x |>.1 hp)]

/-- The functions that are hot enough, each with its heat. -/
def hots (hs : Nat → Int) (least : Int) (F : Nat) : List (Int × Int) := ((List.range F).map (fun (i : Nat) => ((i : Int), hs i))).filter (fun p => decide (0 < p.2) && decide (least ≤ p.2))
def hotL (hs : Nat → Int) (least : Int) (F : Nat) : List Int := (sortH (hots hs least F)).map Prod.fst

theorem hots_succ (hs : Nat → Int) (least : Int) (n : Nat) : hots hs least (n + 1) = hots hs least n ++ (if 0 < hs n ∧ least ≤ hs n then [((n : Int), hs n)] else []) := by
  unfold hots
  rw [List.range_succ, List.map_append, List.filter_append]
  congr 1
  by_cases h : 0 < hs n ∧ least ≤ hs n
  · simp [h]
  · rw [if_neg h]
    simp
    omega

theorem mem_hots {hs : Nat → Int} {least : Int} {F : Nat} {p : Int × Int} : p ∈ hots hs least F ↔ ∃ i : Nat, i < F ∧ p = ((i : Int), hs i) ∧ 0 < hs i ∧ least ≤ hs i := by
  unfold hots
  simp
  constructor
  · rintro ⟨⟨i, hi, rfl⟩, h1, h2⟩
    exact ⟨i, hi, rfl, h1, h2⟩
  · rintro ⟨i, hi, rfl, h1, h2⟩
    exact ⟨⟨i, hi, rfl⟩, h1, h2⟩

theorem hots_len (hs : Nat → Int) (least : Int) : ∀ F, (hots hs least F).length ≤ F := fun F => by
  unfold hots
  exact Nat.le_trans (List.length_filter_le _ _) (by simp)
theorem hotL_len (hs : Nat → Int) (least : Int) (F : Nat) : (hotL hs least F).length = (hots hs least F).length := by
  unfold hotL
  rw [List.length_map]
  exact (sortH_perm _).length_eq

/-! ## what stays as it is -/
def stab (ws : Nat → Int × Int) (n : Nat) : List (Int × Int) := (((List.range n).map (fun (i : Nat) => ((i : Int), ws i))).filter (fun p => decide (p.2.1 = 1))).map (fun p => (p.1, p.2.2))
theorem stab_succ (ws : Nat → Int × Int) (n : Nat) : stab ws (n + 1) = stab ws n ++ (if (ws n).1 = 1 then [((n : Int), (ws n).2)] else []) := by
  unfold stab
  rw [List.range_succ, List.map_append, List.filter_append, List.map_append]
  congr 1
  by_cases h : (ws n).1 = 1
  · simp [h]
  · simp [h]
theorem stab_len (ws : Nat → Int × Int) (n : Nat) : (stab ws n).length ≤ n := by
  unfold stab
  rw [List.length_map]
  exact Nat.le_trans (List.length_filter_le _ _) (by simp)

end Go.Proofs.Ytfkcbioefdkabaa
