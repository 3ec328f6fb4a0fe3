/- Versions of functions' code as plain data. Nothing of the program is in it. -/
import Derived.Test.YtaeifhfhahcoiaaDa
set_option linter.unusedSimpArgs false
set_option linter.unusedVariables false
namespace Go.Proofs.Ytaeifhfhahcoiaa
open Go Go.RowKit

/-- A version: its function, what it counts on, whether it is valid. -/
structure VV where
  f : Int
  on : List (Int × Int)
  ok : Bool

def oneOf (i n : Int) : Bool := decide (0 ≤ i) && decide (i < n)

theorem oneOf_yes {i n : Int} (h1 : 0 ≤ i) (h2 : i < n) : oneOf i n = true := by simp [oneOf, h1, h2]
theorem oneOf_iff {i n : Int} : oneOf i n = true ↔ 0 ≤ i ∧ i < n := by simp [oneOf]
theorem oneOf_no {i n : Int} (h : ¬ (0 ≤ i ∧ i < n)) : oneOf i n = false := by
  cases hh : oneOf i n
  · rfl
  · exact absurd (oneOf_iff.1 hh) h

/-- Globals alone, and none of them twice, as far as k. -/
def nmsP (G : Nat) (l : List (Int × Int)) (k : Nat) : Prop := ∀ i (h : i < l.length), i < k → (0 ≤ l[i].1 ∧ l[i].1 < G) ∧ ∀ j (hj : j < i), l[j].1 ≠ l[i].1

open Classical in
noncomputable def nms (G : Nat) (l : List (Int × Int)) : Bool := decide (nmsP G l l.length)

theorem nms_iff {G : Nat} {l : List (Int × Int)} : nms G l = true ↔ nmsP G l l.length := by simp [nms]
theorem nms_no {G : Nat} {l : List (Int × Int)} (h : ¬ nmsP G l l.length) : nms G l = false := by simp [nms, h]
theorem nmsP_zero (G : Nat) (l : List (Int × Int)) : nmsP G l 0 := fun i _ h => absurd h (Nat.not_lt_zero i)
theorem nmsP_succ {G : Nat} {l : List (Int × Int)} {k : Nat} (h : nmsP G l k) (hk : k < l.length) (h1 : 0 ≤ l[k].1 ∧ l[k].1 < G) (h2 : ∀ j (hj : j < k), l[j].1 ≠ l[k].1) : nmsP G l (k + 1) := by
  intro i hi hik
  by_cases e : i = k
  · subst e; exact ⟨h1, h2⟩
  · exact h i hi (by omega)
theorem nmsP_mono {G : Nat} {l : List (Int × Int)} {k m : Nat} (h : nmsP G l m) (hk : k ≤ m) : nmsP G l k := fun i hi hik => h i hi (by omega)
theorem nms_nil (G : Nat) : nms G [] = true := nms_iff.2 (fun i h => by simp at h)
theorem nms_one (G : Nat) (g v : Int) (h1 : 0 ≤ g) (h2 : g < G) : nms G [(g, v)] = true := nms_iff.2 (fun i h _ => by
  have : i = 0 := by simp at h; omega
  subst this
  exact ⟨⟨h1, h2⟩, fun j hj => absurd hj (Nat.not_lt_zero j)⟩)

/-- Does a write of v to g end it? -/
def hit (g v : Int) (x : VV) : Bool := x.ok && x.on.any (fun y => y.1 == g && y.2 != v)
def vof (f : Int) (x : VV) : Bool := x.ok && x.f == f
def aof (f : Int) (x : VV) : Bool := x.f == f

/-- The places of those that are meant, as far as k. -/
def idx (P : VV → Bool) : List VV → Nat → List Nat
  | _, 0 => []
  | L, k + 1 => idx P L k ++ (match L[k]? with | some x => if P x then [k] else [] | none => [])

theorem idx_yes {P : VV → Bool} {L : List VV} {k : Nat} {x : VV} (h : L[k]? = some x) (hp : P x = true) : idx P L (k + 1) = idx P L k ++ [k] := by simp [idx, h, hp]
theorem idx_no {P : VV → Bool} {L : List VV} {k : Nat} {x : VV} (h : L[k]? = some x) (hp : P x = false) : idx P L (k + 1) = idx P L k := by simp [idx, h, hp]
theorem idx_len (P : VV → Bool) (L : List VV) : ∀ k, (idx P L k).length ≤ k
  | 0 => by simp [idx]
  | k + 1 => by
    have ih := idx_len P L k
    unfold idx
    split
    · split <;> simp <;> omega
    · simp; omega

def all (P : VV → Bool) (L : List VV) : List Nat := idx P L L.length

theorem mem_idx {P : VV → Bool} {L : List VV} : ∀ {k i : Nat}, i ∈ idx P L k ↔ i < k ∧ ∃ x, L[i]? = some x ∧ P x = true
  | 0, i => by simp [idx]
  | k + 1, i => by
    unfold idx
    rw [List.mem_append, mem_idx (k := k)]
    cases h : L[k]? with
    | none =>
      simp only [List.not_mem_nil, or_false]
      constructor
      · rintro ⟨h1, h2⟩; exact ⟨by omega, h2⟩
      · rintro ⟨h1, x, hx, hp⟩
        refine ⟨?_, x, hx, hp⟩
        by_cases e : i = k
        · subst e; rw [h] at hx; cases hx
        · omega
    | some y =>
      by_cases hp : P y = true
      · simp only [hp, if_true, List.mem_singleton]
        constructor
        · rintro (⟨h1, h2⟩ | rfl)
          · exact ⟨by omega, h2⟩
          · exact ⟨by omega, y, h, hp⟩
        · rintro ⟨h1, x, hx, hpx⟩
          by_cases e : i = k
          · exact .inr e
          · exact .inl ⟨by omega, x, hx, hpx⟩
      · simp only [hp, Bool.false_eq_true, if_false, List.not_mem_nil, or_false]
        constructor
        · rintro ⟨h1, h2⟩; exact ⟨by omega, h2⟩
        · rintro ⟨h1, x, hx, hpx⟩
          refine ⟨?_, x, hx, hpx⟩
          by_cases e : i = k
          · subst e
            rw [h] at hx
            obtain rfl := Option.some.inj hx
            exact absurd hpx hp
          · omega

theorem mem_all {P : VV → Bool} {L : List VV} {i : Nat} : i ∈ all P L ↔ ∃ x, L[i]? = some x ∧ P x = true := by
  unfold all
  rw [mem_idx]
  constructor
  · exact fun h => h.2
  · rintro ⟨x, hx, hp⟩
    exact ⟨(List.getElem?_eq_some_iff.1 hx).1, x, hx, hp⟩

/-- Valid no more. -/
def off (x : VV) : VV := { x with ok := false }

def wroteL (g v : Int) (L : List VV) : List VV := L.map (fun x => if hit g v x then off x else x)
def dropL (i : Nat) (L : List VV) : List VV := L.modify i off

/-- Those at the first k of these places are valid no more. -/
def offs : List Nat → List VV → List VV
  | [], L => L
  | i :: is, L => offs is (L.modify i off)

theorem offs_len : ∀ (is : List Nat) (L : List VV), (offs is L).length = L.length
  | [], L => rfl
  | i :: is, L => by rw [offs, offs_len]; simp

theorem offs_snoc : ∀ (is : List Nat) (i : Nat) (L : List VV), offs (is ++ [i]) L = (offs is L).modify i off
  | [], i, L => rfl
  | j :: is, i, L => by simp only [List.cons_append, offs]; exact offs_snoc is i _

theorem off_off (x : VV) : off (off x) = off x := rfl

theorem offs_at : ∀ (is : List Nat) (L : List VV) (i : Nat), (offs is L)[i]? = (L[i]?).map (fun x => if i ∈ is then off x else x)
  | [], L, i => by simp [offs]
  | j :: is, L, i => by
    rw [offs, offs_at is, List.getElem?_modify]
    cases L[i]? with
    | none => rfl
    | some x =>
      by_cases h1 : i ∈ is
      · by_cases h2 : j = i
        · subst h2; simp [h1, off_off]
        · simp [h1, h2]
      · by_cases h2 : j = i
        · subst h2; simp [h1]
        · simp [h1, h2, Ne.symm h2]

theorem offs_all (g v : Int) (L : List VV) : offs (all (hit g v) L) L = wroteL g v L := by
  apply List.ext_getElem?
  intro i
  rw [offs_at]
  unfold wroteL
  rw [List.getElem?_map]
  cases h : L[i]? with
  | none => rfl
  | some x =>
    simp only [Option.map_some, Option.some.injEq]
    by_cases hp : hit g v x = true
    · have : i ∈ all (hit g v) L := mem_all.2 ⟨x, h, hp⟩
      simp [this, hp]
    · have : i ∉ all (hit g v) L := by
        intro hm
        obtain ⟨y, hy, hq⟩ := mem_all.1 hm
        rw [h] at hy
        obtain rfl := Option.some.inj hy
        exact hp hq
      simp [this, hp]

def cnt (f : Int) (L : List VV) : Nat := (all (aof f) L).length

/-- What Add answers. -/
noncomputable def addE (F G : Nat) (L : List VV) (f : Int) (l : List (Int × Int)) : Int :=
  if oneOf f F = false ∨ nms G l = false then 1 else if all (vof f) L ≠ [] then 7 else if 4 ≤ cnt f L then 3 else 0

/-- Pairs as cells. -/
def depC (l : List (Int × Int)) : List Value := l.flatMap (fun p => [.int .i64 p.1, .int .u64 p.2])
theorem depC_snoc (l : List (Int × Int)) (p : Int × Int) : depC (l ++ [p]) = depC l ++ [.int .i64 p.1, .int .u64 p.2] := by simp [depC]
theorem depC_len (l : List (Int × Int)) : (depC l).length = l.length * 2 := by
  induction l with
  | nil => rfl
  | cons x l ih => simp [depC] at *; omega
theorem depC_one (l : List (Int × Int)) : ∀ u ∈ depC l, u.oneCell' = true := by
  intro u hu
  obtain ⟨p, _, hp⟩ := List.mem_flatMap.1 hu
  simp at hp
  rcases hp with rfl | rfl <;> rfl
theorem depC_get : ∀ (l : List (Int × Int)) (i : Nat) (h : i < l.length), (depC l)[i * 2]? = some (.int .i64 l[i].1) ∧ (depC l)[i * 2 + 1]? = some (.int .u64 l[i].2)
  | [], i, h => by simp at h
  | p :: l, 0, _ => by simp [depC]
  | p :: l, i + 1, h => by
    have ih := depC_get l i (by simp at h; omega)
    have e1 : (i + 1) * 2 = i * 2 + 1 + 1 := by omega
    rw [e1]
    simp only [depC, List.flatMap_cons, List.cons_append, List.nil_append, List.getElem?_cons_succ, List.getElem_cons_succ]
    simpa [depC] using ih

/-- Versions, each with its list's place, as cells. -/
def verC (q : VV × Value) : List Value := [.int .i64 q.1.f, q.2, .bool q.1.ok]
def rowC (L : List (VV × Value)) : List Value := L.flatMap verC
theorem rowC_snoc (L : List (VV × Value)) (x : VV × Value) : rowC (L ++ [x]) = rowC L ++ verC x := by simp [rowC]
theorem rowC_len (L : List (VV × Value)) : (rowC L).length = L.length * 3 := by
  induction L with
  | nil => rfl
  | cons x L ih => simp [rowC, verC] at *; omega
theorem rowC_get : ∀ (L : List (VV × Value)) (i : Nat) (h : i < L.length), (rowC L)[i * 3]? = some (.int .i64 L[i].1.f) ∧ (rowC L)[i * 3 + 1]? = some L[i].2 ∧ (rowC L)[i * 3 + 2]? = some (.bool L[i].1.ok)
  | [], i, h => by simp at h
  | p :: l, 0, _ => by simp [rowC, verC]
  | p :: l, i + 1, h => by
    have ih := rowC_get l i (by simp at h; omega)
    have e1 : (i + 1) * 3 = i * 3 + 1 + 1 + 1 := by omega
    rw [e1]
    simp only [rowC, verC, List.flatMap_cons, List.cons_append, List.nil_append, List.getElem?_cons_succ, List.getElem_cons_succ]
    simpa [rowC, verC] using ih

def offq (q : VV × Value) : VV × Value := (off q.1, q.2)
theorem rowC_off : ∀ (L : List (VV × Value)) (i : Nat), i < L.length → rowC (L.modify i offq) = (rowC L).set (i * 3 + 2) (.bool false)
  | [], i, h => by simp at h
  | p :: l, 0, _ => by simp [rowC, verC, offq, off]
  | p :: l, i + 1, h => by
    have ih := rowC_off l i (by simp at h; omega)
    have e1 : (i + 1) * 3 + 2 = i * 3 + 2 + 1 + 1 + 1 := by omega
    rw [e1]
    simp only [rowC, verC, List.modify_succ_cons, List.flatMap_cons, List.cons_append, List.nil_append, List.set_cons_succ] at *
    rw [ih]

theorem map_offq (L : List (VV × Value)) (i : Nat) : (L.modify i offq).map Prod.fst = (L.map Prod.fst).modify i off := by
  apply List.ext_getElem?
  intro j
  simp only [List.getElem?_map, List.getElem?_modify]
  cases L[j]? with
  | none => rfl
  | some x => by_cases h : i = j <;> simp [h, offq]

/-- In lists that name each global once 'any' is the first. -/
theorem any_first {G : Nat} {l : List (Int × Int)} (h : nmsP G l l.length) {k : Nat} (hk : k < l.length) (g v : Int) (hg : l[k].1 = g) : l.any (fun y => y.1 == g && y.2 != v) = (l[k].2 != v) := by
  cases hv : l[k].2 != v
  · rw [List.any_eq_false]
    intro y hy
    obtain ⟨i, hi, rfl⟩ := List.getElem_of_mem hy
    by_cases e : i = k
    · subst e; simp [hv]
    · have hne : l[i].1 ≠ g := by
        rcases Nat.lt_or_gt_of_ne e with h1 | h1
        · rw [← hg]; exact (h k hk hk).2 i h1
        · rw [← hg]; exact fun e => (h i hi hi).2 k h1 e.symm
      simp [hne]
  · rw [List.any_eq_true]
    exact ⟨l[k], List.getElem_mem hk, by simp [hg, hv]⟩
theorem any_none {l : List (Int × Int)} {g v : Int} (h : ∀ i (hi : i < l.length), l[i].1 ≠ g) : l.any (fun y => y.1 == g && y.2 != v) = false := by
  rw [List.any_eq_false]
  intro y hy
  obtain ⟨i, hi, rfl⟩ := List.getElem_of_mem hy
  simp [h i hi]

end Go.Proofs.Ytaeifhfhahcoiaa
