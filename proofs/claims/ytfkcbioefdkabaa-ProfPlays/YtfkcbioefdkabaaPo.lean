/- Order plays no part: what is told, in whatever order. -/
import Derived.Test.YtfkcbioefdkabaaPn
set_option linter.unusedVariables false
set_option linter.unusedSimpArgs false
namespace Go.Proofs.Ytfkcbioefdkabaa
open Go Go.RowKit

/-- Calls, turns and pairs. -/
def inR (x : AA) : Bool := decide (0 ≤ x.d ∧ x.d ≤ 2)
def keepP (x : AA) : Bool := inR x && okT 5 5 x
def isB (x : AA) : Bool := decide (x.d < 2)
/-- How many calls and turns. -/
def cntB (L : List AA) : Nat := L.countP isB

theorem okT_f {x : AA} (h : inR x = true) (h2 : okT 5 5 x = true) : 0 ≤ x.f ∧ x.f < 5 := by
  unfold inR at h
  unfold okT at h2
  simp at h
  split at h2
  · simp at h2; omega
  · rw [if_neg (by omega)] at h2
    simpa using h2

structure KP (x : AA) : Prop where
  d : 0 ≤ x.d ∧ x.d ≤ 2
  f : 0 ≤ x.f ∧ x.f < 5

theorem keepP_kp {x : AA} (h : keepP x = true) : KP x := by
  unfold keepP at h
  rw [Bool.and_eq_true] at h
  exact ⟨by simpa [inR] using h.1, okT_f h.1 h.2⟩

theorem nrm_in {x : AA} (h : inR x = true) : nrm x = x := by
  unfold inR at h
  simp at h
  unfold nrm
  rw [if_pos (by omega)]

theorem heat_comm (f : Int) {x y : AA} (hx : KP x) (hy : KP y) (n : Nat) : heat1 f (heat1 f n x) y = heat1 f (heat1 f n y) x := by
  have h1 : ¬ x.d = 4 := by have := hx.d; omega
  have h2 : ¬ y.d = 4 := by have := hy.d; omega
  unfold heat1
  rw [if_neg h1, if_neg h2]
  repeat' split
  all_goals rfl

theorem kind_comm (f t : Int) (x y : AA) (n : Nat) : kind1 f t (kind1 f t n x) y = kind1 f t (kind1 f t n y) x := by
  unfold kind1
  by_cases h1 : x.d = 2 ∧ x.f = f ∧ x.t = t
  · by_cases h2 : y.d = 2 ∧ y.f = f ∧ y.t = t
    · rw [if_pos h1, if_pos h2, if_pos h1, if_pos h2]
      generalize 1 <<< (x.a.toNat % 4) ||| 16 <<< (x.b.toNat % 4) = X
      generalize 1 <<< (y.a.toNat % 4) ||| 16 <<< (y.b.toNat % 4) = Y
      rw [Nat.or_assoc, Nat.or_assoc, Nat.or_comm X]
    · rw [if_pos h1, if_neg h2, if_pos h1, if_neg h2]
  · rw [if_neg h1]
    by_cases h2 : y.d = 2 ∧ y.f = f ∧ y.t = t
    · rw [if_pos h2, if_neg h1]
    · rw [if_neg h2, if_neg h1]

theorem heat_perm {L L' : List AA} (h : L.Perm L') (hk : ∀ x ∈ L, KP x) (f : Int) : heatOf L f = heatOf L' f :=
  List.Perm.foldl_eq' h (fun x hx y hy z => heat_comm f (hk x hx) (hk y hy) z) 0
theorem kind_perm {L L' : List AA} (h : L.Perm L') (f t : Int) : kindOf L f t = kindOf L' f t :=
  List.Perm.foldl_eq' h (fun x _ y _ z => kind_comm f t x y z) 0

theorem snoc_ind {α : Type} {P : List α → Prop} (h0 : P []) (hs : ∀ l x, P l → P (l ++ [x])) (l : List α) : P l := by
  have h : ∀ r : List α, P r.reverse := by
    intro r
    induction r with
    | nil => exact h0
    | cons x r ih => rw [List.reverse_cons]; exact hs _ _ ih
  have := h l.reverse
  rwa [List.reverse_reverse] at this

/-- All heats ahead of a place, together. -/
def heatsTo (L : List AA) : Nat → Nat
  | 0 => 0
  | n + 1 => heatsTo L n + heatOf L (n : Int)

theorem sum5 (L : List AA) (hk : ∀ x ∈ L, KP x) : heatsTo L 5 = cntB L := by
  revert hk
  refine snoc_ind (P := fun L => (∀ x ∈ L, KP x) → heatsTo L 5 = cntB L) (fun _ => rfl) (fun l x ih hk => ?_) L
  have ih := ih (fun y hy => hk y (by simp [hy]))
  have hx := hk x (by simp)
  have hd := hx.d
  have hf := hx.f
  have e : cntB (l ++ [x]) = cntB l + if x.d < 2 then 1 else 0 := by
    unfold cntB
    rw [List.countP_append]
    congr 1
    simp [isB]
  rw [e, ← ih]
  simp only [heatsTo, heat_snoc]
  generalize heatOf l ((0 : Nat) : Int) = n0
  generalize heatOf l ((1 : Nat) : Int) = n1
  generalize heatOf l ((2 : Nat) : Int) = n2
  generalize heatOf l ((3 : Nat) : Int) = n3
  generalize heatOf l ((4 : Nat) : Int) = n4
  have h4 : ¬ x.d = 4 := by omega
  by_cases hb : x.d < 2
  · have hb2 : x.d = 0 ∨ x.d = 1 := by omega
    have hcase : x.f = 0 ∨ x.f = 1 ∨ x.f = 2 ∨ x.f = 3 ∨ x.f = 4 := by omega
    rw [if_pos hb]
    rcases hcase with h | h | h | h | h <;> simp [heat1, h, hb2] <;> omega
  · have hb2 : ¬ (x.d = 0 ∨ x.d = 1) := by omega
    rw [if_neg hb]
    simp [heat1, hb2, h4]

/-- What was told ahead of a place. -/
def toldK (l : List AA) (k : Nat) : List AA := (l.take k).filter keepP

theorem toldK_succ (l : List AA) {k : Nat} (h : k < l.length) : toldK l (k + 1) = if keepP l[k] then toldK l k ++ [l[k]] else toldK l k := by
  unfold toldK
  rw [List.take_add_one, List.getElem?_eq_getElem h, List.filter_append]
  simp only [Option.toList_some, List.filter_cons, List.filter_nil]
  split <;> simp
theorem toldK_len (l : List AA) (k : Nat) : (toldK l k).length ≤ k := Nat.le_trans (List.length_filter_le _ _) (by simp; omega)
theorem toldK_kp (l : List AA) (k : Nat) : ∀ x ∈ toldK l k, KP x := fun x hx => keepP_kp (List.mem_filter.1 hx).2
theorem toldK_all (l : List AA) : (toldK l l.length).Perm (toldK l.reverse l.length) := by
  unfold toldK
  rw [List.take_length, List.take_of_length_le (l := l.reverse) (by simp), List.filter_reverse]
  exact (List.reverse_perm _).symm

theorem cntB_succ (l : List AA) {k : Nat} (h : k < l.length) : cntB (toldK l (k + 1)) = cntB (toldK l k) + if keepP l[k] && isB l[k] then 1 else 0 := by
  rw [toldK_succ l h]
  cases hp : keepP l[k]
  · simp
  · cases hb : isB l[k] <;> simp [cntB, hb]

end Go.Proofs.Ytfkcbioefdkabaa
