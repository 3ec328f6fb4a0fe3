/- Worlds that have new blocks and draws behind them, no more. Nothing of the program is in it. -/
import Derived.WalkKit
import Derived.WalkLawsBesides
import Derived.Below
import Derived.Deep.Draws
set_option linter.unusedSimpArgs false
set_option linter.unusedVariables false
namespace Go.Proofs.Yteeeijbjokkomaa
open Go Go.RowKit

section
variable (w : World) (a : Addr)
@[go_sem] theorem alloc_drewN (n : Nat) (o : Obj) : (w.drewN n).alloc o = (w.alloc o).drewN n := rfl
@[go_sem] theorem setCell_drewN (n : Nat) (v : Value) : (w.drewN n).setCell a v = (w.setCell a v).drewN n := rfl
@[go_sem] theorem shape_drewN (n r : Nat) : (w.drewN n).shape? r = w.shape? r := rfl
end

/-- What was there is as it was. -/
def Bw (w w' : World) : Prop := Below w.heap.size w w'

theorem Bw.refl (w : World) : Bw w w := Below.refl _ _
theorem Bw.trans {a b c : World} (h : Bw a b) (k : Bw b c) : Bw a c := Below.trans h (Below.mono k h.size)
theorem bw_drewN (w : World) (n : Nat) : Bw w (w.drewN n) := ⟨rfl, rfl, rfl, Nat.le_refl _, fun _ _ => rfl⟩
theorem Bw.alloc {a w : World} (h : Bw a w) (o : Obj) : Bw a (w.alloc o) := Below.alloc h h.size o
theorem Bw.drewN {a w : World} (h : Bw a w) (n : Nat) : Bw a (w.drewN n) := h.trans (bw_drewN w n)
theorem Bw.drew {a w : World} (h : Bw a w) : Bw a w.drew := h.trans (Below.drew (Below.refl _ _))
theorem Bw.setCell {a w : World} (h : Bw a w) {p : Addr} (hp : a.heap.size ≤ p.block) (u : Value) : Bw a (w.setCell p u) := Below.setCell h hp u
/-- A world but for draws. -/
def Dn (w w' : World) : Prop := ∃ m, w' = w.drewN m
theorem Dn.bw {w w' : World} (h : Dn w w') : Bw w w' := by obtain ⟨m, rfl⟩ := h; exact bw_drewN w m
theorem Dn.refl (w : World) : Dn w w := ⟨0, rfl⟩
theorem Dn.trans {a b c : World} (h : Dn a b) (k : Dn b c) : Dn a c := by
  obtain ⟨m, rfl⟩ := h
  obtain ⟨n, rfl⟩ := k
  exact ⟨m + n, by simp⟩

/-! ## new blocks and draws -/

/-- The world with new blocks behind it, and draws. -/
def lay (w : World) (os : List Obj) (n : Nat) : World := (os.foldl World.alloc w).drewN n

theorem foldl_heap (os : List Obj) : ∀ (w : World), (os.foldl World.alloc w).heap.size = w.heap.size + os.length ∧ ∀ k, k < w.heap.size → (os.foldl World.alloc w).heap[k]? = w.heap[k]? := by
  induction os with
  | nil => intro w; exact ⟨rfl, fun _ _ => rfl⟩
  | cons o r ih =>
    intro w
    obtain ⟨h1, h2⟩ := ih (w.alloc o)
    have hs : (w.alloc o).heap.size = w.heap.size + 1 := by simp
    refine ⟨by simp only [List.foldl_cons, List.length_cons]; omega, fun k hk => ?_⟩
    rw [List.foldl_cons, h2 k (by omega)]
    exact Below.heap_alloc w o k hk

theorem foldl_rest (os : List Obj) : ∀ (w : World), (os.foldl World.alloc w).os = w.os ∧ (os.foldl World.alloc w).tape = w.tape ∧ (os.foldl World.alloc w).output = w.output := by
  induction os with
  | nil => intro w; exact ⟨rfl, rfl, rfl⟩
  | cons o r ih => intro w; exact ih (w.alloc o)

@[simp, go_sem] theorem lay_size (w : World) (os : List Obj) (n : Nat) : (lay w os n).heap.size = w.heap.size + os.length := (foldl_heap os w).1
@[simp, go_sem] theorem lay_cell (w : World) (os : List Obj) (n b i : Nat) (h : b < w.heap.size) : (lay w os n).cell? ⟨b, i, none⟩ = w.cell? ⟨b, i, none⟩ :=
  World.cell?_of_block (w := w) (w' := lay w os n) (a := ⟨b, i, none⟩) ((foldl_heap os w).2 b h)
@[simp, go_sem] theorem lay_frozen (w : World) (os : List Obj) (n b i : Nat) (h : b < w.heap.size) : (lay w os n).frozen? ⟨b, i, none⟩ = w.frozen? ⟨b, i, none⟩ :=
  World.frozen?_of_block (w := w) (w' := lay w os n) (a := ⟨b, i, none⟩) ((foldl_heap os w).2 b h)
@[simp, go_sem] theorem lay_drewN (w : World) (os : List Obj) (n m : Nat) : (lay w os n).drewN m = lay w os (n + m) := by simp [lay]
@[simp, go_sem] theorem lay_drew (w : World) (os : List Obj) (n : Nat) : (lay w os n).drew = lay w os (n + 1) := rfl
@[simp, go_sem] theorem lay_lay (w : World) (os os' : List Obj) (n m : Nat) : lay (lay w os n) os' m = lay w (os ++ os') (n + m) := by
  unfold lay
  have : ∀ (os' : List Obj) (v : World), os'.foldl World.alloc (v.drewN n) = (os'.foldl World.alloc v).drewN n := by
    intro os'
    induction os' with
    | nil => intro v; rfl
    | cons o r ih => intro v; exact ih (v.alloc o)
  rw [this]; simp [List.foldl_append]
@[simp, go_sem] theorem lay_of_drewN (w : World) (os : List Obj) (n m : Nat) : lay (w.drewN m) os n = lay w os (m + n) := by
  have h := lay_lay w [] os m n
  simpa [lay] using h
@[go_sem] theorem lay_setCell (w : World) (os : List Obj) (n b i : Nat) (v : Value) (h : b < w.heap.size) : (lay w os n).setCell ⟨b, i, none⟩ v = lay (w.setCell ⟨b, i, none⟩ v) os n := by
  unfold lay
  rw [setCell_drewN]
  congr 1
  revert w
  induction os with
  | nil => intro w h; rfl
  | cons o r ih =>
    intro w h
    rw [List.foldl_cons, ih (w.alloc o) (by simp; omega), List.foldl_cons, World.setCell_alloc_past (w := w) o b i v h]
@[simp, go_sem] theorem lt_n1 (a b k0 : Nat) (h : a < b) : (a < b + k0) = True := eq_true (by omega)
@[simp, go_sem] theorem le_n1 (a b k0 : Nat) (h : a ≤ b) : (a ≤ b + k0) = True := eq_true (by omega)
@[simp, go_sem] theorem lt_n2 (a b k0 k1 : Nat) (h : a < b) : (a < b + k0 + k1) = True := eq_true (by omega)
@[simp, go_sem] theorem le_n2 (a b k0 k1 : Nat) (h : a ≤ b) : (a ≤ b + k0 + k1) = True := eq_true (by omega)
@[simp, go_sem] theorem lt_n3 (a b k0 k1 k2 : Nat) (h : a < b) : (a < b + k0 + k1 + k2) = True := eq_true (by omega)
@[simp, go_sem] theorem le_n3 (a b k0 k1 k2 : Nat) (h : a ≤ b) : (a ≤ b + k0 + k1 + k2) = True := eq_true (by omega)
@[simp, go_sem] theorem lt_n4 (a b k0 k1 k2 k3 : Nat) (h : a < b) : (a < b + k0 + k1 + k2 + k3) = True := eq_true (by omega)
@[simp, go_sem] theorem le_n4 (a b k0 k1 k2 k3 : Nat) (h : a ≤ b) : (a ≤ b + k0 + k1 + k2 + k3) = True := eq_true (by omega)
@[simp, go_sem] theorem lt_n5 (a b k0 k1 k2 k3 k4 : Nat) (h : a < b) : (a < b + k0 + k1 + k2 + k3 + k4) = True := eq_true (by omega)
@[simp, go_sem] theorem le_n5 (a b k0 k1 k2 k3 k4 : Nat) (h : a ≤ b) : (a ≤ b + k0 + k1 + k2 + k3 + k4) = True := eq_true (by omega)
@[simp, go_sem] theorem lt_n6 (a b k0 k1 k2 k3 k4 k5 : Nat) (h : a < b) : (a < b + k0 + k1 + k2 + k3 + k4 + k5) = True := eq_true (by omega)
@[simp, go_sem] theorem le_n6 (a b k0 k1 k2 k3 k4 k5 : Nat) (h : a ≤ b) : (a ≤ b + k0 + k1 + k2 + k3 + k4 + k5) = True := eq_true (by omega)
@[simp, go_sem] theorem lt_n7 (a b k0 k1 k2 k3 k4 k5 k6 : Nat) (h : a < b) : (a < b + k0 + k1 + k2 + k3 + k4 + k5 + k6) = True := eq_true (by omega)
@[simp, go_sem] theorem le_n7 (a b k0 k1 k2 k3 k4 k5 k6 : Nat) (h : a ≤ b) : (a ≤ b + k0 + k1 + k2 + k3 + k4 + k5 + k6) = True := eq_true (by omega)
@[simp, go_sem] theorem lt_n8 (a b k0 k1 k2 k3 k4 k5 k6 k7 : Nat) (h : a < b) : (a < b + k0 + k1 + k2 + k3 + k4 + k5 + k6 + k7) = True := eq_true (by omega)
@[simp, go_sem] theorem le_n8 (a b k0 k1 k2 k3 k4 k5 k6 k7 : Nat) (h : a ≤ b) : (a ≤ b + k0 + k1 + k2 + k3 + k4 + k5 + k6 + k7) = True := eq_true (by omega)
@[simp, go_sem] theorem lt_two (a : Nat) : (a < a + 1 + 1) = True := eq_true (by omega)
@[simp, go_sem] theorem lt_three (a : Nat) : (a < a + 1 + 1 + 1) = True := eq_true (by omega)
@[simp, go_sem] theorem lt_four (a : Nat) : (a < a + 1 + 1 + 1 + 1) = True := eq_true (by omega)
@[simp, go_sem] theorem lay_of_drew (w : World) (os : List Obj) (n : Nat) : lay w.drew os n = lay w os (1 + n) := lay_of_drewN w os n 1

theorem bw_lay (w : World) (os : List Obj) (n : Nat) : Bw w (lay w os n) :=
  ⟨(foldl_rest os w).1, (foldl_rest os w).2.1, (foldl_rest os w).2.2, by rw [lay_size]; omega, (foldl_heap os w).2⟩
theorem Bw.lay {a w : World} (h : Bw a w) (os : List Obj) (n : Nat) : Bw a (lay w os n) := h.trans (bw_lay w os n)

/-- New blocks and draws, no more. -/
def Ly (w w' : World) : Prop := ∃ os n, w' = Proofs.Yteeeijbjokkomaa.lay w os n
theorem Ly.refl (w : World) : Ly w w := ⟨[], 0, rfl⟩
theorem Ly.alloc {a w : World} (h : Ly a w) (o : Obj) : Ly a (w.alloc o) := by
  obtain ⟨os, n, rfl⟩ := h
  exact ⟨os ++ [o], n, by simp [Proofs.Yteeeijbjokkomaa.lay, alloc_drewN]⟩
theorem Ly.drewN {a w : World} (h : Ly a w) (n : Nat) : Ly a (w.drewN n) := by
  obtain ⟨os, m, rfl⟩ := h
  exact ⟨os, m + n, by simp⟩
theorem Ly.drew {a w : World} (h : Ly a w) : Ly a w.drew := h.drewN 1
theorem Ly.trans {a b c : World} (h : Ly a b) (k : Ly b c) : Ly a c := by
  obtain ⟨os, m, rfl⟩ := h
  obtain ⟨os', m', rfl⟩ := k
  exact ⟨_, _, lay_lay ..⟩
theorem Ly.lay {a w : World} (h : Ly a w) (os : List Obj) (n : Nat) : Ly a (Proofs.Yteeeijbjokkomaa.lay w os n) := h.trans ⟨os, n, rfl⟩
theorem Ly.bw {a w : World} (h : Ly a w) : Bw a w := by
  obtain ⟨os, n, rfl⟩ := h
  exact bw_lay a os n
theorem Dn.ly {a w : World} (h : Dn a w) : Ly a w := by
  obtain ⟨n, rfl⟩ := h
  exact ⟨[], n, rfl⟩

end Go.Proofs.Yteeeijbjokkomaa
