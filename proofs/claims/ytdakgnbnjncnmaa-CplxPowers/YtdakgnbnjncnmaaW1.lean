/- The program's leaves: the one word of all that is no number, numbers of their parts' bits, the bits of the parts: their contracts, of any floats; the world is as it was but for draws. -/
import Derived.Test.YtdakgnbnjncnmaaRows
import Derived.Test.YtdakgnbnjncnmaaFi
import Derived.WalkKit
import Derived.WalkLawsBesides
import Derived.Below
import Derived.Deep.QuietTactic
import Derived.BigQuiet
import Derived.KernelRfl
set_option linter.unusedSimpArgs false
set_option linter.unusedVariables false
namespace Go.Proofs.Ytdakgnbnjncnmaa
open Go Go.RowKit

theorem call_bits (b : Nat) (w : World) : (callFunc 36 #[.float .f64 b]).run Try.prog w = .ok (.value (.int .u64 (b : Int))) w := by
  rw [run_callFunc_extern Try.func36 (by kernel_rfl) (by kernel_rfl) (by kernel_rfl) (e := Extern.MathFloatBits.float64bits) (by kernel_rfl)]
  rfl
theorem call_frombits (n : Int) (w : World) : (callFunc 43 #[.int .u64 n]).run Try.prog w = .ok (.value (.float .f64 n.toNat)) w := by
  rw [run_callFunc_extern Try.func43 (by kernel_rfl) (by kernel_rfl) (by kernel_rfl) (e := Extern.MathFloatBits.float64frombits) (by kernel_rfl)]
  rfl

theorem order_self (x : Nat) : (F.order x x != some .eq) = isn x := by
  unfold isn Ieee.Format.order
  cases F.read x <;> simp [Ieee.Datum.order, Ieee.Datum.isNaN]

theorem isNaN_any (x : Nat) (w : World) : Calls Try.prog 42 #[.float .f64 x] w fun e w' => e = .returned (.bool (isn x)) ∧ w' = w := by
  have h := order_self x
  go_enter Try.func42, Try.ntmps42
  go_wp2
  go_ret
  exact ⟨rfl, rfl⟩

theorem settled_any (x : Nat) (w : World) : Calls Try.prog 37 #[.float .f64 x] w fun e w' => e = .returned (.float .f64 (cn x)) ∧ w' = w := by
  have hb := call_frombits
  by_cases h : isn x = true
  · have hc : cn x = nn := by simp [cn, h]
    rw [hc]
    go_enter Try.func37, Try.ntmps37
    go_wp2_with (go_at_call 42; refine (isNaN_any _ _).mono ?_; rintro e w' ⟨rfl, rfl⟩)
    all_goals go_ret
    all_goals exact ⟨rfl, rfl⟩
  · have h : isn x = false := by simpa using h
    have hc : cn x = x := cn_of x h
    rw [hc]
    go_enter Try.func37, Try.ntmps37
    go_wp2_with (go_at_call 42; refine (isNaN_any _ _).mono ?_; rintro e w' ⟨rfl, rfl⟩)
    all_goals go_ret
    all_goals exact ⟨rfl, rfl⟩


theorem join_any (x y : Nat) (w : World) : Calls Try.prog 40 #[.float .f64 x, .float .f64 y] w fun e w' => e = .returned (.complex .f64 (cn x) (cn y)) ∧ w' = w := by
  go_enter Try.func40, Try.ntmps40
  go_wp2_with (go_at_call 37; refine (settled_any _ _).mono ?_; rintro e w' ⟨rfl, rfl⟩)
  go_ret
  exact ⟨rfl, rfl⟩

theorem bits_any (x y : Nat) (w : World) : Calls Try.prog 10 #[.complex .f64 x y] w fun e w' => e = .returned (.tuple #[.int .u64 (cn x : Nat), .int .u64 (cn y : Nat)]) ∧ w' = w := by
  have hb := call_bits
  go_enter Try.func10, Try.ntmps10
  go_wp2_with (go_at_call 37; refine (settled_any _ _).mono ?_; rintro e w' ⟨rfl, rfl⟩)
  go_ret2
  exact ⟨rfl, rfl⟩

theorem made_any (x y : Int) (w : World) : Calls Try.prog 38 #[.int .u64 x, .int .u64 y] w fun e w' => e = .returned (.complex .f64 (cn x.toNat) (cn y.toNat)) ∧ w' = w := by
  have hb := call_frombits
  go_enter Try.func38, Try.ntmps38
  go_wp2_with (go_at_call 40; refine (join_any _ _ _).mono ?_; rintro e w' ⟨rfl, rfl⟩)
  go_ret
  exact ⟨rfl, rfl⟩

theorem make_any (x y : Int) (w : World) : Calls Try.prog 9 #[.int .i64 x, .int .i64 y] w fun e w' => e = .returned (.complex .f64 (floatOfInt .f64 x) (floatOfInt .f64 y)) ∧ w' = w := by
  go_enter Try.func9, Try.ntmps9
  go_wp2
  go_ret
  exact ⟨rfl, rfl⟩

/-- Are the words of both, told, the same? -/
def sm (a b c d : Nat) : Bool := decide (cn a = cn c) && decide (cn b = cn d)

theorem beq_cast (x y : Nat) : ((x : Int) == (y : Int)) = decide (x = y) := by
  rw [Bool.eq_iff_iff]; simp; omega

theorem same_any (a b c d : Nat) (w : World) : Calls Try.prog 15 #[.complex .f64 a b, .complex .f64 c d] w fun e w' => e = .returned (.bool (sm a b c d)) ∧ w' = w := by
  go_enter Try.func15, Try.ntmps15
  go_wp2_with (go_at_call 10; refine (bits_any _ _ _).mono ?_; rintro e w' ⟨rfl, rfl⟩)
  · rename_i h
    go_ret
    refine ⟨?_, rfl⟩
    show Ending.returned (.bool (((cn b : Nat) : Int) == ((cn d : Nat) : Int))) = _
    rw [beq_cast, sm, decide_eq_true (show cn a = cn c by omega)]; rfl
  · rename_i h
    go_ret
    refine ⟨?_, rfl⟩
    show Ending.returned (.bool false) = _
    rw [sm, decide_eq_false (show ¬ cn a = cn c by omega)]; rfl

theorem product_any (a b : Nat) (w : World) : Calls Try.prog 41 #[.float .f64 a, .float .f64 b] w fun e w' => e = .returned (.float .f64 (fv .mul a b w)) ∧ w' = w.drewN (fd .mul a b) := by
  go_enter Try.func41, Try.ntmps41
  go_wp2
  go_ret
  exact ⟨rfl, rfl⟩

/-- What was there is as it was. -/
def Bw (w w' : World) : Prop := Below w.heap.size w w'

theorem Bw.refl (w : World) : Bw w w := Below.refl _ _
theorem Bw.trans {a b c : World} (h : Bw a b) (k : Bw b c) : Bw a c := Below.trans h (Below.mono k h.size)
theorem bw_drewN (w : World) (n : Nat) : Bw w (w.drewN n) := ⟨rfl, rfl, rfl, Nat.le_refl _, fun _ _ => rfl⟩
theorem Bw.alloc {a w : World} (h : Bw a w) (o : Obj) : Bw a (w.alloc o) := Below.alloc h h.size o
theorem Bw.drewN {a w : World} (h : Bw a w) (n : Nat) : Bw a (w.drewN n) := h.trans (bw_drewN w n)
theorem Bw.drew {a w : World} (h : Bw a w) : Bw a w.drew := h.trans (Below.drew (Below.refl _ _))
theorem Bw.setCell {a w : World} (h : Bw a w) {p : Addr} (hp : a.heap.size ≤ p.block) (u : Value) : Bw a (w.setCell p u) := Below.setCell h hp u
/-- A world but for draws. -/
def Dn (w w' : World) : Prop := ∃ m, w' = w.drewN m
theorem Dn.bw {w w' : World} (h : Dn w w') : Bw w w' := by obtain ⟨m, rfl⟩ := h; exact bw_drewN w m
theorem Dn.refl (w : World) : Dn w w := ⟨0, rfl⟩
theorem Dn.trans {a b c : World} (h : Dn a b) (k : Dn b c) : Dn a c := by
  obtain ⟨m, rfl⟩ := h
  obtain ⟨n, rfl⟩ := k
  exact ⟨m + n, by simp⟩

theorem fo_fv (op o1 o2 : BinOp) (a b c d : Nat) (w w' : World) : fo op (fv o1 a b w) (fv o2 c d w') = fo op (fo o1 a b) (fo o2 c d) :=
  fo_congr op ((cn_fv ..).trans (cn_fo ..).symm) ((cn_fv ..).trans (cn_fo ..).symm)
theorem fo_fv_l (op o1 : BinOp) (a b c : Nat) (w : World) : fo op (fv o1 a b w) c = fo op (fo o1 a b) c :=
  fo_congr op ((cn_fv ..).trans (cn_fo ..).symm) rfl

theorem fo_fv_r (op o2 : BinOp) (a c d : Nat) (w : World) : fo op a (fv o2 c d w) = fo op a (fo o2 c d) :=
  fo_congr op rfl ((cn_fv ..).trans (cn_fo ..).symm)

theorem add_any (a b c d : Nat) (w : World) : Calls Try.prog 18 #[.complex .f64 a b, .complex .f64 c d] w fun e w' => e = .returned (.complex .f64 (fo .add a c) (fo .add b d)) ∧ Dn w w' := by
  go_enter Try.func18, Try.ntmps18
  go_wp2_with (go_at_call 40; refine (join_any _ _ _).mono ?_; rintro e w' ⟨rfl, rfl⟩)
  go_ret
  exact ⟨by simp [cn_fv], _, rfl⟩

theorem sub_any (a b c d : Nat) (w : World) : Calls Try.prog 20 #[.complex .f64 a b, .complex .f64 c d] w fun e w' => e = .returned (.complex .f64 (fo .sub a c) (fo .sub b d)) ∧ Dn w w' := by
  go_enter Try.func20, Try.ntmps20
  go_wp2_with (go_at_call 40; refine (join_any _ _ _).mono ?_; rintro e w' ⟨rfl, rfl⟩)
  go_ret
  exact ⟨by simp [cn_fv], _, rfl⟩

/-- A product's parts. -/
def mre (a b c d : Nat) : Nat := fo .sub (fo .mul a c) (fo .mul b d)
def mim (a b c d : Nat) : Nat := fo .add (fo .mul a d) (fo .mul b c)

theorem mul_any (a b c d : Nat) (w : World) : Calls Try.prog 22 #[.complex .f64 a b, .complex .f64 c d] w fun e w' => e = .returned (.complex .f64 (mre a b c d) (mim a b c d)) ∧ Dn w w' := by
  go_enter Try.func22, Try.ntmps22
  go_wp2_with (first | (go_at_call 41; refine (product_any _ _ _).mono ?_; rintro e w' ⟨rfl, rfl⟩) | (go_at_call 40; refine (join_any _ _ _).mono ?_; rintro e w' ⟨rfl, rfl⟩))
  go_ret
  exact ⟨by simp [cn_fv, fo_fv, mre, mim], _, rfl⟩

theorem conj_any (a b : Nat) (w : World) : Calls Try.prog 24 #[.complex .f64 a b] w fun e w' => e = .returned (.complex .f64 (cn a) (cn (fneg b))) ∧ w' = w := by
  go_enter Try.func24, Try.ntmps24
  go_wp2_with (first | (go_at_call 40; refine (join_any _ _ _).mono ?_; rintro e w' ⟨rfl, rfl⟩))
  go_ret
  exact ⟨rfl, rfl⟩

/-- The square of a length. -/
def nrm (a b : Nat) : Nat := fo .add (fo .mul a a) (fo .mul b b)

theorem norm_any (a b : Nat) (w : World) : Calls Try.prog 25 #[.complex .f64 a b] w fun e w' => e = .returned (.float .f64 (nrm a b)) ∧ Dn w w' := by
  go_enter Try.func25, Try.ntmps25
  go_wp2_with (first | (go_at_call 41; refine (product_any _ _ _).mono ?_; rintro e w' ⟨rfl, rfl⟩) | (go_at_call 37; refine (settled_any _ _).mono ?_; rintro e w' ⟨rfl, rfl⟩))
  go_ret
  exact ⟨by simp [cn_fv, fo_fv, nrm], _, rfl⟩

/-- A quotient's parts. -/
def dre (a b c d : Nat) : Nat := fo .quo (fo .add (fo .mul a c) (fo .mul b d)) (nrm c d)
def dim (a b c d : Nat) : Nat := fo .quo (fo .sub (fo .mul b c) (fo .mul a d)) (nrm c d)

/-! ## new blocks and draws -/

/-- The world with new blocks behind it, and draws. -/
def lay (w : World) (os : List Obj) (n : Nat) : World := (os.foldl World.alloc w).drewN n

theorem foldl_heap (os : List Obj) : ∀ (w : World), (os.foldl World.alloc w).heap.size = w.heap.size + os.length ∧ ∀ k, k < w.heap.size → (os.foldl World.alloc w).heap[k]? = w.heap[k]? := by
  induction os with
  | nil => intro w; exact ⟨rfl, fun _ _ => rfl⟩
  | cons o r ih =>
    intro w
    obtain ⟨h1, h2⟩ := ih (w.alloc o)
    have hs : (w.alloc o).heap.size = w.heap.size + 1 := by simp
    refine ⟨by simp only [List.foldl_cons, List.length_cons]; omega, fun k hk => ?_⟩
    rw [List.foldl_cons, h2 k (by omega)]
    exact Below.heap_alloc w o k hk

theorem foldl_rest (os : List Obj) : ∀ (w : World), (os.foldl World.alloc w).os = w.os ∧ (os.foldl World.alloc w).tape = w.tape ∧ (os.foldl World.alloc w).output = w.output := by
  induction os with
  | nil => intro w; exact ⟨rfl, rfl, rfl⟩
  | cons o r ih => intro w; exact ih (w.alloc o)

@[simp, go_sem] theorem lay_size (w : World) (os : List Obj) (n : Nat) : (lay w os n).heap.size = w.heap.size + os.length := (foldl_heap os w).1
@[simp, go_sem] theorem lay_cell (w : World) (os : List Obj) (n b i : Nat) (h : b < w.heap.size) : (lay w os n).cell? ⟨b, i, none⟩ = w.cell? ⟨b, i, none⟩ :=
  World.cell?_of_block (w := w) (w' := lay w os n) (a := ⟨b, i, none⟩) ((foldl_heap os w).2 b h)
@[simp, go_sem] theorem lay_frozen (w : World) (os : List Obj) (n b i : Nat) (h : b < w.heap.size) : (lay w os n).frozen? ⟨b, i, none⟩ = w.frozen? ⟨b, i, none⟩ :=
  World.frozen?_of_block (w := w) (w' := lay w os n) (a := ⟨b, i, none⟩) ((foldl_heap os w).2 b h)
@[simp, go_sem] theorem lay_drewN (w : World) (os : List Obj) (n m : Nat) : (lay w os n).drewN m = lay w os (n + m) := by simp [lay]
@[simp, go_sem] theorem lay_drew (w : World) (os : List Obj) (n : Nat) : (lay w os n).drew = lay w os (n + 1) := rfl
@[simp, go_sem] theorem lay_lay (w : World) (os os' : List Obj) (n m : Nat) : lay (lay w os n) os' m = lay w (os ++ os') (n + m) := by
  unfold lay
  have : ∀ (os' : List Obj) (v : World), os'.foldl World.alloc (v.drewN n) = (os'.foldl World.alloc v).drewN n := by
    intro os'
    induction os' with
    | nil => intro v; rfl
    | cons o r ih => intro v; exact ih (v.alloc o)
  rw [this]; simp [List.foldl_append]
@[simp, go_sem] theorem lay_of_drewN (w : World) (os : List Obj) (n m : Nat) : lay (w.drewN m) os n = lay w os (m + n) := by
  have h := lay_lay w [] os m n
  simpa [lay] using h
@[go_sem] theorem lay_setCell (w : World) (os : List Obj) (n b i : Nat) (v : Value) (h : b < w.heap.size) : (lay w os n).setCell ⟨b, i, none⟩ v = lay (w.setCell ⟨b, i, none⟩ v) os n := by
  unfold lay
  rw [setCell_drewN]
  congr 1
  revert w
  induction os with
  | nil => intro w h; rfl
  | cons o r ih =>
    intro w h
    rw [List.foldl_cons, ih (w.alloc o) (by simp; omega), List.foldl_cons, World.setCell_alloc_past (w := w) o b i v h]
@[simp, go_sem] theorem lt_n1 (a b k0 : Nat) (h : a < b) : (a < b + k0) = True := eq_true (by omega)
@[simp, go_sem] theorem le_n1 (a b k0 : Nat) (h : a ≤ b) : (a ≤ b + k0) = True := eq_true (by omega)
@[simp, go_sem] theorem lt_n2 (a b k0 k1 : Nat) (h : a < b) : (a < b + k0 + k1) = True := eq_true (by omega)
@[simp, go_sem] theorem le_n2 (a b k0 k1 : Nat) (h : a ≤ b) : (a ≤ b + k0 + k1) = True := eq_true (by omega)
@[simp, go_sem] theorem lt_n3 (a b k0 k1 k2 : Nat) (h : a < b) : (a < b + k0 + k1 + k2) = True := eq_true (by omega)
@[simp, go_sem] theorem le_n3 (a b k0 k1 k2 : Nat) (h : a ≤ b) : (a ≤ b + k0 + k1 + k2) = True := eq_true (by omega)
@[simp, go_sem] theorem lt_n4 (a b k0 k1 k2 k3 : Nat) (h : a < b) : (a < b + k0 + k1 + k2 + k3) = True := eq_true (by omega)
@[simp, go_sem] theorem le_n4 (a b k0 k1 k2 k3 : Nat) (h : a ≤ b) : (a ≤ b + k0 + k1 + k2 + k3) = True := eq_true (by omega)
@[simp, go_sem] theorem lt_n5 (a b k0 k1 k2 k3 k4 : Nat) (h : a < b) : (a < b + k0 + k1 + k2 + k3 + k4) = True := eq_true (by omega)
@[simp, go_sem] theorem le_n5 (a b k0 k1 k2 k3 k4 : Nat) (h : a ≤ b) : (a ≤ b + k0 + k1 + k2 + k3 + k4) = True := eq_true (by omega)
@[simp, go_sem] theorem lt_n6 (a b k0 k1 k2 k3 k4 k5 : Nat) (h : a < b) : (a < b + k0 + k1 + k2 + k3 + k4 + k5) = True := eq_true (by omega)
@[simp, go_sem] theorem le_n6 (a b k0 k1 k2 k3 k4 k5 : Nat) (h : a ≤ b) : (a ≤ b + k0 + k1 + k2 + k3 + k4 + k5) = True := eq_true (by omega)
@[simp, go_sem] theorem lt_n7 (a b k0 k1 k2 k3 k4 k5 k6 : Nat) (h : a < b) : (a < b + k0 + k1 + k2 + k3 + k4 + k5 + k6) = True := eq_true (by omega)
@[simp, go_sem] theorem le_n7 (a b k0 k1 k2 k3 k4 k5 k6 : Nat) (h : a ≤ b) : (a ≤ b + k0 + k1 + k2 + k3 + k4 + k5 + k6) = True := eq_true (by omega)
@[simp, go_sem] theorem lt_n8 (a b k0 k1 k2 k3 k4 k5 k6 k7 : Nat) (h : a < b) : (a < b + k0 + k1 + k2 + k3 + k4 + k5 + k6 + k7) = True := eq_true (by omega)
@[simp, go_sem] theorem le_n8 (a b k0 k1 k2 k3 k4 k5 k6 k7 : Nat) (h : a ≤ b) : (a ≤ b + k0 + k1 + k2 + k3 + k4 + k5 + k6 + k7) = True := eq_true (by omega)
@[simp, go_sem] theorem lt_two (a : Nat) : (a < a + 1 + 1) = True := eq_true (by omega)
@[simp, go_sem] theorem lt_three (a : Nat) : (a < a + 1 + 1 + 1) = True := eq_true (by omega)
@[simp, go_sem] theorem lt_four (a : Nat) : (a < a + 1 + 1 + 1 + 1) = True := eq_true (by omega)
@[simp, go_sem] theorem lay_of_drew (w : World) (os : List Obj) (n : Nat) : lay w.drew os n = lay w os (1 + n) := lay_of_drewN w os n 1

theorem bw_lay (w : World) (os : List Obj) (n : Nat) : Bw w (lay w os n) :=
  ⟨(foldl_rest os w).1, (foldl_rest os w).2.1, (foldl_rest os w).2.2, by rw [lay_size]; omega, (foldl_heap os w).2⟩
theorem Bw.lay {a w : World} (h : Bw a w) (os : List Obj) (n : Nat) : Bw a (lay w os n) := h.trans (bw_lay w os n)

/-- New blocks and draws, no more. -/
def Ly (w w' : World) : Prop := ∃ os n, w' = Proofs.Ytdakgnbnjncnmaa.lay w os n
theorem Ly.refl (w : World) : Ly w w := ⟨[], 0, rfl⟩
theorem Ly.alloc {a w : World} (h : Ly a w) (o : Obj) : Ly a (w.alloc o) := by
  obtain ⟨os, n, rfl⟩ := h
  exact ⟨os ++ [o], n, by simp [Proofs.Ytdakgnbnjncnmaa.lay, alloc_drewN]⟩
theorem Ly.drewN {a w : World} (h : Ly a w) (n : Nat) : Ly a (w.drewN n) := by
  obtain ⟨os, m, rfl⟩ := h
  exact ⟨os, m + n, by simp⟩
theorem Ly.drew {a w : World} (h : Ly a w) : Ly a w.drew := h.drewN 1
theorem Ly.trans {a b c : World} (h : Ly a b) (k : Ly b c) : Ly a c := by
  obtain ⟨os, m, rfl⟩ := h
  obtain ⟨os', m', rfl⟩ := k
  exact ⟨_, _, lay_lay ..⟩
theorem Ly.lay {a w : World} (h : Ly a w) (os : List Obj) (n : Nat) : Ly a (Proofs.Ytdakgnbnjncnmaa.lay w os n) := h.trans ⟨os, n, rfl⟩
theorem Ly.bw {a w : World} (h : Ly a w) : Bw a w := by
  obtain ⟨os, n, rfl⟩ := h
  exact bw_lay a os n
theorem Dn.ly {a w : World} (h : Dn a w) : Ly a w := by
  obtain ⟨n, rfl⟩ := h
  exact ⟨[], n, rfl⟩

end Go.Proofs.Ytdakgnbnjncnmaa
