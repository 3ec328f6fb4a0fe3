/- Plain arithmetic of tagged words: what a word's number, kind and index are, and how sums, products and quotients behave modulo 2 to the 62. Nothing of the program is in it. · Lists in memory as plain data: a slice that reads as these cells; that it stays so where its block does; a list appended to one that the call owns. Nothing of the program is in it. · Worlds that have new blocks and draws behind them, no more. Nothing of the program is in it. · What heaps are as plain data, and memory read as it: objects, references, what is good; blocks, rows. Nothing of the program's calls is in it. -/
import Derived.RowKit
import Derived.Laws.BitsAllLaws
import Derived.WalkKit
import Derived.WalkLawsBesides
import Derived.Below
import Derived.OwnWalk
import Derived.Laws.AppendOwn
import Derived.Laws.AppendOwnNone
import Derived.Deep.Draws
import Derived.Test.YtlhgdknmgdohkaaGreatDoorRows
import Derived.WalkSpells
import Derived.Deep.RegionHeld3
import Derived.Deep.DeepCutAuto
import Derived.Laws.MakeOwn
import Derived.Laws.OwnMore
import Derived.Laws.CopyOwn
namespace Go.Proofs.YtlhgdknmgdohkaaGreatDoor
open Go.RowKit

def U (v : Int) : Prop := 0 ≤ v ∧ v < 18446744073709551616
def N (v : Int) : Prop := v % 4 = 0
/-- the word of a number -/
def mk (n : Int) : Int := (4 * n) % 18446744073709551616
/-- the number of a word whose tag is 0 -/
def nm (v : Int) : Int := ((v + 9223372036854775808) % 18446744073709551616 - 9223372036854775808) / 4
def isN (v : Int) : Bool := decide (v % 4 = 0)
def numV (v : Int) : Int := if v % 4 = 0 then nm v else 0
def kd (v : Int) : Int :=
  if v % 4 = 0 then 0 else if v % 4 = 1 then (if v = 1 ∨ v = 5 ∨ v = 9 then 1 else 4) else if v / 4 ≤ 2147483647 then v % 4 else 4
def hasI (v : Int) : Bool := decide (kd v = 2 ∨ kd v = 3)
def idxV (v : Int) : Int := if kd v = 2 ∨ kd v = 3 then v / 4 else 0
def tru (v : Int) : Bool := v != 1 && v != 5
def refV (i : Int) : Int := if 0 ≤ i ∧ i ≤ 2147483647 then 4 * i + 2 else 0
def primV (i : Int) : Int := if 0 ≤ i ∧ i ≤ 2147483647 then 4 * i + 3 else 0
def erI (i : Int) : Int := if 0 ≤ i ∧ i ≤ 2147483647 then 0 else 1
def bv (b : Bool) : Int := if b then 9 else 5
def ltB (a b : Int) : Bool := decide (nm a < nm b)
def quo (x y : Int) : Int := x.tdiv y
def rest (x y : Int) : Int := x.tmod y

theorem and3 (v : Int) (h : U v) : bits .and .u64 v 3 = v % 4 := by
  obtain ⟨h0, h1⟩ := h
  rw [u64_and v 3 h0 h1 (by omega) (by omega)]
  show ((v.toNat &&& 3 : Nat) : Int) = _
  rw [show (3 : Nat) = 2 ^ 2 - 1 from rfl, Nat.and_two_pow_sub_one_eq_mod]
  omega
theorem or0 (v : Int) (h0 : 0 ≤ v) (h1 : v < 18446744073709551616) : bits .or .u64 v 0 = v := by
  rw [u64_or v 0 h0 h1 (by omega) (by omega)]
  show ((v.toNat ||| 0 : Nat) : Int) = _
  rw [Nat.or_zero]; omega
theorem or_low (i k : Nat) (hk : k < 4) : (i * 4) ||| k = i * 4 + k := by
  have h := Nat.two_pow_add_eq_or_of_lt (i := 2) (b := k) (by omega) i
  rw [show (2 : Nat) ^ 2 = 4 from rfl] at h
  rw [Nat.mul_comm i 4]; exact h.symm
theorem int_eq (n : Int) : bits BinOp.or IntKind.u64 (IntKind.u64.wrap (IntKind.u64.wrap n * 4)) 0 = mk n := by
  simp only [IntKind.wrap_u64]
  rw [or0 _ (by omega) (by omega)]
  unfold mk; omega
theorem rint_eq (n : Int) : IntKind.u64.wrap ((IntKind.u64.wrap n).tmod 4611686018427387904 * 4) = mk n := by
  simp only [IntKind.wrap_u64]
  rw [tmod_of_emod]
  unfold mk; omega
theorem or_tag (i k : Int) (h0 : 0 ≤ i) (h1 : i ≤ 2147483647) (k0 : 0 ≤ k) (k1 : k < 4) : bits BinOp.or IntKind.u64 (i * 4) k = 4 * i + k := by
  rw [u64_or (i * 4) k (by omega) (by omega) (by omega) (by omega)]
  have h := or_low i.toNat k.toNat (by omega)
  rw [show (i * 4).toNat = i.toNat * 4 by omega, h]; omega
theorem mk_U (n : Int) : U (mk n) := by unfold U mk; omega
theorem mk_N (n : Int) : N (mk n) := by unfold N mk; omega
theorem nm_bd (v : Int) : -2305843009213693952 ≤ nm v ∧ nm v ≤ 2305843009213693951 := by unfold nm; omega
theorem nm_of (v : Int) : wrap64 v / 4 = nm v := rfl
theorem mk_nm (v : Int) (h : U v) (n : N v) : mk (nm v) = v := by unfold U at h; unfold N at n; unfold mk nm; omega
/-- a number that is made and told: it is the same modulo 2 to the 62 -/
theorem nm_mk (n : Int) : ∃ k, nm (mk n) = n + 4611686018427387904 * k := by
  refine ⟨-((n + 2305843009213693952) / 4611686018427387904), ?_⟩
  unfold nm mk; omega
theorem nm_mk_in (n : Int) (h0 : -2305843009213693952 ≤ n) (h1 : n ≤ 2305843009213693951) : nm (mk n) = n := by unfold nm mk; omega
/-- words of numbers that are the same modulo 2 to the 62 are the same -/
theorem mk_congr (a b k : Int) (h : a = b + 4611686018427387904 * k) : mk a = mk b := by unfold mk; omega
theorem mk_wrap64 (n : Int) : mk (wrap64 n) = mk n := by unfold mk wrap64; omega
end Go.Proofs.YtlhgdknmgdohkaaGreatDoor

set_option linter.unusedSimpArgs false
set_option linter.unusedVariables false
namespace Go.Proofs.YtlhgdknmgdohkaaGreatDoor
open Go Go.RowKit

/-- The slice v has n elements of 'size' cells each, the cells cs; they lie in a block of which G holds. -/
def Sl (w : World) (G : Nat → Prop) (v : Value) (n size : Nat) (cs : List Value) : Prop :=
  cs.length = n * size ∧ ∃ a cap, v = .slice a n cap ∧ (n ≤ cap ∧ (a = none → cap = 0)) ∧
    (n = 0 ∨ ∃ b o, a = some ⟨b, o, none⟩ ∧ b < w.heap.size ∧ G b ∧ ∀ i, i < n * size → w.cell? ⟨b, o + i, none⟩ = cs[i]?)

theorem Sl.keep {w w' : World} {G G' : Nat → Prop} {v : Value} {n size : Nat} {cs : List Value} (h : Sl w G v n size cs)
    (hs : w.heap.size ≤ w'.heap.size) (hb : ∀ b, b < w.heap.size → G b → w'.heap[b]? = w.heap[b]?) (hG : ∀ b, b < w.heap.size → G b → G' b) : Sl w' G' v n size cs := by
  obtain ⟨hl, a, cap, rfl, hn, h⟩ := h
  refine ⟨hl, a, cap, rfl, hn, ?_⟩
  rcases h with h | ⟨b, o, rfl, hlt, hg, hc⟩
  · exact .inl h
  · refine .inr ⟨b, o, rfl, by omega, hG b hlt hg, fun i hi => ?_⟩
    rw [← hc i hi]
    exact World.cell?_of_block (w := w) (w' := w') (a := ⟨b, o + i, none⟩) (hb b hlt hg)

theorem Sl.below {w w' : World} {G : Nat → Prop} {v : Value} {n size : Nat} {cs : List Value} (h : Sl w G v n size cs) (hb : Below w.heap.size w w') : Sl w' G v n size cs :=
  h.keep hb.size (fun b hlt _ => hb.block b hlt) (fun _ _ g => g)

theorem Sl.nil (w : World) (G : Nat → Prop) (size : Nat) : Sl w G (.slice none 0 0) 0 size [] := ⟨by simp, none, 0, rfl, ⟨Nat.le_refl _, fun _ => rfl⟩, .inl rfl⟩

theorem own_sl {w : World} {G : Nat → Prop} {base : Nat} {e : TypeId} {size : Nat} {v : Value} {n : Nat} {xs : List Value}
    (h : w.ownsRow base e size v n xs) (hG : ∀ b, base ≤ b → G b) : Sl w G v n size xs := by
  refine ⟨h.1, ?_⟩
  rcases h.2 with ⟨rfl, rfl⟩ | ⟨g, cap, cur, rfl, hb, hg, hnc, hm, hsz, htake⟩
  · exact ⟨none, 0, rfl, ⟨Nat.le_refl _, fun _ => rfl⟩, .inl rfl⟩
  · refine ⟨_, cap, rfl, ⟨hnc, fun k => (by cases k)⟩, .inr ⟨g, 0, rfl, (Array.getElem?_eq_some_iff.1 hg).1, hG g hb, fun i hi => ?_⟩⟩
    rw [cell_of_row w g (0 + i) cur e (0, 0) hg, ← htake, List.getElem?_take, if_pos hi]
    simp

/-- The cell of an element. -/
theorem Sl.form {w : World} {G : Nat → Prop} {v : Value} {n size : Nat} {cs : List Value} (h : Sl w G v n size cs) : ∃ a cap, v = .slice a n cap := by
  obtain ⟨_, a, cap, rfl, _, _⟩ := h
  exact ⟨a, cap, rfl⟩

theorem grown_refl (w : World) (row : Option Nat) : w.grownBy w row := ⟨rfl, rfl, rfl, Nat.le_refl _, fun _ _ _ => rfl⟩

section
variable {P : Program} (w : World)
/-- append(s, x...), s the call's own, x any list that reads as 'news'. -/
theorem wpList_append_sl {G : Nat → Prop} {ops : Array Oper} {rest : List Oper} {o : Oper} {a : Act} {Q : Exit → Act → World → Prop} (hgd : o.guard = none) (s x : Operand) (t : TypeId)
    (ho : o.op = .call { callee := .builtin .append, args := #[s, x], argTypes := #[t, t] })
    (base : Nat) (e : TypeId) (i : TypeInfo) (z : Value) (size bytes : Nat) (ht : P.underlying t = some (.slice e)) (hi : P.info? e = some i) (hz : i.zero = some z)
    (hsize : i.size = size) (hby : i.bytes = bytes) (hzs : z.cells.size = size) (hsz : 0 < size)
    (v : Value) (n : Nat) (xs : List Value) (hs : a.eval s = v) (hown : w.ownsRow base e size v n xs)
    (xv : Value) (m : Nat) (news : List Value) (hx : a.eval x = xv) (hsl : Sl w G xv m size news) (h1 : ∀ u ∈ news, u.oneCell' = true)
    (h63 : n + m ≤ maxLen) (hbytes : (n + m) * bytes ≤ 140737488355328) (hbase : base ≤ w.heap.size)
    (h : ∀ v' w', w'.ownsRow base e size v' (n + m) (xs ++ news) → w.grownBy w' v.ownBlock → wpList P ops Q rest (a.put o.dst v') w') : wpList P ops Q (o :: rest) a w := by
  obtain ⟨hl, ad, cap, rfl, hn, hc⟩ := hsl
  cases ad with
  | none =>
    obtain rfl : cap = 0 := hn.2 rfl
    obtain rfl : m = 0 := by have := hn.1; omega
    have hnews : news = [] := List.eq_nil_of_length_eq_zero (by simpa using hl)
    subst hnews
    refine wpList_append_own_none hgd s x t ho base e i size ht hi v n xs hs hown hx ?_
    exact h v w (by simpa using hown) (grown_refl w _)
  | some ad =>
    refine wpList_append_own w hgd s x t ho base e i z size bytes ht hi hz hsize hby hzs hsz v n xs hs hown ad m cap news hx hl ?_ h1 h63 hbytes hbase fun v' w' h2 h3 _ => h v' w' h2 h3
    intro j u hj
    have hjl : j < news.length := (List.getElem?_eq_some_iff.1 hj).1
    rcases hc with rfl | ⟨b, off, he, hlt, hg, hcs⟩
    · have h0 : news.length = 0 := by rw [hl]; omega
      omega
    · cases he
      have e1 : (⟨b, off, none⟩ : Addr).add j = ⟨b, off + j, none⟩ := by
        unfold Addr.add
        split
        · rename_i h0; subst h0; rfl
        · rfl
      rw [e1, hcs j (by omega), hj]
end

end Go.Proofs.YtlhgdknmgdohkaaGreatDoor

set_option linter.unusedSimpArgs false
set_option linter.unusedVariables false
namespace Go.Proofs.YtlhgdknmgdohkaaGreatDoor
open Go Go.RowKit

section
variable (w : World) (a : Addr)
@[go_sem] theorem alloc_drewN (n : Nat) (o : Obj) : (w.drewN n).alloc o = (w.alloc o).drewN n := rfl
@[go_sem] theorem setCell_drewN (n : Nat) (v : Value) : (w.drewN n).setCell a v = (w.setCell a v).drewN n := rfl
@[go_sem] theorem shape_drewN (n r : Nat) : (w.drewN n).shape? r = w.shape? r := rfl
end

/-- What was there is as it was. -/
def Bw (w w' : World) : Prop := Below w.heap.size w w'

theorem Bw.refl (w : World) : Bw w w := Below.refl _ _
theorem Bw.trans {a b c : World} (h : Bw a b) (k : Bw b c) : Bw a c := Below.trans h (Below.mono k h.size)
theorem bw_drewN (w : World) (n : Nat) : Bw w (w.drewN n) := ⟨rfl, rfl, rfl, Nat.le_refl _, fun _ _ => rfl⟩
theorem Bw.alloc {a w : World} (h : Bw a w) (o : Obj) : Bw a (w.alloc o) := Below.alloc h h.size o
theorem Bw.drewN {a w : World} (h : Bw a w) (n : Nat) : Bw a (w.drewN n) := h.trans (bw_drewN w n)
theorem Bw.drew {a w : World} (h : Bw a w) : Bw a w.drew := h.trans (Below.drew (Below.refl _ _))
theorem Bw.setCell {a w : World} (h : Bw a w) {p : Addr} (hp : a.heap.size ≤ p.block) (u : Value) : Bw a (w.setCell p u) := Below.setCell h hp u
/-- A world but for draws. -/
def Dn (w w' : World) : Prop := ∃ m, w' = w.drewN m
theorem Dn.bw {w w' : World} (h : Dn w w') : Bw w w' := by obtain ⟨m, rfl⟩ := h; exact bw_drewN w m
theorem Dn.refl (w : World) : Dn w w := ⟨0, rfl⟩
theorem Dn.trans {a b c : World} (h : Dn a b) (k : Dn b c) : Dn a c := by
  obtain ⟨m, rfl⟩ := h
  obtain ⟨n, rfl⟩ := k
  exact ⟨m + n, by simp⟩

/-! ## new blocks and draws -/

/-- The world with new blocks behind it, and draws. -/
def lay (w : World) (os : List Obj) (n : Nat) : World := (os.foldl World.alloc w).drewN n

theorem foldl_heap (os : List Obj) : ∀ (w : World), (os.foldl World.alloc w).heap.size = w.heap.size + os.length ∧ ∀ k, k < w.heap.size → (os.foldl World.alloc w).heap[k]? = w.heap[k]? := by
  induction os with
  | nil => intro w; exact ⟨rfl, fun _ _ => rfl⟩
  | cons o r ih =>
    intro w
    obtain ⟨h1, h2⟩ := ih (w.alloc o)
    have hs : (w.alloc o).heap.size = w.heap.size + 1 := by simp
    refine ⟨by simp only [List.foldl_cons, List.length_cons]; omega, fun k hk => ?_⟩
    rw [List.foldl_cons, h2 k (by omega)]
    exact Below.heap_alloc w o k hk

theorem foldl_rest (os : List Obj) : ∀ (w : World), (os.foldl World.alloc w).os = w.os ∧ (os.foldl World.alloc w).tape = w.tape ∧ (os.foldl World.alloc w).output = w.output := by
  induction os with
  | nil => intro w; exact ⟨rfl, rfl, rfl⟩
  | cons o r ih => intro w; exact ih (w.alloc o)

@[simp, go_sem] theorem lay_size (w : World) (os : List Obj) (n : Nat) : (lay w os n).heap.size = w.heap.size + os.length := (foldl_heap os w).1
@[simp, go_sem] theorem lay_cell (w : World) (os : List Obj) (n b i : Nat) (h : b < w.heap.size) : (lay w os n).cell? ⟨b, i, none⟩ = w.cell? ⟨b, i, none⟩ :=
  World.cell?_of_block (w := w) (w' := lay w os n) (a := ⟨b, i, none⟩) ((foldl_heap os w).2 b h)
@[simp, go_sem] theorem lay_frozen (w : World) (os : List Obj) (n b i : Nat) (h : b < w.heap.size) : (lay w os n).frozen? ⟨b, i, none⟩ = w.frozen? ⟨b, i, none⟩ :=
  World.frozen?_of_block (w := w) (w' := lay w os n) (a := ⟨b, i, none⟩) ((foldl_heap os w).2 b h)
@[simp, go_sem] theorem lay_drewN (w : World) (os : List Obj) (n m : Nat) : (lay w os n).drewN m = lay w os (n + m) := by simp [lay]
@[simp, go_sem] theorem lay_drew (w : World) (os : List Obj) (n : Nat) : (lay w os n).drew = lay w os (n + 1) := rfl
@[simp, go_sem] theorem lay_lay (w : World) (os os' : List Obj) (n m : Nat) : lay (lay w os n) os' m = lay w (os ++ os') (n + m) := by
  unfold lay
  have : ∀ (os' : List Obj) (v : World), os'.foldl World.alloc (v.drewN n) = (os'.foldl World.alloc v).drewN n := by
    intro os'
    induction os' with
    | nil => intro v; rfl
    | cons o r ih => intro v; exact ih (v.alloc o)
  rw [this]; simp [List.foldl_append]
@[simp, go_sem] theorem lay_of_drewN (w : World) (os : List Obj) (n m : Nat) : lay (w.drewN m) os n = lay w os (m + n) := by
  have h := lay_lay w [] os m n
  simpa [lay] using h
@[go_sem] theorem lay_setCell (w : World) (os : List Obj) (n b i : Nat) (v : Value) (h : b < w.heap.size) : (lay w os n).setCell ⟨b, i, none⟩ v = lay (w.setCell ⟨b, i, none⟩ v) os n := by
  unfold lay
  rw [setCell_drewN]
  congr 1
  revert w
  induction os with
  | nil => intro w h; rfl
  | cons o r ih =>
    intro w h
    rw [List.foldl_cons, ih (w.alloc o) (by simp; omega), List.foldl_cons, World.setCell_alloc_past (w := w) o b i v h]
@[simp, go_sem] theorem lt_n1 (a b k0 : Nat) (h : a < b) : (a < b + k0) = True := eq_true (by omega)
@[simp, go_sem] theorem le_n1 (a b k0 : Nat) (h : a ≤ b) : (a ≤ b + k0) = True := eq_true (by omega)
@[simp, go_sem] theorem lt_n2 (a b k0 k1 : Nat) (h : a < b) : (a < b + k0 + k1) = True := eq_true (by omega)
@[simp, go_sem] theorem le_n2 (a b k0 k1 : Nat) (h : a ≤ b) : (a ≤ b + k0 + k1) = True := eq_true (by omega)
@[simp, go_sem] theorem lt_n3 (a b k0 k1 k2 : Nat) (h : a < b) : (a < b + k0 + k1 + k2) = True := eq_true (by omega)
@[simp, go_sem] theorem le_n3 (a b k0 k1 k2 : Nat) (h : a ≤ b) : (a ≤ b + k0 + k1 + k2) = True := eq_true (by omega)
@[simp, go_sem] theorem lt_n4 (a b k0 k1 k2 k3 : Nat) (h : a < b) : (a < b + k0 + k1 + k2 + k3) = True := eq_true (by omega)
@[simp, go_sem] theorem le_n4 (a b k0 k1 k2 k3 : Nat) (h : a ≤ b) : (a ≤ b + k0 + k1 + k2 + k3) = True := eq_true (by omega)
@[simp, go_sem] theorem lt_n5 (a b k0 k1 k2 k3 k4 : Nat) (h : a < b) : (a < b + k0 + k1 + k2 + k3 + k4) = True := eq_true (by omega)
@[simp, go_sem] theorem le_n5 (a b k0 k1 k2 k3 k4 : Nat) (h : a ≤ b) : (a ≤ b + k0 + k1 + k2 + k3 + k4) = True := eq_true (by omega)
@[simp, go_sem] theorem lt_n6 (a b k0 k1 k2 k3 k4 k5 : Nat) (h : a < b) : (a < b + k0 + k1 + k2 + k3 + k4 + k5) = True := eq_true (by omega)
@[simp, go_sem] theorem le_n6 (a b k0 k1 k2 k3 k4 k5 : Nat) (h : a ≤ b) : (a ≤ b + k0 + k1 + k2 + k3 + k4 + k5) = True := eq_true (by omega)
@[simp, go_sem] theorem lt_n7 (a b k0 k1 k2 k3 k4 k5 k6 : Nat) (h : a < b) : (a < b + k0 + k1 + k2 + k3 + k4 + k5 + k6) = True := eq_true (by omega)
@[simp, go_sem] theorem le_n7 (a b k0 k1 k2 k3 k4 k5 k6 : Nat) (h : a ≤ b) : (a ≤ b + k0 + k1 + k2 + k3 + k4 + k5 + k6) = True := eq_true (by omega)
@[simp, go_sem] theorem lt_n8 (a b k0 k1 k2 k3 k4 k5 k6 k7 : Nat) (h : a < b) : (a < b + k0 + k1 + k2 + k3 + k4 + k5 + k6 + k7) = True := eq_true (by omega)
@[simp, go_sem] theorem le_n8 (a b k0 k1 k2 k3 k4 k5 k6 k7 : Nat) (h : a ≤ b) : (a ≤ b + k0 + k1 + k2 + k3 + k4 + k5 + k6 + k7) = True := eq_true (by omega)
@[simp, go_sem] theorem lt_two (a : Nat) : (a < a + 1 + 1) = True := eq_true (by omega)
@[simp, go_sem] theorem lt_three (a : Nat) : (a < a + 1 + 1 + 1) = True := eq_true (by omega)
@[simp, go_sem] theorem lt_four (a : Nat) : (a < a + 1 + 1 + 1 + 1) = True := eq_true (by omega)
@[simp, go_sem] theorem lay_of_drew (w : World) (os : List Obj) (n : Nat) : lay w.drew os n = lay w os (1 + n) := lay_of_drewN w os n 1

theorem bw_lay (w : World) (os : List Obj) (n : Nat) : Bw w (lay w os n) :=
  ⟨(foldl_rest os w).1, (foldl_rest os w).2.1, (foldl_rest os w).2.2, by rw [lay_size]; omega, (foldl_heap os w).2⟩
theorem Bw.lay {a w : World} (h : Bw a w) (os : List Obj) (n : Nat) : Bw a (lay w os n) := h.trans (bw_lay w os n)

/-- New blocks and draws, no more. -/
def Ly (w w' : World) : Prop := ∃ os n, w' = Proofs.YtlhgdknmgdohkaaGreatDoor.lay w os n
theorem Ly.refl (w : World) : Ly w w := ⟨[], 0, rfl⟩
theorem Ly.alloc {a w : World} (h : Ly a w) (o : Obj) : Ly a (w.alloc o) := by
  obtain ⟨os, n, rfl⟩ := h
  exact ⟨os ++ [o], n, by simp [Proofs.YtlhgdknmgdohkaaGreatDoor.lay, alloc_drewN]⟩
theorem Ly.drewN {a w : World} (h : Ly a w) (n : Nat) : Ly a (w.drewN n) := by
  obtain ⟨os, m, rfl⟩ := h
  exact ⟨os, m + n, by simp⟩
theorem Ly.drew {a w : World} (h : Ly a w) : Ly a w.drew := h.drewN 1
theorem Ly.trans {a b c : World} (h : Ly a b) (k : Ly b c) : Ly a c := by
  obtain ⟨os, m, rfl⟩ := h
  obtain ⟨os', m', rfl⟩ := k
  exact ⟨_, _, lay_lay ..⟩
theorem Ly.lay {a w : World} (h : Ly a w) (os : List Obj) (n : Nat) : Ly a (Proofs.YtlhgdknmgdohkaaGreatDoor.lay w os n) := h.trans ⟨os, n, rfl⟩
theorem Ly.bw {a w : World} (h : Ly a w) : Bw a w := by
  obtain ⟨os, n, rfl⟩ := h
  exact bw_lay a os n
theorem Dn.ly {a w : World} (h : Dn a w) : Ly a w := by
  obtain ⟨n, rfl⟩ := h
  exact ⟨[], n, rfl⟩

end Go.Proofs.YtlhgdknmgdohkaaGreatDoor

set_option linter.unusedSimpArgs false
set_option linter.unusedVariables false
namespace Go.Proofs.YtlhgdknmgdohkaaGreatDoor
open Go Go.RowKit

theorem ret_int {k : IntKind} {a b : Int} (h : a = b) : Ending.returned (.int k a) = .returned (.int k b) := by rw [h]

theorem ret_bool {a b : Bool} (h : a = b) : Ending.returned (.bool a) = .returned (.bool b) := by rw [h]

theorem ret_ii {k l : IntKind} {a b c d : Int} (h : a = b) (g : c = d) : Ending.returned (.tuple #[.int k a, .int l c]) = .returned (.tuple #[.int k b, .int l d]) := by rw [h, g]

theorem ret_ib {k : IntKind} {a b : Int} {c d : Bool} (h : a = b) (g : c = d) : Ending.returned (.tuple #[.int k a, .bool c]) = .returned (.tuple #[.int k b, .bool d]) := by rw [h, g]

theorem idx_yes {v : Int} (h : kd v = 2 ∨ kd v = 3) : v / 4 = idxV v := (if_pos h).symm

theorem idx_no {v : Int} (h : ¬ (kd v = 2 ∨ kd v = 3)) : 0 = idxV v := (if_neg h).symm

theorem has_yes {v : Int} (h : kd v = 2 ∨ kd v = 3) : true = hasI v := (decide_eq_true h).symm

theorem has_no {v : Int} (h : ¬ (kd v = 2 ∨ kd v = 3)) : false = hasI v := (decide_eq_false h).symm

theorem tdiv4 (v : Int) (hv : U v) : IntKind.u64.wrap (v.tdiv 4) = v / 4 := by
  rw [IntKind.wrap_u64, Int.tdiv_eq_ediv_of_nonneg hv.1]; have := hv.1; have := hv.2; omega

/-- An object as data: its kind, bytes, values, keys, number, bits. -/
abbrev AObj := Int × List Int × List Int × List ByteArray × Int × Int × Int

def AObj.kind (o : AObj) : Int := o.1

def AObj.bytes (o : AObj) : List Int := o.2.1

def AObj.vals (o : AObj) : List Int := o.2.2.1

def AObj.keys (o : AObj) : List ByteArray := o.2.2.2.1

def AObj.num (o : AObj) : Int := o.2.2.2.2.1

def AObj.re (o : AObj) : Int := o.2.2.2.2.2.1

def AObj.im (o : AObj) : Int := o.2.2.2.2.2.2

/-- A heap as data: how many there may be, all objects. -/
abbrev AHeap := Int × List AObj

/-- Which words are good in a heap of n objects. -/
def gd (n : Nat) (v : Int) : Bool := decide (kd v ≠ 4) && (decide (kd v ≠ 2) || decide (idxV v < n))

/-- The kind of the object of a word. -/
def kk (H : AHeap) (v : Int) : Int := if kd v = 2 ∧ idxV v < H.2.length then ((H.2.getD (idxV v).toNat (0, [], [], [], 0, 0, 0)) : AObj).kind else 0

theorem Sl.cellAt {w : World} {G : Nat → Prop} {a : Option Addr} {cap n size : Nat} {cs : List Value} (h : Sl w G (.slice a n cap) n size cs) (hn : n ≠ 0) :
    ∃ b o, a = some ⟨b, o, none⟩ ∧ b < w.heap.size ∧ G b ∧ ∀ i, i < n * size → w.cell? ⟨b, o + i, none⟩ = cs[i]? := by
  obtain ⟨_, a', cap', e, _, h⟩ := h
  cases e
  rcases h with h | h
  · exact absurd h hn
  · exact h

theorem idx_bd (v : Int) (hU : U v) : 0 ≤ idxV v := by
  unfold idxV; split
  · have := hU.1; omega
  · omega

theorem hid {p : Prop} (h : p) : Hid p := h

/-- The block g has just these cells, none of them frozen. -/
def Blk (w : World) (g : Nat) (cur : Array Value) (e : TypeId) : Prop := w.heap[g]? = some (.cells cur e (0, 0))

theorem Blk.lt {w : World} {g : Nat} {cur : Array Value} {e : TypeId} (h : Blk w g cur e) : g < w.heap.size := (Array.getElem?_eq_some_iff.1 h).1

theorem Blk.cell {w : World} {g : Nat} {cur : Array Value} {e : TypeId} (h : Blk w g cur e) (j : Nat) : w.cell? ⟨g, j, none⟩ = cur[j]? := cell_of_row w g j cur e (0, 0) h

theorem Blk.free {w : World} {g : Nat} {cur : Array Value} {e : TypeId} (h : Blk w g cur e) (j : Nat) : w.frozen? ⟨g, j, none⟩ = false := by
  simp [World.frozen?, show w.heap[g]? = _ from h]

theorem Blk.new (w : World) (cur : Array Value) (e : TypeId) : Blk (w.alloc (.cells cur e)) w.heap.size cur e := heap_alloc_new w _

theorem Blk.alloc {w : World} {g : Nat} {cur : Array Value} {e : TypeId} (h : Blk w g cur e) (o : Obj) : Blk (w.alloc o) g cur e := (Below.heap_alloc w o g h.lt).trans h

theorem Blk.keep {w w' : World} {g : Nat} {cur : Array Value} {e : TypeId} (h : Blk w g cur e) (hb : w'.heap[g]? = w.heap[g]?) : Blk w' g cur e := hb.trans h

theorem Blk.set {w : World} {g : Nat} {cur : Array Value} {e : TypeId} (h : Blk w g cur e) (j : Nat) (v : Value) : Blk (w.setCell ⟨g, j, none⟩ v) g (cur.setIfInBounds j v) e := by
  unfold Blk at *
  simp [World.setCell, Array.getElem?_modify, h]

theorem Blk.other {w : World} {g : Nat} {cur : Array Value} {e : TypeId} (h : Blk w g cur e) {p : Addr} (hp : p.block ≠ g) (v : Value) : Blk (w.setCell p v) g cur e :=
  (Below.heap_setCell w p v g (fun k => hp k.symm)).trans h

theorem Blk.drewN {w : World} {g : Nat} {cur : Array Value} {e : TypeId} (h : Blk w g cur e) (n : Nat) : Blk (w.drewN n) g cur e := h

theorem infoU8 : (Tryz.prog.info? 5).map (fun i => (i.zero, i.size, i.bytes)) = some (some (.int .u8 0), 1, 1) := by kernel_rfl

theorem infoV : (Tryz.prog.info? 27).map (fun i => (i.zero, i.size, i.bytes)) = some (some (.int .u64 0), 1, 8) := by kernel_rfl

theorem infoS : (Tryz.prog.info? 9).map (fun i => (i.zero, i.size, i.bytes)) = some (some (.string ByteArray.empty), 1, 16) := by kernel_rfl

theorem own_base {w : World} {base base' : Nat} {e : TypeId} {size : Nat} {v : Value} {n : Nat} {xs : List Value} (h : w.ownsRow base e size v n xs) (hb : base' ≤ base) : w.ownsRow base' e size v n xs := by
  refine ⟨h.1, ?_⟩
  rcases h.2 with h | ⟨g, cap, cur, e1, h1, r⟩
  · exact .inl h
  · exact .inr ⟨g, cap, cur, e1, by omega, r⟩

theorem own_form {w : World} {base : Nat} {e : TypeId} {size : Nat} {v : Value} {n : Nat} {xs : List Value} (h : w.ownsRow base e size v n xs) : ∃ a cap, v = .slice a n cap := by
  rcases h.2 with ⟨rfl, rfl⟩ | ⟨g, cap, cur, rfl, _⟩
  · exact ⟨none, 0, rfl⟩
  · exact ⟨_, cap, rfl⟩

theorem own_ne {w : World} {base : Nat} {e : TypeId} {size : Nat} {v : Value} {n : Nat} {xs : List Value} (h : w.ownsRow base e size v n xs) {g : Nat} (hg : w.heap.size ≤ g) : v.ownBlock = none ∨ v.ownBlock ≠ some g := by
  cases hv : v.ownBlock with
  | none => exact .inl rfl
  | some k => exact .inr (fun e => by have := (h.lt k hv).2; cases e; omega)

theorem own_empty (w : World) (e : TypeId) (size base g : Nat) (hg : w.heap.size = g) (hb : base ≤ g) : (w.alloc (.cells #[] e)).ownsRow base e size (.slice (some ⟨g, 0, none⟩) 0 0) 0 [] := by
  subst hg
  exact World.ownsRow_made w #[] 0 hb (Nat.zero_le _) (by simp)

theorem ints_one (k : IntKind) (l : List Int) : ∀ u ∈ l.map (Value.int k), u.oneCell' = true := by
  intro u hu
  obtain ⟨x, _, rfl⟩ := List.mem_map.1 hu
  rfl

theorem strs_one (l : List ByteArray) : ∀ u ∈ l.map Value.string, u.oneCell' = true := by
  intro u hu
  obtain ⟨x, _, rfl⟩ := List.mem_map.1 hu
  rfl

/-- A new row appended to: what stays of the rest. -/
theorem Blk.grown {w w' : World} {g h : Nat} {cur : Array Value} {e : TypeId} (hb : Blk w g cur e) (hg : w.grownBy w' (some h)) (hne : g ≠ h) : Blk w' g cur e :=
  hb.keep (hg.block g hb.lt (fun k => hne (by cases k; rfl)))

theorem bw_grownAt {a w w' : World} {h : Nat} (hb : Bw a w) (hg : w.grownBy w' (some h)) (hh : a.heap.size ≤ h) : Bw a w' :=
  Below.grown hb hg hb.size (fun k e => by cases e; exact hh)

theorem Sl.at {w : World} {G : Nat → Prop} {a : Option Addr} {cap n : Nat} {cs : List Value} (h : Sl w G (.slice a n cap) n 1 cs) {i : Nat} (hi : i < n) :
    ∃ b o, a = some ⟨b, o, none⟩ ∧ b < w.heap.size ∧ w.cell? ⟨b, o + i, none⟩ = cs[i]? := by
  obtain ⟨b, o, e, hlt, _, hc⟩ := h.cellAt (by omega)
  exact ⟨b, o, e, hlt, hc i (by omega)⟩

theorem str_inj {z s : ByteArray} (h : z.toList = s.toList) : z = s := by
  rw [ByteArray.toList_eq, ByteArray.toList_eq] at h
  cases z; cases s
  simp only [ByteArray.mk.injEq]
  exact Array.toList_inj.1 h

theorem str_ne {z s : ByteArray} (h : ¬ z = s) : (z.toList == s.toList) = false := by
  rw [beq_eq_false_iff_ne]
  exact fun k => h (str_inj k)

/-- The place of a key; -1: there is none. -/
def aKey (l : List ByteArray) (k : ByteArray) : Int := match l.findIdx? (fun x => decide (x = k)) with | some i => i | none => -1

theorem aKey_hit {l : List ByteArray} {k : ByteArray} {i : Nat} (hi : i < l.length) (h : l[i] = k) (hb : ∀ j (hj : j < i), l[j]'(by omega) ≠ k) : aKey l k = i := by
  have : l.findIdx? (fun x => decide (x = k)) = some i := by
    rw [List.findIdx?_eq_some_iff_getElem]
    exact ⟨hi, by simpa using h, fun j hj => by simpa using hb j hj⟩
  simp [aKey, this]

theorem aKey_miss {l : List ByteArray} {k : ByteArray} (hb : ∀ j (hj : j < l.length), l[j] ≠ k) : aKey l k = -1 := by
  have : l.findIdx? (fun x => decide (x = k)) = none := by
    rw [List.findIdx?_eq_none_iff]
    intro x hx
    obtain ⟨j, hj, rfl⟩ := List.getElem_of_mem hx
    simpa using hb j hj
  simp [aKey, this]

/-- Is what an object is made of too long? -/
def aLong (o : AObj) : Bool := decide ((65536 : Int) < o.bytes.length) || (decide (o.kind = 2) && decide ((65536 : Int) < o.vals.length)) || decide ((256 : Int) < o.keys.length) || (decide (o.kind = 5) && decide ((256 : Int) < o.vals.length))

/-- May an object be made of that? -/
def aRight (n : Nat) (o : AObj) : Bool := o.vals.all (gd n) && decide o.keys.Nodup && !(decide (o.kind = 3) && ((o.keys.length : Int) != (o.vals.length : Int))) && decide (0 ≤ o.num) && decide (1 ≤ o.kind) && decide (o.kind ≤ 9)

theorem right_vals {n : Nat} {o : AObj} {k : Nat} (hk : k < o.vals.length) (h : gd n o.vals[k] = false) : aRight n o = false := by
  have : o.vals.all (gd n) = false := by
    rw [List.all_eq_false]
    exact ⟨o.vals[k], List.getElem_mem hk, by simp [h]⟩
  simp [aRight, this]

/-- What holds of every object that was made. -/
def OKo (o : AObj) : Prop := (o.kind = 1 → o.vals = []) ∧ (o.kind ≠ 1 → o.bytes = []) ∧ (o.kind = 3 → o.keys.length = o.vals.length) ∧ (∀ v ∈ o.vals, U v) ∧ (∀ b ∈ o.bytes, 0 ≤ b ∧ b ≤ 255) ∧
  o.bytes.length ≤ 1000000 ∧ o.vals.length ≤ 1000000 ∧ o.keys.length ≤ 1000000

def HOK (H : AHeap) : Prop := ∀ o ∈ H.2, OKo o

def noObj : AObj := (0, [], [], [], 0, 0, 0)

/-- The object of a word. -/
def ob (H : AHeap) (v : Int) : AObj := H.2.getD (idxV v).toNat noObj

theorem kk_ref {H : AHeap} {v : Int} (h : kk H v ≠ 0) : kd v = 2 ∧ idxV v < H.2.length ∧ kk H v = (ob H v).kind := by
  unfold kk at h ⊢
  split at h
  · rename_i hk
    exact ⟨hk.1, hk.2, by rw [if_pos hk]; rfl⟩
  · exact absurd rfl h

theorem ob_get {H : AHeap} {v : Int} (hU : U v) (h : idxV v < H.2.length) : H.2[(idxV v).toNat]? = some (ob H v) ∧ idxV v = ((idxV v).toNat : Nat) := by
  have h0 := idx_bd v hU
  have hl : (idxV v).toNat < H.2.length := by omega
  refine ⟨?_, by omega⟩
  rw [ob, List.getD_eq_getElem?_getD, List.getElem?_eq_getElem hl]; rfl

theorem ob_ok {H : AHeap} {v : Int} (hok : HOK H) (hU : U v) (h : idxV v < H.2.length) : OKo (ob H v) :=
  hok _ (List.mem_of_getElem? (ob_get hU h).1)

def aAtV (H : AHeap) (v i : Int) : Int :=
  if kk H v = 1 then (if 0 ≤ i ∧ i < (ob H v).bytes.length then mk ((ob H v).bytes.getD i.toNat 0) else 0)
  else if kk H v = 2 ∨ kk H v = 4 then (if 0 ≤ i ∧ i < (ob H v).vals.length then (ob H v).vals.getD i.toNat 0 else 0) else 0

def aAtE (H : AHeap) (v i : Int) : Int :=
  if kk H v = 1 then (if 0 ≤ i ∧ i < (ob H v).bytes.length then 0 else 9)
  else if kk H v = 2 ∨ kk H v = 4 then (if 0 ≤ i ∧ i < (ob H v).vals.length then 0 else 9) else 8

def aFieldV (H : AHeap) (v : Int) (s : ByteArray) : Int := if kk H v = 3 then (if 0 ≤ aKey (ob H v).keys s then (ob H v).vals.getD (aKey (ob H v).keys s).toNat 0 else 0) else 0

def aFieldE (H : AHeap) (v : Int) (s : ByteArray) : Int := if kk H v = 3 then (if 0 ≤ aKey (ob H v).keys s then 0 else 4) else 8

theorem aKey_lt (l : List ByteArray) (s : ByteArray) : aKey l s < l.length := by
  unfold aKey
  split
  · rename_i i hi
    have := (List.findIdx?_eq_some_iff_getElem.1 hi).1
    omega
  · omega

theorem sl_one {w : World} {G : Nat → Prop} {v : Value} {n size : Nat} {cs : List Value} (h : Sl w G v n size cs) : v.oneCell' = true := by
  obtain ⟨a, c, rfl⟩ := h.form
  rfl

theorem Blk.lay {w : World} {g : Nat} {cur : Array Value} {e : TypeId} (h : Blk w g cur e) (os : List Obj) (n : Nat) : Blk (lay w os n) g cur e := h.keep ((foldl_heap os w).2 g h.lt)

theorem Blk.bw {w w' : World} {g : Nat} {cur : Array Value} {e : TypeId} (h : Blk w g cur e) (hb : Bw w w') : Blk w' g cur e := h.keep (hb.block g h.lt)

theorem grown_set (w : World) (g j : Nat) (v : Value) : w.grownBy (w.setCell ⟨g, j, none⟩ v) (some g) :=
  ⟨rfl, rfl, rfl, by simp [World.setCell], fun k _ hne => Below.heap_setCell w ⟨g, j, none⟩ v k (fun e => hne (by rw [e]))⟩

theorem own_not {w : World} {base : Nat} {e e' : TypeId} {size : Nat} {v : Value} {n g : Nat} {xs : List Value} {cur : Array Value} (h : w.ownsRow base e size v n xs) (hb : Blk w g cur e') (hne : e ≠ e') : v.ownBlock = none ∨ v.ownBlock ≠ some g := by
  rcases h.2 with ⟨rfl, _⟩ | ⟨g', cap', cur', rfl, _, hg', _⟩
  · exact .inl rfl
  · right
    simp only [Value.ownBlock, ne_eq, Option.some.injEq]
    rintro rfl
    have hb' : w.heap[g']? = some (.cells cur e' (0, 0)) := hb
    rw [hb'] at hg'
    simp only [Option.some.injEq, Obj.cells.injEq] at hg'
    exact hne hg'.2.1.symm

theorem own_lay {w : World} {base : Nat} {e : TypeId} {size : Nat} {v : Value} {n : Nat} {xs : List Value} (h : w.ownsRow base e size v n xs) (os : List Obj) (m : Nat) : (lay w os m).ownsRow base e size v n xs :=
  h.kept (row := none) ⟨(foldl_rest os w).1, (foldl_rest os w).2.1, (foldl_rest os w).2.2, by rw [lay_size]; omega, fun k hk _ => (foldl_heap os w).2 k hk⟩ (by cases v.ownBlock <;> simp)

def withVals (o : AObj) (l : List Int) : AObj := (o.1, o.2.1, l, o.2.2.2)

def aSetH (H : AHeap) (v i x : Int) : AHeap :=
  if (kk H v = 2 ∨ kk H v = 4) ∧ gd H.2.length x = true ∧ 0 ≤ i ∧ i < (ob H v).vals.length then (H.1, H.2.set (idxV v).toNat (withVals (ob H v) ((ob H v).vals.set i.toNat x))) else H

def aSetE (H : AHeap) (v i x : Int) : Int :=
  if kk H v = 2 ∨ kk H v = 4 then (if gd H.2.length x = true then (if 0 ≤ i ∧ i < (ob H v).vals.length then 0 else 9) else 1) else 8

theorem Blk.grownOwn {w w' : World} {g : Nat} {cur : Array Value} {e e' : TypeId} {base size n : Nat} {v : Value} {xs : List Value} (h : Blk w g cur e) (ho : w.ownsRow base e' size v n xs) (hne : e' ≠ e) (hg : w.grownBy w' v.ownBlock) : Blk w' g cur e := by
  refine h.keep (hg.block g h.lt (fun k => ?_))
  rcases own_not ho h hne with h1 | h1
  · rw [h1] at k; cases k
  · exact h1 k.symm

theorem own_apart {w : World} {base : Nat} {e e' : TypeId} {size size' : Nat} {v v' : Value} {n n' : Nat} {xs xs' : List Value}
    (h : w.ownsRow base e size v n xs) (h' : w.ownsRow base e' size' v' n' xs') (hne : e ≠ e') : v'.ownBlock = none ∨ v'.ownBlock ≠ v.ownBlock := by
  rcases h.2 with ⟨rfl, _⟩ | ⟨g, cap, cur, rfl, _, hg, _⟩
  · cases hv : v'.ownBlock
    · exact .inl rfl
    · exact .inr (by simp [Value.ownBlock])
  · exact own_not h' (show Blk w g cur e from hg) hne.symm

theorem bw_grown {a w w' : World} {base : Nat} {e : TypeId} {size : Nat} {v : Value} {n : Nat} {xs : List Value} (h : Bw a w) (hb : a.heap.size ≤ base) (hown : w.ownsRow base e size v n xs) (hg : w.grownBy w' v.ownBlock) : Bw a w' :=
  Below.grown h hg h.size (fun k hk => by have := (hown.lt k hk).1; omega)

def aPushH (H : AHeap) (v x : Int) : AHeap :=
  if kk H v = 2 ∧ gd H.2.length x = true ∧ (ob H v).vals.length ≠ 65536 then (H.1, H.2.set (idxV v).toNat (withVals (ob H v) ((ob H v).vals ++ [x]))) else H

def aPushE (H : AHeap) (v x : Int) : Int :=
  if kk H v = 2 then (if gd H.2.length x = true then (if (ob H v).vals.length ≠ 65536 then 0 else 2) else 1) else 8

end Go.Proofs.YtlhgdknmgdohkaaGreatDoor

