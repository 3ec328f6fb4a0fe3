/- The reader and parts in memory. -/
import Derived.Test.YtlcieebneclmpaaDoorK1
import Derived.Test.YtlcieebneclmpaaDoorXKk
import Derived.Laws.EntriesVeiled
set_option linter.unusedSimpArgs false
set_option linter.unusedVariables false
namespace Go.Proofs.YtlcieebneclmpaaDoor
open Go Go.RowKit

/-- Of what was there only the block r may have turned. -/
structure Kp (r : Nat) (w w' : World) : Prop where
  os : w'.os = w.os
  tape : w'.tape = w.tape
  output : w'.output = w.output
  size : w.heap.size ≤ w'.heap.size
  block : ∀ k, k < w.heap.size → k ≠ r → w'.heap[k]? = w.heap[k]?

theorem Kp.refl (r : Nat) (w : World) : Kp r w w := ⟨rfl, rfl, rfl, Nat.le_refl _, fun _ _ _ => rfl⟩
theorem Kp.trans {r : Nat} {a b c : World} (h : Kp r a b) (g : Kp r b c) : Kp r a c :=
  ⟨g.os.trans h.os, g.tape.trans h.tape, g.output.trans h.output, Nat.le_trans h.size g.size, fun k hk hr => (g.block k (Nat.lt_of_lt_of_le hk h.size) hr).trans (h.block k hk hr)⟩
theorem Kp.of_bw {r : Nat} {a b : World} (g : Bw a b) : Kp r a b := ⟨g.os, g.tape, g.output, g.size, fun k hk _ => g.block k hk⟩
theorem Kp.bw {r : Nat} {a b c : World} (h : Kp r a b) (g : Bw b c) : Kp r a c := h.trans (Kp.of_bw g)
theorem Kp.alloc {r : Nat} {a b : World} (h : Kp r a b) (o : Obj) : Kp r a (b.alloc o) := h.bw (Bw.alloc (Bw.refl _) o)
theorem Kp.drew {r : Nat} {a b : World} (h : Kp r a b) : Kp r a b.drew := h.bw (Bw.drew (Bw.refl _))
theorem Kp.drewN {r : Nat} {a b : World} (h : Kp r a b) (n : Nat) : Kp r a (b.drewN n) := h.bw (Bw.drewN (Bw.refl _) n)
theorem Kp.set {r : Nat} {a b : World} (h : Kp r a b) (j : Nat) (v : Value) : Kp r a (b.setCell ⟨r, j, none⟩ v) :=
  h.trans ⟨rfl, rfl, rfl, by simp [World.setCell], fun k hk hr => Below.heap_setCell b ⟨r, j, none⟩ v k hr⟩
theorem Kp.setNew {r g : Nat} {a b : World} (h : Kp r a b) (hg : a.heap.size ≤ g) (j : Nat) (v : Value) : Kp r a (b.setCell ⟨g, j, none⟩ v) :=
  ⟨h.os, h.tape, h.output, by simpa [World.setCell] using h.size, fun k hk hr => (Below.heap_setCell b ⟨g, j, none⟩ v k (show k ≠ g by omega)).trans (h.block k hk hr)⟩
/-- Where the block r is new. -/
theorem Kp.toBw {r : Nat} {a b : World} (h : Kp r a b) (hr : a.heap.size ≤ r) : Bw a b := ⟨h.os, h.tape, h.output, h.size, fun k hk => h.block k hk (by omega)⟩
/-- A row that is appended to. -/
theorem Kp.grown {r : Nat} {a b c : World} {q : Option Nat} (h : Kp r a b) (g : b.grownBy c q) (hq : ∀ k, q = some k → a.heap.size ≤ k) : Kp r a c :=
  ⟨g.os.trans h.os, g.tape.trans h.tape, g.output.trans h.output, Nat.le_trans h.size g.size, fun k hk hr => (g.block k (Nat.lt_of_lt_of_le hk h.size) (fun e => by have := hq k e.symm; omega)).trans (h.block k hk hr)⟩

theorem Blk.kp {w w' : World} {r g : Nat} {cur : Array Value} {e : TypeId} (h : Blk w g cur e) (k : Kp r w w') (hg : g ≠ r) : Blk w' g cur e := h.keep (k.block g h.lt hg)

/-- Tokens that lie in the block g. -/
def TkM (w : World) (g : Nat) (T : List ATok) : Prop := g < w.heap.size ∧ ∀ i (hi : i < T.length), w.cell? ⟨g, i * 4, none⟩ = some (.int .i64 T[i].1) ∧ w.cell? ⟨g, i * 4 + 1, none⟩ = some (.string (strOfNums T[i].2.1)) ∧ w.cell? ⟨g, i * 4 + 2, none⟩ = some (.int .i64 T[i].2.2.1) ∧ w.cell? ⟨g, i * 4 + 3, none⟩ = some (.int .i64 T[i].2.2.2)

theorem TkM.kp {w w' : World} {r g : Nat} {T : List ATok} (h : TkM w g T) (k : Kp r w w') (hg : g ≠ r) : TkM w' g T :=
  ⟨Nat.lt_of_lt_of_le h.1 k.size, fun i hi => by
    have e := fun j => World.cell?_of_block (w := w) (w' := w') (a := ⟨g, j, none⟩) (k.block g h.1 hg)
    rw [e, e, e, e]; exact h.2 i hi⟩

/-- The last token alone is the end. -/
def EndT (T : List ATok) : Prop := ∀ i, i < T.length → (tk T i).1 ≠ 0 → i + 1 < T.length

/-- Strings in a row that lies apart from the reader. -/
def SgM (w : World) (r : Nat) (v : Value) (ss : List ByteArray) : Prop := ∃ s c, v = .slice (some ⟨s, 0, none⟩) ss.length c ∧ s ≠ r ∧ Blk w s (ss.map Value.string).toArray 9 ∧ ss.length ≤ 100

theorem SgM.kp {w w' : World} {r : Nat} {v : Value} {ss : List ByteArray} (h : SgM w r v ss) (k : Kp r w w') : SgM w' r v ss := by
  obtain ⟨s, c, e, h1, h2, h3⟩ := h
  exact ⟨s, c, e, h1, h2.kp k h1, h3⟩

theorem SgM.bw {w w' : World} {r : Nat} {v : Value} {ss : List ByteArray} (h : SgM w r v ss) (k : Bw w w') : SgM w' r v ss := h.kp (Kp.of_bw k)

/-- A variable apart from the reader. -/
def CeM (w : World) (r a : Nat) (v : Value) : Prop := a ≠ r ∧ a < w.heap.size ∧ w.cell? ⟨a, 0, none⟩ = some v

theorem CeM.kp {w w' : World} {r a : Nat} {v : Value} (h : CeM w r a v) (k : Kp r w w') : CeM w' r a v :=
  ⟨h.1, Nat.lt_of_lt_of_le h.2.1 k.size, (World.cell?_of_block (w := w) (w' := w') (a := ⟨a, 0, none⟩) (k.block a h.2.1 h.1)).trans h.2.2⟩

/-- What a level that goes on from the left, or compares, has taken along. -/
def LeM (w : World) (r : Nat) (fn : Nat) (ss : List ByteArray) (v v' : Value) : Prop :=
  ∃ a b c sv, v = .func (.func fn) #[] #[.pointer (some ⟨a, 0, none⟩), .pointer (some ⟨b, 0, none⟩), .pointer (some ⟨c, 0, none⟩)] ∧ CeM w r a v' ∧ CeM w r b (.pointer (some ⟨r, 0, none⟩)) ∧ CeM w r c sv ∧ SgM w r sv ss

/-- What the level of not has taken along. -/
def LnM (w : World) (r : Nat) (v v' : Value) : Prop :=
  ∃ a b c, v = .func (.func 76) #[] #[.pointer (some ⟨a, 0, none⟩), .pointer (some ⟨b, 0, none⟩), .pointer (some ⟨c, 0, none⟩)] ∧ CeM w r a (.pointer (some ⟨r, 0, none⟩)) ∧ CeM w r b v' ∧ CeM w r c v

theorem LeM.kp {w w' : World} {r fn : Nat} {ss : List ByteArray} {v v' : Value} (h : LeM w r fn ss v v') (k : Kp r w w') : LeM w' r fn ss v v' := by
  obtain ⟨a, b, c, sv, e, h1, h2, h3, h4⟩ := h
  exact ⟨a, b, c, sv, e, h1.kp k, h2.kp k, h3.kp k, h4.kp k⟩

theorem LnM.kp {w w' : World} {r : Nat} {v v' : Value} (h : LnM w r v v') (k : Kp r w w') : LnM w' r v v' := by
  obtain ⟨a, b, c, e, h1, h2, h3⟩ := h
  exact ⟨a, b, c, e, h1.kp k, h2.kp k, h3.kp k⟩

/-- All levels: l k is the one that reads level k. -/
structure Lvs (w : World) (r : Nat) (l : Nat → Value) : Prop where
  l6 : l 6 = .func (.func 54) #[.pointer (some ⟨r, 0, none⟩)] #[]
  l5 : LeM w r 69 (sgl 5) (l 5) (l 6)
  l4 : LeM w r 69 (sgl 4) (l 4) (l 5)
  l3 : LeM w r 75 (sgl 3) (l 3) (l 4)
  l2 : LnM w r (l 2) (l 3)
  l1 : LeM w r 69 (sgl 1) (l 1) (l 2)
  l0 : LeM w r 69 (sgl 0) (l 0) (l 1)

theorem Lvs.kp {w w' : World} {r : Nat} {l : Nat → Value} (h : Lvs w r l) (k : Kp r w w') : Lvs w' r l :=
  ⟨h.l6, h.l5.kp k, h.l4.kp k, h.l3.kp k, h.l2.kp k, h.l1.kp k, h.l0.kp k⟩

/-- The reader in memory; B: the world in which it was made; ex: the levels. -/
structure RI (B w : World) (r g cap : Nat) (T : List ATok) (ex : Nat → Value) (i o : Nat) : Prop where
  k : Blk w r #[.slice (some ⟨g, 0, none⟩) T.length cap, .int .i64 i, .int .i64 o, ex 0] 77
  kb : Kp r B w
  t : TkM B g T
  lv : Lvs B r ex
  ne : g ≠ r
  lt : i < T.length
  ho : o ≤ 65
  len : T.length ≤ 20000
  e : EndT T

theorem RI.kp {B w w' : World} {r g cap : Nat} {T : List ATok} {ex : Nat → Value} {i o : Nat} (h : RI B w r g cap T ex i o) (hb : w'.heap[r]? = w.heap[r]?) (k : Kp r w w') : RI B w' r g cap T ex i o :=
  ⟨h.k.keep hb, h.kb.trans k, h.t, h.lv, h.ne, h.lt, h.ho, h.len, h.e⟩

theorem RI.bw {B w w' : World} {r g cap : Nat} {T : List ATok} {ex : Nat → Value} {i o : Nat} (h : RI B w r g cap T ex i o) (hb : Bw w w') : RI B w' r g cap T ex i o :=
  h.kp (hb.block r h.k.lt) (Kp.of_bw hb)

theorem tk_get {T : List ATok} {i : Nat} (h : i < T.length) : tk T i = T[i] := by
  unfold tk
  rw [List.getD_eq_getElem?_getD, List.getElem?_eq_getElem h]
  rfl

theorem RI.glt {B w : World} {r g cap : Nat} {T : List ATok} {ex : Nat → Value} {i o : Nat} (h : RI B w r g cap T ex i o) : g < w.heap.size := Nat.lt_of_lt_of_le h.t.1 h.kb.size

theorem RI.tokAt {B w : World} {r g cap : Nat} {T : List ATok} {ex : Nat → Value} {i o : Nat} (h : RI B w r g cap T ex i o) {j : Nat} (hj : j < T.length) :
    w.cell? ⟨g, j * 4, none⟩ = some (.int .i64 (tk T j).1) ∧ w.cell? ⟨g, j * 4 + 1, none⟩ = some (.string (strOfNums (tk T j).2.1)) ∧ w.cell? ⟨g, j * 4 + 2, none⟩ = some (.int .i64 (tk T j).2.2.1) ∧ w.cell? ⟨g, j * 4 + 3, none⟩ = some (.int .i64 (tk T j).2.2.2) := by
  rw [tk_get hj]; exact (h.t.kp h.kb h.ne).2 j hj

theorem RI.tok {B w : World} {r g cap : Nat} {T : List ATok} {ex : Nat → Value} {i o : Nat} (h : RI B w r g cap T ex i o) :
    w.cell? ⟨g, i * 4, none⟩ = some (.int .i64 (tk T i).1) ∧ w.cell? ⟨g, i * 4 + 1, none⟩ = some (.string (strOfNums (tk T i).2.1)) ∧ w.cell? ⟨g, i * 4 + 2, none⟩ = some (.int .i64 (tk T i).2.2.1) ∧ w.cell? ⟨g, i * 4 + 3, none⟩ = some (.int .i64 (tk T i).2.2.2) := h.tokAt h.lt

theorem RI.next {B w : World} {r g cap : Nat} {T : List ATok} {ex : Nat → Value} {i o : Nat} (h : RI B w r g cap T ex i o) (hn : (tk T i).1 ≠ 0) : RI B (w.setCell ⟨r, 1, none⟩ (.int .i64 ((i : Int) + 1))) r g cap T ex (i + 1) o := by
  refine ⟨?_, h.kb.set 1 _, h.t, h.lv, h.ne, h.e i h.lt hn, h.ho, h.len, h.e⟩
  have := h.k.set 1 (.int .i64 ((i : Int) + 1))
  simpa using this

theorem RI.opn {B w : World} {r g cap : Nat} {T : List ATok} {ex : Nat → Value} {i o : Nat} (h : RI B w r g cap T ex i o) (o' : Nat) (ho : o' ≤ 65) : RI B (w.setCell ⟨r, 2, none⟩ (.int .i64 (o' : Int))) r g cap T ex i o' := by
  refine ⟨?_, h.kb.set 2 _, h.t, h.lv, h.ne, h.lt, ho, h.len, h.e⟩
  have := h.k.set 2 (.int .i64 (o' : Int))
  simpa using this

theorem RI.other {B w : World} {r g cap : Nat} {T : List ATok} {ex : Nat → Value} {i o : Nat} (h : RI B w r g cap T ex i o) {b j : Nat} (hr : b ≠ r) (hB : B.heap.size ≤ b) (v : Value) : RI B (w.setCell ⟨b, j, none⟩ v) r g cap T ex i o :=
  ⟨h.k.other (p := ⟨b, j, none⟩) hr v, h.kb.setNew hB j v, h.t, h.lv, h.ne, h.lt, h.ho, h.len, h.e⟩

/-- A token as a value. -/
def tokV (t : ATok) : Value := .agg #[.int .i64 t.1, .string (strOfNums t.2.1), .int .i64 t.2.2.1, .int .i64 t.2.2.2]

/-- What the reader gives up with. -/
def fltV (e at_ : Int) : List PanicEntry := [{ v := .iface 55 (.agg #[.int .i64 e, .int .i64 at_]), recovered := false }]

end Go.Proofs.YtlcieebneclmpaaDoor

