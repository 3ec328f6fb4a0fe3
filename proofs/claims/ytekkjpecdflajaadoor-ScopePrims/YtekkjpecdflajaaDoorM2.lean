/- Memory read as plain data: blocks, rows; the table of signs; tokens. Nothing of the program's calls is in it. · What may have turned: one block alone. Nothing of the program is in it. · The document's reader in memory: the small functions: contracts. · The document's reader: is, eat, bad, want, enter, name: contracts. · append to a row that one owns: the row stays where it is, or is new. Nothing of the program is in it. -/
import Derived.Test.YtekkjpecdflajaaDoorRows
import Derived.Test.YtekkjpecdflajaaDoorMm
import Derived.Test.YtekkjpecdflajaaDoorLy
import Derived.Test.YtekkjpecdflajaaDoorLlk
import Derived.WalkKit
import Derived.WalkSpells
import Derived.WalkLawsBesides
import Derived.Deep.RegionHeld3
import Derived.Deep.RegionLaw
import Derived.Deep.DeepCutAuto
import Derived.Laws.MakeOwn
import Derived.Laws.OwnMore
import Derived.Laws.CopyOwn
import Derived.Laws.BytesArg
import Derived.ArgAppend
import Derived.Test.YtekkjpecdflajaaDoorM1
import Derived.Laws.EntriesVeiled
import Derived.BigRegion
import Derived.BigQuiet
import Derived.Laws.AppendOwnNone
set_option linter.unusedSimpArgs false
set_option linter.unusedVariables false
namespace Go.Proofs.YtekkjpecdflajaaDoor
open Go Go.RowKit

theorem ret_int {k : IntKind} {a b : Int} (h : a = b) : Ending.returned (.int k a) = .returned (.int k b) := by rw [h]

theorem ret_bool {a b : Bool} (h : a = b) : Ending.returned (.bool a) = .returned (.bool b) := by rw [h]

theorem ret_ii {k l : IntKind} {a b c d : Int} (h : a = b) (g : c = d) : Ending.returned (.tuple #[.int k a, .int l c]) = .returned (.tuple #[.int k b, .int l d]) := by rw [h, g]

theorem ret_ib {k : IntKind} {a b : Int} {c d : Bool} (h : a = b) (g : c = d) : Ending.returned (.tuple #[.int k a, .bool c]) = .returned (.tuple #[.int k b, .bool d]) := by rw [h, g]

theorem Sl.cellAt {w : World} {G : Nat → Prop} {a : Option Addr} {cap n size : Nat} {cs : List Value} (h : Sl w G (.slice a n cap) n size cs) (hn : n ≠ 0) :
    ∃ b o, a = some ⟨b, o, none⟩ ∧ b < w.heap.size ∧ G b ∧ ∀ i, i < n * size → w.cell? ⟨b, o + i, none⟩ = cs[i]? := by
  obtain ⟨_, a', cap', e, _, h⟩ := h
  cases e
  rcases h with h | h
  · exact absurd h hn
  · exact h

theorem hid {p : Prop} (h : p) : Hid p := h

/-- The block g has just these cells, none of them frozen. -/
def Blk (w : World) (g : Nat) (cur : Array Value) (e : TypeId) : Prop := w.heap[g]? = some (.cells cur e (0, 0))

theorem Blk.lt {w : World} {g : Nat} {cur : Array Value} {e : TypeId} (h : Blk w g cur e) : g < w.heap.size := (Array.getElem?_eq_some_iff.1 h).1

theorem Blk.cell {w : World} {g : Nat} {cur : Array Value} {e : TypeId} (h : Blk w g cur e) (j : Nat) : w.cell? ⟨g, j, none⟩ = cur[j]? := cell_of_row w g j cur e (0, 0) h

theorem Blk.free {w : World} {g : Nat} {cur : Array Value} {e : TypeId} (h : Blk w g cur e) (j : Nat) : w.frozen? ⟨g, j, none⟩ = false := by
  simp [World.frozen?, show w.heap[g]? = _ from h]

theorem Blk.new (w : World) (cur : Array Value) (e : TypeId) : Blk (w.alloc (.cells cur e)) w.heap.size cur e := heap_alloc_new w _

theorem Blk.alloc {w : World} {g : Nat} {cur : Array Value} {e : TypeId} (h : Blk w g cur e) (o : Obj) : Blk (w.alloc o) g cur e := (Below.heap_alloc w o g h.lt).trans h

theorem Blk.keep {w w' : World} {g : Nat} {cur : Array Value} {e : TypeId} (h : Blk w g cur e) (hb : w'.heap[g]? = w.heap[g]?) : Blk w' g cur e := hb.trans h

theorem Blk.set {w : World} {g : Nat} {cur : Array Value} {e : TypeId} (h : Blk w g cur e) (j : Nat) (v : Value) : Blk (w.setCell ⟨g, j, none⟩ v) g (cur.setIfInBounds j v) e := by
  unfold Blk at *
  simp [World.setCell, Array.getElem?_modify, h]

theorem Blk.other {w : World} {g : Nat} {cur : Array Value} {e : TypeId} (h : Blk w g cur e) {p : Addr} (hp : p.block ≠ g) (v : Value) : Blk (w.setCell p v) g cur e :=
  (Below.heap_setCell w p v g (fun k => hp k.symm)).trans h

theorem Blk.drewN {w : World} {g : Nat} {cur : Array Value} {e : TypeId} (h : Blk w g cur e) (n : Nat) : Blk (w.drewN n) g cur e := h

theorem infoU8 : (Tryd.prog.info? 5).map (fun i => (i.zero, i.size, i.bytes)) = some (some (.int .u8 0), 1, 1) := by kernel_rfl

theorem infoS : (Tryd.prog.info? 9).map (fun i => (i.zero, i.size, i.bytes)) = some (some (.string ByteArray.empty), 1, 16) := by kernel_rfl

theorem own_base {w : World} {base base' : Nat} {e : TypeId} {size : Nat} {v : Value} {n : Nat} {xs : List Value} (h : w.ownsRow base e size v n xs) (hb : base' ≤ base) : w.ownsRow base' e size v n xs := by
  refine ⟨h.1, ?_⟩
  rcases h.2 with h | ⟨g, cap, cur, e1, h1, r⟩
  · exact .inl h
  · exact .inr ⟨g, cap, cur, e1, by omega, r⟩

theorem own_form {w : World} {base : Nat} {e : TypeId} {size : Nat} {v : Value} {n : Nat} {xs : List Value} (h : w.ownsRow base e size v n xs) : ∃ a cap, v = .slice a n cap := by
  rcases h.2 with ⟨rfl, rfl⟩ | ⟨g, cap, cur, rfl, _⟩
  · exact ⟨none, 0, rfl⟩
  · exact ⟨_, cap, rfl⟩

theorem own_ne {w : World} {base : Nat} {e : TypeId} {size : Nat} {v : Value} {n : Nat} {xs : List Value} (h : w.ownsRow base e size v n xs) {g : Nat} (hg : w.heap.size ≤ g) : v.ownBlock = none ∨ v.ownBlock ≠ some g := by
  cases hv : v.ownBlock with
  | none => exact .inl rfl
  | some k => exact .inr (fun e => by have := (h.lt k hv).2; cases e; omega)

theorem own_empty (w : World) (e : TypeId) (size base g : Nat) (hg : w.heap.size = g) (hb : base ≤ g) : (w.alloc (.cells #[] e)).ownsRow base e size (.slice (some ⟨g, 0, none⟩) 0 0) 0 [] := by
  subst hg
  exact World.ownsRow_made w #[] 0 hb (Nat.zero_le _) (by simp)

theorem ints_one (k : IntKind) (l : List Int) : ∀ u ∈ l.map (Value.int k), u.oneCell' = true := by
  intro u hu
  obtain ⟨x, _, rfl⟩ := List.mem_map.1 hu
  rfl

theorem strs_one (l : List ByteArray) : ∀ u ∈ l.map Value.string, u.oneCell' = true := by
  intro u hu
  obtain ⟨x, _, rfl⟩ := List.mem_map.1 hu
  rfl

/-- A new row appended to: what stays of the rest. -/
theorem Blk.grown {w w' : World} {g h : Nat} {cur : Array Value} {e : TypeId} (hb : Blk w g cur e) (hg : w.grownBy w' (some h)) (hne : g ≠ h) : Blk w' g cur e :=
  hb.keep (hg.block g hb.lt (fun k => hne (by cases k; rfl)))

theorem bw_grownAt {a w w' : World} {h : Nat} (hb : Bw a w) (hg : w.grownBy w' (some h)) (hh : a.heap.size ≤ h) : Bw a w' :=
  Below.grown hb hg hb.size (fun k e => by cases e; exact hh)

theorem Sl.at {w : World} {G : Nat → Prop} {a : Option Addr} {cap n : Nat} {cs : List Value} (h : Sl w G (.slice a n cap) n 1 cs) {i : Nat} (hi : i < n) :
    ∃ b o, a = some ⟨b, o, none⟩ ∧ b < w.heap.size ∧ w.cell? ⟨b, o + i, none⟩ = cs[i]? := by
  obtain ⟨b, o, e, hlt, _, hc⟩ := h.cellAt (by omega)
  exact ⟨b, o, e, hlt, hc i (by omega)⟩

theorem str_inj {z s : ByteArray} (h : z.toList = s.toList) : z = s := by
  rw [ByteArray.toList_eq, ByteArray.toList_eq] at h
  cases z; cases s
  simp only [ByteArray.mk.injEq]
  exact Array.toList_inj.1 h

theorem str_ne {z s : ByteArray} (h : ¬ z = s) : (z.toList == s.toList) = false := by
  rw [beq_eq_false_iff_ne]
  exact fun k => h (str_inj k)

theorem sl_one {w : World} {G : Nat → Prop} {v : Value} {n size : Nat} {cs : List Value} (h : Sl w G v n size cs) : v.oneCell' = true := by
  obtain ⟨a, c, rfl⟩ := h.form
  rfl

theorem Blk.lay {w : World} {g : Nat} {cur : Array Value} {e : TypeId} (h : Blk w g cur e) (os : List Obj) (n : Nat) : Blk (lay w os n) g cur e := h.keep ((foldl_heap os w).2 g h.lt)

theorem Blk.bw {w w' : World} {g : Nat} {cur : Array Value} {e : TypeId} (h : Blk w g cur e) (hb : Bw w w') : Blk w' g cur e := h.keep (hb.block g h.lt)

theorem grown_set (w : World) (g j : Nat) (v : Value) : w.grownBy (w.setCell ⟨g, j, none⟩ v) (some g) :=
  ⟨rfl, rfl, rfl, by simp [World.setCell], fun k _ hne => Below.heap_setCell w ⟨g, j, none⟩ v k (fun e => hne (by rw [e]))⟩

theorem own_not {w : World} {base : Nat} {e e' : TypeId} {size : Nat} {v : Value} {n g : Nat} {xs : List Value} {cur : Array Value} (h : w.ownsRow base e size v n xs) (hb : Blk w g cur e') (hne : e ≠ e') : v.ownBlock = none ∨ v.ownBlock ≠ some g := by
  rcases h.2 with ⟨rfl, _⟩ | ⟨g', cap', cur', rfl, _, hg', _⟩
  · exact .inl rfl
  · right
    simp only [Value.ownBlock, ne_eq, Option.some.injEq]
    rintro rfl
    have hb' : w.heap[g']? = some (.cells cur e' (0, 0)) := hb
    rw [hb'] at hg'
    simp only [Option.some.injEq, Obj.cells.injEq] at hg'
    exact hne hg'.2.1.symm

theorem own_lay {w : World} {base : Nat} {e : TypeId} {size : Nat} {v : Value} {n : Nat} {xs : List Value} (h : w.ownsRow base e size v n xs) (os : List Obj) (m : Nat) : (lay w os m).ownsRow base e size v n xs :=
  h.kept (row := none) ⟨(foldl_rest os w).1, (foldl_rest os w).2.1, (foldl_rest os w).2.2, by rw [lay_size]; omega, fun k hk _ => (foldl_heap os w).2 k hk⟩ (by cases v.ownBlock <;> simp)

theorem Blk.grownOwn {w w' : World} {g : Nat} {cur : Array Value} {e e' : TypeId} {base size n : Nat} {v : Value} {xs : List Value} (h : Blk w g cur e) (ho : w.ownsRow base e' size v n xs) (hne : e' ≠ e) (hg : w.grownBy w' v.ownBlock) : Blk w' g cur e := by
  refine h.keep (hg.block g h.lt (fun k => ?_))
  rcases own_not ho h hne with h1 | h1
  · rw [h1] at k; cases k
  · exact h1 k.symm

theorem own_apart {w : World} {base : Nat} {e e' : TypeId} {size size' : Nat} {v v' : Value} {n n' : Nat} {xs xs' : List Value}
    (h : w.ownsRow base e size v n xs) (h' : w.ownsRow base e' size' v' n' xs') (hne : e ≠ e') : v'.ownBlock = none ∨ v'.ownBlock ≠ v.ownBlock := by
  rcases h.2 with ⟨rfl, _⟩ | ⟨g, cap, cur, rfl, _, hg, _⟩
  · cases hv : v'.ownBlock
    · exact .inl rfl
    · exact .inr (by simp [Value.ownBlock])
  · exact own_not h' (show Blk w g cur e from hg) hne.symm

theorem bw_grown {a w w' : World} {base : Nat} {e : TypeId} {size : Nat} {v : Value} {n : Nat} {xs : List Value} (h : Bw a w) (hb : a.heap.size ≤ base) (hown : w.ownsRow base e size v n xs) (hg : w.grownBy w' v.ownBlock) : Bw a w' :=
  Below.grown h hg h.size (fun k hk => by have := (hown.lt k hk).1; omega)

theorem ret_3 {a b c a' b' c' : Value} (h : a = a') (g : b = b') (k : c = c') : Ending.returned (.tuple #[a, b, c]) = .returned (.tuple #[a', b', c']) := by rw [h, g, k]

theorem infoT : (Tryd.prog.info? 56).map (fun i => (i.zero, i.size, i.bytes)) = some (some (.agg #[.int .i64 0, .string ByteArray.empty, .int .i64 0, .int .i64 0]), 4, 40) := by kernel_rfl

/-- The table of signs. -/
def sgs : List (List Int) := [[61, 61], [33, 61], [60, 61], [62, 61], [43], [45], [42], [47], [37], [60], [62], [61], [40], [41], [91], [93], [123], [125], [44], [59], [58], [46]]





/-- Bytes in memory. -/
def By (w : World) (v : Value) (b : List Int) : Prop := Sl w (fun _ => True) v b.length 1 (b.map (Value.int .u8)) ∧ (∀ c ∈ b, 0 ≤ c ∧ c ≤ 255) ∧ b.length ≤ 9223372036854775807

theorem By.bw {w w' : World} {v : Value} {b : List Int} (h : By w v b) (hb : Bw w w') : By w' v b := ⟨h.1.below hb, h.2⟩

theorem By.form {w : World} {v : Value} {b : List Int} (h : By w v b) : ∃ a cap, v = .slice a b.length cap := h.1.form

theorem By.at {w : World} {a : Option Addr} {cap : Nat} {b : List Int} (h : By w (.slice a b.length cap) b) {i : Nat} (hi : i < b.length) :
    ∃ g o, a = some ⟨g, o, none⟩ ∧ g < w.heap.size ∧ w.cell? ⟨g, o + i, none⟩ = some (.int .u8 b[i]) := by
  obtain ⟨g, o, e, hlt, hc⟩ := h.1.at hi
  exact ⟨g, o, e, hlt, by rw [hc]; simp [hi]⟩

/-- Tokens in memory, in a row of one's own. -/
def Tk (w : World) (base : Nat) (v : Value) (l : List ATok) : Prop := w.ownsRow base 56 4 v l.length (l.flatMap tkV)

theorem tk_one (l : List ATok) : ∀ u ∈ l.flatMap tkV, u.oneCell' = true := by
  intro u hu
  simp only [List.mem_flatMap, tkV] at hu
  obtain ⟨t, _, ht⟩ := hu
  simp only [List.mem_cons, List.not_mem_nil, or_false] at ht
  rcases ht with rfl | rfl | rfl | rfl <;> rfl

end Go.Proofs.YtekkjpecdflajaaDoor

set_option linter.unusedSimpArgs false
set_option linter.unusedVariables false
namespace Go.Proofs.YtekkjpecdflajaaDoor
open Go Go.RowKit

structure Kp (r : Nat) (w w' : World) : Prop where
  os : w'.os = w.os
  tape : w'.tape = w.tape
  output : w'.output = w.output
  size : w.heap.size ≤ w'.heap.size
  block : ∀ k, k < w.heap.size → k ≠ r → w'.heap[k]? = w.heap[k]?

theorem Kp.refl (r : Nat) (w : World) : Kp r w w := ⟨rfl, rfl, rfl, Nat.le_refl _, fun _ _ _ => rfl⟩
theorem Kp.trans {r : Nat} {a b c : World} (h : Kp r a b) (g : Kp r b c) : Kp r a c :=
  ⟨g.os.trans h.os, g.tape.trans h.tape, g.output.trans h.output, Nat.le_trans h.size g.size, fun k hk hr => (g.block k (Nat.lt_of_lt_of_le hk h.size) hr).trans (h.block k hk hr)⟩
theorem Kp.of_bw {r : Nat} {a b : World} (g : Bw a b) : Kp r a b := ⟨g.os, g.tape, g.output, g.size, fun k hk _ => g.block k hk⟩
theorem Kp.bw {r : Nat} {a b c : World} (h : Kp r a b) (g : Bw b c) : Kp r a c := h.trans (Kp.of_bw g)
theorem Kp.alloc {r : Nat} {a b : World} (h : Kp r a b) (o : Obj) : Kp r a (b.alloc o) := h.bw (Bw.alloc (Bw.refl _) o)
theorem Kp.drew {r : Nat} {a b : World} (h : Kp r a b) : Kp r a b.drew := h.bw (Bw.drew (Bw.refl _))
theorem Kp.drewN {r : Nat} {a b : World} (h : Kp r a b) (n : Nat) : Kp r a (b.drewN n) := h.bw (Bw.drewN (Bw.refl _) n)
theorem Kp.set {r : Nat} {a b : World} (h : Kp r a b) (j : Nat) (v : Value) : Kp r a (b.setCell ⟨r, j, none⟩ v) :=
  h.trans ⟨rfl, rfl, rfl, by simp [World.setCell], fun k hk hr => Below.heap_setCell b ⟨r, j, none⟩ v k hr⟩
theorem Kp.setNew {r g : Nat} {a b : World} (h : Kp r a b) (hg : a.heap.size ≤ g) (j : Nat) (v : Value) : Kp r a (b.setCell ⟨g, j, none⟩ v) :=
  ⟨h.os, h.tape, h.output, by simpa [World.setCell] using h.size, fun k hk hr => (Below.heap_setCell b ⟨g, j, none⟩ v k (show k ≠ g by omega)).trans (h.block k hk hr)⟩
/-- Where the block r is new. -/
theorem Kp.toBw {r : Nat} {a b : World} (h : Kp r a b) (hr : a.heap.size ≤ r) : Bw a b := ⟨h.os, h.tape, h.output, h.size, fun k hk => h.block k hk (by omega)⟩
/-- A row that is appended to. -/
theorem Kp.grown {r : Nat} {a b c : World} {q : Option Nat} (h : Kp r a b) (g : b.grownBy c q) (hq : ∀ k, q = some k → a.heap.size ≤ k) : Kp r a c :=
  ⟨g.os.trans h.os, g.tape.trans h.tape, g.output.trans h.output, Nat.le_trans h.size g.size, fun k hk hr => (g.block k (Nat.lt_of_lt_of_le hk h.size) (fun e => by have := hq k e.symm; omega)).trans (h.block k hk hr)⟩

/-- The end stands last. -/
def EndT8 (T : List ATok) : Prop := ∀ i, i < T.length → (dtk T i).1 ≠ 0 → i + 1 < T.length

end Go.Proofs.YtekkjpecdflajaaDoor

set_option linter.unusedSimpArgs false
set_option linter.unusedVariables false
namespace Go.Proofs.YtekkjpecdflajaaDoor
open Go Go.RowKit

/-- The tokens, in a block that is not the reader's. -/
def TkM (w : World) (r : Nat) (v : Value) (T : List ATok) : Prop := ∃ g c cur, v = .slice (some ⟨g, 0, none⟩) T.length c ∧ g ≠ r ∧ Blk w g cur 56 ∧ T.length ≤ 100000 ∧ (∀ i j, i < T.length → j < 4 → cur[i * 4 + j]? = (tkV (dtk T i))[j]?)

theorem TkM.kp {w w' : World} {r : Nat} {v : Value} {T : List ATok} (h : TkM w r v T) (k : Kp r w w') : TkM w' r v T := by
  obtain ⟨g, c, cur, e, h1, h2, h3⟩ := h
  exact ⟨g, c, cur, e, h1, h2.keep (k.block g h2.lt h1), h3⟩

/-- The reader: tokens, next, how many are open, the fault, its place. -/
structure RdM (w : World) (r : Nat) (T : List ATok) (o : Int) (s : DS) : Prop where
  b : ∃ vt q, Blk w r #[vt, .int .i64 s.i, .int .i64 q, .int .i64 s.e, .int .i64 s.p] 54 ∧ TkM w r vt T ∧ (s.e = 0 → q = o)
  i : s.i < T.length
  o : s.e = 0 → 0 ≤ o ∧ o ≤ 64
  n : EndT8 T

/-- What stands at the reader. -/
structure Rdx (w : World) (r g c : Nat) (q : Int) (T : List ATok) (o : Int) (s : DS) : Prop where
  b : Blk w r #[.slice (some ⟨g, 0, none⟩) T.length c, .int .i64 s.i, .int .i64 q, .int .i64 s.e, .int .i64 s.p] 54
  ne : g ≠ r
  gl : g < w.heap.size
  t : TkM w r (.slice (some ⟨g, 0, none⟩) T.length c) T
  q : s.e = 0 → q = o
  l : T.length ≤ 100000
  c0 : ∀ i, i < T.length → w.cell? ⟨g, i * 4, none⟩ = some (.int .i64 (dtk T i).1)
  c1 : ∀ i, i < T.length → w.cell? ⟨g, i * 4 + 1, none⟩ = some (.string (strOfNums (dtk T i).2.1))
  c2 : ∀ i, i < T.length → w.cell? ⟨g, i * 4 + 2, none⟩ = some (.int .i64 (dtk T i).2.2.1)
  c3 : ∀ i, i < T.length → w.cell? ⟨g, i * 4 + 3, none⟩ = some (.int .i64 (dtk T i).2.2.2)

theorem RdM.x {w : World} {r : Nat} {T : List ATok} {o : Int} {s : DS} (h : RdM w r T o s) : ∃ g c q, Rdx w r g c q T o s := by
  obtain ⟨vt, q, h1, h2, h3⟩ := h.b
  have h2' := h2
  obtain ⟨g, c, cur, rfl, h4, h5, h6, h7⟩ := h2
  refine ⟨g, c, q, h1, h4, h5.lt, h2', h3, h6, fun i hi => ?_, fun i hi => ?_, fun i hi => ?_, fun i hi => ?_⟩
  · rw [h5.cell (i * 4), show i * 4 = i * 4 + 0 from rfl, h7 i 0 hi (by decide)]; rfl
  · rw [h5.cell (i * 4 + 1), h7 i 1 hi (by decide)]; rfl
  · rw [h5.cell (i * 4 + 2), h7 i 2 hi (by decide)]; rfl
  · rw [h5.cell (i * 4 + 3), h7 i 3 hi (by decide)]; rfl

theorem RdM.kp {w w' : World} {r : Nat} {T : List ATok} {o : Int} {s : DS} (h : RdM w r T o s) (k : Kp r w w') {o' : Int} {s' : DS} {vt : Value} {q : Int} (hb : Blk w' r #[vt, .int .i64 s'.i, .int .i64 q, .int .i64 s'.e, .int .i64 s'.p] 54) (ht : TkM w r vt T) (hi : s'.i < T.length) (hq : s'.e = 0 → q = o' ∧ 0 ≤ o' ∧ o' ≤ 64) : RdM w' r T o' s' :=
  ⟨⟨vt, q, hb, ht.kp k, fun e => (hq e).1⟩, hi, fun e => (hq e).2, h.n⟩
theorem RdM.bw {w w' : World} {r : Nat} {T : List ATok} {o : Int} {s : DS} (h : RdM w r T o s) (hb : Bw w w') : RdM w' r T o s := by
  obtain ⟨vt, q, h1, h2, h3⟩ := h.b
  exact ⟨⟨vt, q, h1.bw hb, h2.kp (Kp.of_bw hb), h3⟩, h.i, h.o, h.n⟩
theorem RdM.lt {w : World} {r : Nat} {T : List ATok} {o : Int} {s : DS} (h : RdM w r T o s) : r < w.heap.size := by
  obtain ⟨vt, q, h1, h2, h3⟩ := h.b
  exact h1.lt

theorem str_dec (a b : ByteArray) : (a.toList == b.toList) = decide (a = b) := by
  by_cases h : a = b
  · subst h; simp
  · rw [decide_eq_false h]; exact str_ne h

section
variable {w w' : World} {r : Nat} {T : List ATok} {o : Int} {s : DS}

set_option maxRecDepth 100000 in
set_option maxHeartbeats 4000000 in
theorem dat_any (h : RdM w r T o s) : Calls Tryd.prog 27 #[.pointer (some ⟨r, 0, none⟩)] w fun e w' => e = .returned (.int .i64 (dAt T s)) ∧ Bw w w' := by
  obtain ⟨g, c, q, x⟩ := h.x
  have z := x.b.cell
  have zl := x.b.lt
  have gl := x.gl
  have c3 := x.c3 s.i h.i
  have l1 := x.l
  have hi1 : (0 : Int) ≤ (s.i : Int) := by omega
  have hi2 : (s.i : Int) < (T.length : Int) := by have := h.i; omega
  unfold dAt
  clear h x
  generalize dtk T s.i = t at c3 ⊢
  go_enter Tryd.func27, Tryd.ntmps27
  go_upto_region 1 with fail
  go_region
  all_goals go_wp2
  all_goals go_ret
  all_goals exact ⟨rfl, by repeat (first | exact Bw.refl _ | apply Bw.alloc | apply Bw.drewN | apply Bw.drew)⟩

end

end Go.Proofs.YtekkjpecdflajaaDoor

set_option linter.unusedSimpArgs false
set_option linter.unusedVariables false
namespace Go.Proofs.YtekkjpecdflajaaDoor
open Go Go.RowKit

/-- What comes of a reader's call: how it stands then; nothing else has turned. -/
def RG (w : World) (r : Nat) (T : List ATok) (o : Int) (s' : DS) (w' : World) : Prop := RdM w' r T o s' ∧ Kp r w w'

theorem dIs_ne {T : List ATok} {s : DS} {t : ByteArray} (h : dIs T s t = true) : s.e = 0 ∧ (dtk T s.i).1 ≠ 0 := by
  unfold dIs at h
  simp only [Bool.and_eq_true, Bool.or_eq_true, decide_eq_true_eq] at h
  exact ⟨h.1.1, by omega⟩

section
variable {w w' : World} {r : Nat} {T : List ATok} {o : Int} {s : DS}

set_option maxRecDepth 100000 in
set_option maxHeartbeats 4000000 in
theorem dis_any (t : ByteArray) (h : RdM w r T o s) : Calls Tryd.prog 28 #[.pointer (some ⟨r, 0, none⟩), .string t] w fun e w' => e = .returned (.bool (dIs T s t)) ∧ Bw w w' := by
  obtain ⟨g, c, q, x⟩ := h.x
  have z := x.b.cell
  have zl := x.b.lt
  have gl := x.gl
  have c0 := x.c0 s.i h.i
  have c1 := x.c1 s.i h.i
  have c2 := x.c2 s.i h.i
  have c3 := x.c3 s.i h.i
  have l1 := x.l
  have hi1 : (0 : Int) ≤ (s.i : Int) := by omega
  have hi2 : (s.i : Int) < (T.length : Int) := by have := h.i; omega
  have HD := hid (show dIs T s t = (decide (s.e = 0) && (decide ((dtk T s.i).1 = 2) || decide ((dtk T s.i).1 = 5)) && decide (strOfNums (dtk T s.i).2.1 = t)) from rfl)
  generalize dIs T s t = d at HD ⊢
  clear h x
  generalize dtk T s.i = k at c0 c1 c2 c3 HD
  obtain ⟨k0, k1, k2, k3⟩ := k
  simp only at c0 c1 c2 c3 HD
  generalize strOfNums k1 = u at c1 HD
  go_enter Tryd.func28, Tryd.ntmps28
  go_upto_region 1 with fail
  go_region
  all_goals go_wp2
  all_goals go_ret
  all_goals refine ⟨ret_bool ?_, by repeat (first | exact Bw.refl _ | apply Bw.alloc | apply Bw.drewN | apply Bw.drew)⟩
  all_goals rw [HD.out]
  all_goals simp [str_dec, *]

theorem RdM.nx (h : RdM w r T o s) (he : s.e = 0) (hk : (dtk T s.i).1 ≠ 0) : RdM (w.setCell ⟨r, 1, none⟩ (.int .i64 ((s.i + 1 : Nat) : Int))) r T o (dNx s) := by
  obtain ⟨g, c, q, x⟩ := h.x
  refine h.kp ((Kp.refl r w).set 1 _) (vt := .slice (some ⟨g, 0, none⟩) T.length c) (q := q) ?_ x.t (h.n s.i h.i hk) (fun _ => ⟨x.q he, h.o he⟩)
  exact x.b.set 1 _

set_option maxRecDepth 100000 in
set_option maxHeartbeats 4000000 in
theorem deat_any (t : ByteArray) (h : RdM w r T o s) : Calls Tryd.prog 33 #[.pointer (some ⟨r, 0, none⟩), .string t] w fun e w' => e = .returned (.bool (dIs T s t)) ∧ RG w r T o (dEat T s t) w' := by
  have HR := hid h
  have HI := hid (dis_any t h)
  unfold dEat
  cases hd : dIs T s t
  · rw [hd] at HI
    rw [if_neg (by decide)]
    clear h
    go_enter Tryd.func33, Tryd.ntmps33
    go_wp2_with (first
      | (go_at_call 28; refine HI.out.mono ?_; rintro e w1 ⟨rfl, hb1⟩; have B1 := hid hb1; clear hb1)
      | fail)
    all_goals go_ret
    all_goals exact ⟨rfl, HR.out.bw B1.out, Kp.of_bw B1.out⟩
  · rw [hd] at HI
    rw [if_pos rfl]
    have HN := hid (dIs_ne hd)
    have hi2 : (s.i : Int) ≤ 100000 := by have := h.i; obtain ⟨g, c, q, x⟩ := h.x; have := x.l; omega
    clear h hd
    go_enter Tryd.func33, Tryd.ntmps33
    go_wp2_with (first
      | (go_at_call 28; refine HI.out.mono ?_; rintro e w1 ⟨rfl, hb1⟩; have B1 := hid hb1; have R1 := hid (HR.out.bw hb1); (obtain ⟨g, c, q, x⟩ := R1.out.x); have z : w1.cell? ⟨r, 1, none⟩ = some (.int .i64 s.i) := x.b.cell 1; have zf := x.b.free 1; have zl := x.b.lt; clear hb1 x)
      | fail)
    all_goals go_ret
    all_goals exact ⟨rfl, R1.out.nx HN.out.1 HN.out.2, (Kp.of_bw B1.out).set 1 _⟩

end

end Go.Proofs.YtekkjpecdflajaaDoor

set_option linter.unusedSimpArgs false
set_option linter.unusedVariables false
namespace Go.Proofs.YtekkjpecdflajaaDoor
open Go Go.RowKit

theorem run_append_row {P : Program} (w : World) (t ty e : TypeId) (i : TypeInfo) (z : Value) (size bytes : Nat) (ht : P.underlying t = some (.slice e)) (hi : P.info? e = some i) (hz : i.zero = some z)
    (hsize : i.size = size) (hby : i.bytes = bytes) (hzs : z.cells.size = size) (hsz : 0 < size)
    (v : Value) (n : Nat) (xs : List Value) (hown : w.ownsRow 0 e size v n xs)
    (ad : Addr) (m c : Nat) (news : List Value) (hl : news.length = m * size) (hnews : ∀ j u, news[j]? = some u → w.cell? (ad.add j) = some u) (h1 : ∀ u ∈ news, u.oneCell' = true)
    (h63 : n + m ≤ maxLen) (hbytes : (n + m) * bytes ≤ 140737488355328) :
    ∃ v' w', (Builtin.append_ #[t, t] ty #[v, .slice (some ad) m c]).run P w = .ok v' w' ∧ w'.ownsRow 0 e size v' (n + m) (xs ++ news) ∧ w.grownBy w' v.ownBlock ∧
      (v'.ownBlock = v.ownBlock ∨ ∀ k, v'.ownBlock = some k → w.heap.size ≤ k) := by
  have hown' := hown
  rcases hown'.2 with ⟨rfl, rfl⟩ | ⟨g, cap, cur, rfl, hb, hg, hnc, hm, hs, htake⟩
  · have hx : xs = [] := List.eq_nil_of_length_eq_zero (by simpa using hown.1)
    subst hx
    obtain ⟨v', w', hrun, r1, r2, _⟩ := run_append_own (P := P) w w.heap.size t ty e i z size bytes ht hi hz hsize hby hzs hsz (.slice none 0 0) 0 [] (World.ownsRow_nil w _ e size) ad m c news hl hnews h1 h63 hbytes (Nat.le_refl _)
    exact ⟨v', w', hrun, own_base r1 (Nat.zero_le _), r2, .inr (fun k hk => (r1.lt k hk).1)⟩
  · by_cases hroom : n + m ≤ cap
    · obtain ⟨w', hrun, r1, r2⟩ := run_append_fits (P := P) w 0 t ty e i size ht hi hsize g n cap xs hown ad m c news hl hnews h1 hroom
      exact ⟨_, w', hrun, r1, r2, .inl rfl⟩
    · obtain ⟨v', w', hrun, r1, r2⟩ := run_append_arg_grows (P := P) w t ty e i z size bytes ht hi hz hsize hby hzs hsz ⟨g, 0, none⟩ n cap xs hown.1 (hown.cells rfl) ad m c news hl hnews (by omega) h63 hbytes
      exact ⟨v', w', hrun, own_base r1 (Nat.zero_le _), ⟨r2.os, r2.tape, r2.output, r2.size, fun k hk _ => r2.block k hk (by simp)⟩, .inr (fun k hk => (r1.lt k hk).1)⟩

theorem step_append_row {P : Program} {ops : Array Oper} {o : Oper} {a : Act} {w : World} {K : Act → World → Prop} {Q : Exit → Act → World → Prop} {E : Prop}
    (hgd : o.guard = none) (s x : Operand) (t : TypeId) (ho : o.op = Op.call { callee := Callee.builtin Builtin.append, args := #[s, x], argTypes := #[t, t] })
    (e : TypeId) (i : TypeInfo) (z : Value) (size bytes : Nat) (ht : P.underlying t = some (.slice e)) (hi : P.info? e = some i) (hz : i.zero = some z)
    (hsize : i.size = size) (hby : i.bytes = bytes) (hzs : z.cells.size = size) (hsz : 0 < size)
    (v : Value) (n : Nat) (xs : List Value) (hs : a.eval s = v) (hown : w.ownsRow 0 e size v n xs)
    (ad : Addr) (m c : Nat) (news : List Value) (hx : a.eval x = .slice (some ad) m c) (hl : news.length = m * size) (hnews : ∀ j u, news[j]? = some u → w.cell? (ad.add j) = some u) (h1 : ∀ u ∈ news, u.oneCell' = true)
    (h63 : n + m ≤ maxLen) (hbytes : (n + m) * bytes ≤ 140737488355328)
    (h : ∀ v' w', w'.ownsRow 0 e size v' (n + m) (xs ++ news) → w.grownBy w' v.ownBlock → (v'.ownBlock = v.ownBlock ∨ ∀ k, v'.ownBlock = some k → w.heap.size ≤ k) → K (a.put o.dst v') w') :
    if Region.wanted o (yielded ops a.tmps) = true then Oper.wp P o a w K Q else E := by
  have hw : Region.wanted o (yielded ops a.tmps) = true := by simp [Region.wanted, hgd]
  rw [if_pos hw]
  obtain ⟨v', w', hr, h2, h3, h4⟩ := run_append_row (P := P) w t o.type e i z size bytes ht hi hz hsize hby hzs hsz v n xs hown ad m c news hl hnews h1 h63 hbytes
  unfold Oper.wp execOp
  simp only [ho, resolve, invoke, builtin, Sem.run_bind, Sem.run_pure, Result.andThen_ok, List.map_toArray, List.map_cons, List.map_nil, hs, hx, hr]
  exact h v' w' h2 h3 h4

theorem wpList_append_row {P : Program} (w : World) {ops : Array Oper} {rest : List Oper} {o : Oper} {a : Act} {Q : Exit → Act → World → Prop}
    (hgd : o.guard = none) (s x : Operand) (t : TypeId) (ho : o.op = Op.call { callee := Callee.builtin Builtin.append, args := #[s, x], argTypes := #[t, t] })
    (e : TypeId) (i : TypeInfo) (z : Value) (size bytes : Nat) (ht : P.underlying t = some (.slice e)) (hi : P.info? e = some i) (hz : i.zero = some z)
    (hsize : i.size = size) (hby : i.bytes = bytes) (hzs : z.cells.size = size) (hsz : 0 < size)
    (v : Value) (n : Nat) (xs : List Value) (hs : a.eval s = v) (hown : w.ownsRow 0 e size v n xs)
    (ad : Addr) (m c : Nat) (news : List Value) (hx : a.eval x = .slice (some ad) m c) (hl : news.length = m * size) (hnews : ∀ j u, news[j]? = some u → w.cell? (ad.add j) = some u) (h1 : ∀ u ∈ news, u.oneCell' = true)
    (h63 : n + m ≤ maxLen) (hbytes : (n + m) * bytes ≤ 140737488355328)
    (h : ∀ v' w', w'.ownsRow 0 e size v' (n + m) (xs ++ news) → w.grownBy w' v.ownBlock → (v'.ownBlock = v.ownBlock ∨ ∀ k, v'.ownBlock = some k → w.heap.size ≤ k) → wpList P ops Q rest (a.put o.dst v') w') :
    wpList P ops Q (o :: rest) a w := by
  refine wpList_plain hgd fun K hK' => ?_
  obtain ⟨v', w', hrun, r1, r2, r3⟩ := run_append_row (P := P) w t o.type e i z size bytes ht hi hz hsize hby hzs hsz v n xs hown ad m c news hl hnews h1 h63 hbytes
  unfold Oper.wp
  simp [execOp, ho, resolve, invoke, builtin, hs, hx, hrun, Result.andThen]
  exact hK' _ _ (h v' w' r1 r2 r3)

theorem sl_own {w : World} {base : Nat} {e : TypeId} {v : Value} {n : Nat} {xs : List Value} (h : w.ownsRow base e 1 v n xs) : Sl w (fun _ => True) v n 1 xs := by
  refine ⟨h.1, ?_⟩
  rcases h.2 with ⟨rfl, rfl⟩ | ⟨g, cap, cur, rfl, h1, h3, h4, h5, h6, h7⟩
  · exact ⟨none, 0, rfl, ⟨Nat.le_refl _, fun _ => rfl⟩, .inl rfl⟩
  · refine ⟨_, cap, rfl, ⟨h4, fun e => by cases e⟩, .inr ⟨g, 0, rfl, (Array.getElem?_eq_some_iff.1 h3).1, trivial, fun i hi => ?_⟩⟩
    rw [Nat.zero_add, cell_of_row w g i cur _ (0, 0) h3, ← h7, List.getElem?_take, if_pos hi]
    simp

end Go.Proofs.YtekkjpecdflajaaDoor

