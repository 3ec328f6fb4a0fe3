/- The resolver as plain data: what it makes of a program, step by step; none: more steps are wanted, or a number is beyond what is reckoned with. Nothing of the program's functions is in it. · The resolver in memory: its block, rows, maps; each block has a role; what may change. · The tree of a list that is a program: plain data. Nothing of the program's functions is in it. · What the resolver keeps while it goes over a tree, and that it always goes on: plain data; small steps. -/
import Derived.Test.YtdhkcdehedbpcaaDoorM5
import Derived.Test.YtdhkcdehedbpcaaDoorM12
import Derived.OneCell
import Derived.Test.YtdhkcdehedbpcaaDoorM7
set_option linter.unusedSimpArgs false
set_option linter.unusedVariables false
namespace Go.Proofs.YtdhkcdehedbpcaaDoor
open Go Go.RowKit

structure ZF where
 node : Int
 params : Int
 slots : Int
 caps : List (Int × Int)
 about : Nat
 cm : Int → Option Int
deriving Inhabited
structure ZD where
 fn : Nat
 slot : Int
 taken : Bool
deriving Inhabited
structure ZS where
 names : Option (ByteArray → Option Int)
 fn : Nat
 loops : Int
 next : Nat
 funs : List ZF
 uses : List (Int × Int)
 globals : List ByteArray
 declared : List ZD
 seen : ByteArray → Option Int
 fault : Int
 faulty : Nat
 cnt : Nat
 nc : Nat
deriving Inhabited

inductive ZQ where
 | parts (due : Int)
 | block (i : Nat)
 | var (i : Nat)
 | loop
 | att (i : Nat)
 | named (i : Nat)
 | func (i : Nat)

def mputI (M : Int → Option Int) (s : Int) (x : Int) : Int → Option Int := fun u => if u = s then some x else M u

section
variable (L : List ANode) (A : ByteArray → Option Int)

def zN (i : Nat) : ANode := L.getD i (0, 0, [], 0, 0)
def zT (i : Nat) : ByteArray := strOfNums (zN L i).2.2.1
def zfail (z : ZS) (i : Nat) (e : Int) : ZS := if z.fault = 0 then { z with fault := e, faulty := i } else z
def zuse (z : ZS) (i : Nat) (u : Int × Int) : ZS := { z with uses := z.uses.set i u }

def zglobal (z : ZS) (i : Nat) : ZS :=
 if (A (zT L i)).getD 0 < z.globals.length then zfail z i 80 else if z.globals.length = 1024 then zfail z i 3
 else zuse { z with globals := z.globals ++ [zT L i] } i (4, z.globals.length)
def zslot (z : ZS) (m : ByteArray → Option Int) (i : Nat) : Option ZS :=
 match z.funs[z.fn]? with
 | none => none
 | some f =>
  if (m (zT L i)).isSome then some (zfail z i 80) else if f.slots = 256 then some (zfail z i 3)
  else if z.declared.length < 100000 then some { z with uses := z.uses.set i (1, z.declared.length), declared := z.declared ++ [⟨z.fn, f.slots, false⟩], funs := z.funs.set z.fn { f with slots := f.slots + 1 } } else none
def zdeclare (z : ZS) (i : Nat) : Option ZS :=
 if i < L.length then (if (primF (zT L i)).isSome then some (zfail z i 8) else match z.names with | none => some (zglobal L A z i) | some m => zslot L z m i) else none
def zshow (z : ZS) (i : Nat) : Option ZS :=
 match z.uses[i]? with
 | none => none
 | some u => if u.1 ≠ 1 then some z else match z.names with
  | none => none
  | some m => if (z.cnt < 100000 ∧ z.nc < 100000) ∧ 0 ≤ u.2 ∧ u.2 ≤ 100000 then some { z with names := some (mput m (zT L i) ((z.seen (zT L i)).getD (-1))), seen := mput z.seen (zT L i) u.2, cnt := z.cnt + 1, nc := z.nc + 1 } else none

def ztake : Nat → ZS → Nat → Nat → Nat → Option (Int × ZS)
 | 0, _, _, _, _ => none
 | t + 1, z, i, g, d =>
  match z.funs[g]?, z.declared[d]? with
  | some f, some e =>
   (match f.cm d with
   | some k => some (k, z)
   | none =>
    if g = 0 then none
    else (if f.about = e.fn then some ((1, e.slot), z) else (ztake t z i f.about d).map fun r => ((0, r.1), r.2)).bind fun r =>
     match r.2.funs[g]? with
     | none => none
     | some h =>
      if h.caps.length = 256 then some (0, zfail r.2 i 3)
      else some (h.caps.length, { r.2 with funs := r.2.funs.set g { h with caps := h.caps ++ [r.1], cm := mputI h.cm d h.caps.length } }))
  | _, _ => none
def zmeans (z : ZS) (i : Nat) (d : Int) : Option ZS :=
 if d < 0 then none else
 match z.declared[d.toNat]? with
 | none => none
 | some e =>
  if e.fn = z.fn then some (zuse z i (1, d))
  else (ztake (z.funs.length + 1) { z with declared := z.declared.set d.toNat { e with taken := true } } i z.fn d.toNat).map fun r => zuse r.2 i (3, r.1)
def zname (z : ZS) (i : Nat) : Option ZS :=
 match z.seen (zT L i) with
 | some d => zmeans z i d
 | none => match A (zT L i) with
  | some n => some (zuse z i (4, n))
  | none => match primF (zT L i) with
   | some n => some (zuse z i (5, n))
   | none => some (zfail z i 4)
def zset (z : ZS) (i : Nat) : Option ZS :=
 if i + 1 < L.length then (if (zN L (i + 1)).1 = 19 ∧ (primF (zT L (i + 1))).isSome then some (zfail z i 8) else some z) else none
def zplain (z : ZS) (i : Nat) : Option ZS :=
 if (zN L i).1 = 4 then zset L z i
 else if (zN L i).1 = 7 ∨ (zN L i).1 = 8 then (if z.loops = 0 then some (zfail z i 6) else some z)
 else if (zN L i).1 = 9 then (if z.fn = 0 then some (zfail z i 6) else some z)
 else if (zN L i).1 = 19 then zname L A z i else some z

def zenter (z : ZS) (g : Nat) (n : Int) : ZS := { z with names := some fun _ => none, fn := g, loops := n, nc := 0 }
def unhide (m seen : ByteArray → Option Int) : ByteArray → Option Int := fun s => match m s with | none => seen s | some h => if h = -1 then none else some h
def zleave (z b : ZS) : Option ZS :=
 match z.names with
 | none => none
 | some m => if z.cnt + z.nc ≤ 100000 then some { z with names := b.names, fn := b.fn, loops := b.loops, nc := b.nc, cnt := z.cnt + z.nc, seen := unhide m z.seen } else none
def zparam : Nat → ZS → Option ZS
 | 0, z => some z
 | n + 1, z => (zdeclare L A z z.next).bind fun y => (zshow L y z.next).bind fun v => zparam n { v with next := z.next + 1 }
def zopen (z : ZS) (i : Nat) : ZS := zenter { z with funs := z.funs ++ [⟨i, (zN L i).2.2.2.1, 0, [], z.fn, fun _ => none⟩] } z.funs.length 0

def zR : Nat → ZQ → ZS → Option ZS
 | 0, _, _ => none
 | t + 1, q, z => match q with
  | .parts due =>
   if 0 < due ∧ z.fault = 0 then
    (if due ≤ 1000000 ∧ z.next < L.length then
     (if (zN L z.next).1 = 2 then (zR t (.block z.next) { z with next := z.next + 1 }).bind fun v => zR t (.parts (due - 1)) v
     else if (zN L z.next).1 = 3 then (zR t (.var z.next) { z with next := z.next + 1 }).bind fun v => zR t (.parts (due - 1)) v
     else if (zN L z.next).1 = 6 then (zR t .loop { z with next := z.next + 1 }).bind fun v => zR t (.parts (due - 1)) v
     else if (zN L z.next).1 = 11 then (zR t (.att z.next) { z with next := z.next + 1 }).bind fun v => zR t (.parts (due - 1)) v
     else if (zN L z.next).1 = 12 then (zR t (.named z.next) { z with next := z.next + 1 }).bind fun v => zR t (.parts (due - 1)) v
     else if (zN L z.next).1 = 31 then (zR t (.func z.next) { z with next := z.next + 1 }).bind fun v => zR t (.parts (due - 1)) v
     else if 0 ≤ (zN L z.next).2.1 ∧ (zN L z.next).2.1 ≤ 1000000 then (zplain L A { z with next := z.next + 1 } z.next).bind fun v => zR t (.parts (due + (zN L z.next).2.1 - 1)) v
     else none)
    else none)
   else some z
  | .block i => if i < L.length then (zR t (.parts (zN L i).2.1) (zenter z z.fn z.loops)).bind fun v => zleave v z else none
  | .var i => (zdeclare L A z i).bind fun y => (zR t (.parts 1) y).bind fun v => zshow L v i
  | .loop => (zR t (.parts 1) z).bind fun v => if 0 ≤ v.loops ∧ v.loops < 100000 then (zR t (.parts 1) { v with loops := v.loops + 1 }).bind fun x => if 1 ≤ x.loops ∧ x.loops ≤ 100000 then some { x with loops := x.loops - 1 } else none else none
  | .att i => (zdeclare L A (zenter z z.fn z.loops) i).bind fun y => (zR t (.parts 1) y).bind fun v => (zshow L v i).bind fun x => (zR t (.parts 1) x).bind fun u => zleave u z
  | .named i => (zdeclare L A z i).bind fun y => (zshow L y i).bind fun v => zR t (.func i) v
  | .func i =>
   if z.funs.length = 1024 then some (zfail z i 3)
   else if (i < L.length ∧ 0 < z.funs.length) ∧ 0 ≤ (zN L i).2.2.2.1 ∧ (zN L i).2.2.2.1 ≤ 100000 then
    (zparam L A (zN L i).2.2.2.1.toNat (zopen L z i)).bind fun y => (zR t (.parts 1) y).bind fun v => zleave v z
   else none

def zstart : ZS := ⟨none, 0, 0, 1, [⟨0, 0, 0, [], 0, fun _ => none⟩], List.replicate L.length (0, 0), [], [], fun _ => none, 0, 0, 0, 0⟩
def zend (z : ZS) (u : Int × Int) : Int × Int := if u.1 = 1 then (let e := z.declared.getD u.2.toNat default; (if e.taken then (2, e.slot) else (1, e.slot))) else u
def zfit (z : ZS) (u : Int × Int) : Bool := u.1 != 1 || (decide (0 ≤ u.2) && decide (u.2 < z.declared.length))
end

end Go.Proofs.YtdhkcdehedbpcaaDoor

namespace Go.Proofs.YtdhkcdehedbpcaaDoor
open Go Go.RowKit

theorem key3 : Maps.Keyed Tryd.prog 3 := Maps.int_keyed int3
theorem key_int {s : Int} (hs : (Lit.int .i64 s).wf = true) : keyOf Tryd.prog 3 (.int .i64 s) = some (.int .i64 s) := Maps.keyOf_int_mk int3 hs
theorem is_keyI (s : Int) : WideAt.IsKeyLit (.int .i64 s) := by simp [WideAt.IsKeyLit]
theorem litI_ne {s u : Int} (h : u ≠ s) : (Lit.int .i64 u) ≠ .int .i64 s := by
 intro e
 injection e with _ e
 exact h e

structure SiD (D : DataW Unit) (M : Int → Option Int) : Prop where
 tidy : Maps.Tidy D
 has : ∀ s : Int, Maps.has D (.int .i64 s) = (M s).isSome
 at_ : ∀ (s : Int) (x : Int), M s = some x → D.atKey (.int .i64 s) (.lit (.int .i64 0)) = .lit (.int .i64 x)

theorem SiD.nil : SiD (.map []) (fun _ => none) := ⟨Maps.tidy_empty, fun s => by simp [Maps.has], fun s x h => by cases h⟩
theorem SiD.put {D : DataW Unit} {M : Int → Option Int} (h : SiD D M) (s : Int) (x : Int) : SiD (D.put (.int .i64 s) (.lit (.int .i64 x))) (mputI M s x) where
 tidy := h.tidy.put (is_keyI s) _
 has := fun u => by
  unfold mputI
  by_cases hu : u = s
  ·subst hu
   rw [Maps.has_put_same h.tidy.isMap (is_keyI u), if_pos rfl]; rfl
  ·rw [Maps.has_put_other (litI_ne hu), h.has u, if_neg hu]
 at_ := fun u y hy => by
  unfold mputI at hy
  by_cases hu : u = s
  ·subst hu
   rw [if_pos rfl] at hy
   cases hy
   rw [Maps.atKey_put_same h.tidy.isMap (is_keyI u)]
  ·rw [if_neg hu] at hy
   rw [Maps.atKey_put_other (litI_ne hu)]
   exact h.at_ u y hy

def MI (w : World) (b : Nat) (M : Int → Option Int) (n : Nat) : Prop := ∃ D, w.ownsMap Tryd.prog 3 (plainElem (H := Unit) Tryd.prog 3) b n D ∧ SiD D M
theorem MI.lt {w : World} {b n : Nat} {M : Int → Option Int} (h : MI w b M n) : b < w.heap.size := by
 obtain ⟨D, h1, _⟩ := h
 exact h1.lt
theorem MI.keep {w w' : World} {b n : Nat} {M : Int → Option Int} (h : MI w b M n) (hb : w'.heap[b]? = w.heap[b]?) : MI w' b M n := by
 obtain ⟨D, h1, h2⟩ := h
 obtain ⟨es, clock, hm, r⟩ := h1
 exact ⟨D, ⟨es, clock, hb.trans hm, r⟩, h2⟩
theorem MI.new (w : World) : MI (w.alloc (.map #[] 0)) w.heap.size (fun _ => none) 0 := ⟨.map [], World.ownsMap_made w _ _ _, SiD.nil⟩

theorem own_keep8 {w w' : World} {base : Nat} {e : TypeId} {size : Nat} {v : Value} {n : Nat} {xs : List Value} (h : w.ownsRow base e size v n xs) (hb : ∀ b, v.ownBlock = some b → w'.heap[b]? = w.heap[b]?) : w'.ownsRow base e size v n xs := by
 refine ⟨h.1, ?_⟩
 rcases h.2 with h1 | ⟨g, cap, cur, e1, hbb, hg, r⟩
 ·exact .inl h1
 ·subst e1
  exact .inr ⟨g, cap, cur, rfl, hbb, (hb g rfl).trans hg, r⟩
theorem own_setIn {w : World} {base : Nat} {e : TypeId} {size g n cap : Nat} {xs : List Value} (h : w.ownsRow base e size (.slice (some ⟨g, 0, none⟩) n cap) n xs) {j : Nat} (hj : j < n * size) (u : Value) :
  (w.setCell ⟨g, j, none⟩ u).ownsRow base e size (.slice (some ⟨g, 0, none⟩) n cap) n (xs.set j u) := by
 refine ⟨by rw [List.length_set]; exact h.1, .inr ?_⟩
 rcases h.2 with ⟨h1, _⟩ | ⟨g', cap', cur, e1, hbb, hg, h1, h2, h3, h4⟩
 ·cases h1
 ·cases e1
  refine ⟨g, cap, cur.setIfInBounds j u, rfl, hbb, Blk.set (w := w) (show Blk w g cur e from hg) j u, h1, h2, by simpa using h3, ?_⟩
  rw [Array.toList_setIfInBounds, ← h4, List.take_set]
theorem own_some {w : World} {e : TypeId} {size : Nat} {v : Value} {n : Nat} {xs : List Value} (h : w.ownsRow 0 e size v n xs) (hn : 0 < n) : ∃ g cap, v = .slice (some ⟨g, 0, none⟩) n cap ∧ g < w.heap.size ∧ (∀ j, w.frozen? ⟨g, j, none⟩ = false) ∧ ∀ j, j < n * size → w.cell? ⟨g, j, none⟩ = xs[j]? := by
 rcases h.2 with ⟨_, h1⟩ | ⟨g, cap, cur, rfl, hbb, hg, h1, h2, h3, h4⟩
 ·omega
 ·have hb : Blk w g cur e := hg
  refine ⟨g, cap, rfl, hb.lt, hb.free, fun j hj => ?_⟩
  rw [hb.cell, ← h4, List.getElem?_take, if_pos hj]
  simp
theorem NC.keep {w w' : World} {g o : Nat} {L : List ANode} (h : NC w g o L) (hs : w.heap.size ≤ w'.heap.size) (hb : w'.heap[g]? = w.heap[g]?) : NC w' g o L := by
 refine ⟨Nat.lt_of_lt_of_le h.lt hs, fun i hi j hj => ?_, h.b⟩
 rw [← h.c i hi j hj]
 exact World.cell?_of_block (w := w) (w' := w') (a := ⟨g, o + i * 5 + j, none⟩) hb
theorem PrM.keep {w w' : World} (h : PrM w) (hs : w.heap.size ≤ w'.heap.size) (hb : w'.heap[0]? = w.heap[0]?) : PrM w' := by
 refine ⟨Nat.lt_of_lt_of_le h.1 hs, fun i s hi => ?_⟩
 rw [← h.2 i s hi]
 exact World.cell?_of_block (w := w) (w' := w') (a := ⟨0, i, none⟩) hb

structure FK where
 f : ZF
 cv : Value
 mv : Value
def fkC (k : FK) : List Value := [.int .i64 k.f.node, .int .i64 k.f.params, .int .i64 k.f.slots, k.cv, .int .i64 k.f.about, k.mv]
def rowK (K : List FK) : List Value := K.flatMap fkC
def zdC (d : ZD) : List Value := [.int .i64 d.fn, .int .i64 d.slot, .bool d.taken]
def rowD (l : List ZD) : List Value := l.flatMap zdC
def prC (u : Int × Int) : List Value := [.int .i64 u.1, .int .i64 u.2]
def rowP (l : List (Int × Int)) : List Value := l.flatMap prC

theorem flat_get8 {α : Type} (f : α → List Value) (s : Nat) (hf : ∀ a, (f a).length = s) : ∀ (l : List α) (i j : Nat) (a : α), l[i]? = some a → j < s → (l.flatMap f)[i * s + j]? = (f a)[j]?
 | [], i, j, a, h, _ => by simp at h
 | b :: l, 0, j, a, h, hj => by
  simp at h
  subst h
  rw [List.flatMap_cons, Nat.zero_mul, Nat.zero_add, List.getElem?_append_left (by rw [hf]; exact hj)]
 | b :: l, i + 1, j, a, h, hj => by
  simp at h
  rw [List.flatMap_cons, List.getElem?_append_right (by rw [hf, Nat.succ_mul]; omega), hf, show (i + 1) * s + j - s = i * s + j by rw [Nat.succ_mul]; omega]
  exact flat_get8 f s hf l i j a h hj
theorem flat_set1 {α : Type} (f : α → List Value) (s : Nat) (hf : ∀ a, (f a).length = s) (j : Nat) (hj : j < s) (v : Value) : ∀ (l : List α) (i : Nat) (a b : α), l[i]? = some a → f b = (f a).set j v → (l.set i b).flatMap f = (l.flatMap f).set (i * s + j) v
 | [], i, a, b, h, _ => by simp at h
 | c :: l, 0, a, b, h, hb => by
  simp at h
  subst h
  rw [List.set_cons_zero, List.flatMap_cons, List.flatMap_cons, hb, Nat.zero_mul, Nat.zero_add, List.set_append_left _ _ (by rw [hf]; exact hj)]
 | c :: l, i + 1, a, b, h, hb => by
  simp at h
  rw [List.set_cons_succ, List.flatMap_cons, List.flatMap_cons, flat_set1 f s hf j hj v l i a b h hb, List.set_append_right _ _ (by rw [hf, Nat.succ_mul]; omega), hf, show (i + 1) * s + j - s = i * s + j by rw [Nat.succ_mul]; omega]
theorem fkC_len (k : FK) : (fkC k).length = 6 := rfl
theorem zdC_len (k : ZD) : (zdC k).length = 3 := rfl
theorem prC_len (k : Int × Int) : (prC k).length = 2 := rfl

structure ZB where
 K : List FK
 fv : Value
 uv : Value
 gv : Value
 dv : Value
 sb : Nat
 nb : Nat
 ρ : Nat → Nat

structure ZX where
 r : Nat
 g : Nat
 o : Nat
 cap : Nat
 ab : Nat
 an : Nat
 L : List ANode
 A : ByteArray → Option Int

def nmO (names : Option (ByteArray → Option Int)) (nb : Nat) : Option Nat := names.map fun _ => nb
abbrev nmV (names : Option (ByteArray → Option Int)) (nb : Nat) : Value := .map (nmO names nb)
def zC (X : ZX) (z : ZS) (B : ZB) : Array Value := #[nmV z.names B.nb, .int .i64 z.fn, .int .i64 z.loops, .slice (some ⟨X.g, X.o, none⟩) X.L.length X.cap, .int .i64 z.next, B.fv, B.uv, B.gv, .map (some X.ab), B.dv, .map (some B.sb), .int .i64 z.fault, .int .i64 z.faulty]

structure RX (hole : Nat) (w : World) (X : ZX) (z : ZS) (B : ZB) : Prop where
 rr : B.ρ X.r = 1
 rl : X.r < w.heap.size
 funs : hole ≠ 2 → w.ownsRow 0 118 6 B.fv B.K.length (rowK B.K) ∧ ∀ b, B.fv.ownBlock = some b → B.ρ b = 2
 uses : hole ≠ 3 → w.ownsRow 0 57 2 B.uv z.uses.length (rowP z.uses) ∧ ∀ b, B.uv.ownBlock = some b → B.ρ b = 3
 globs : hole ≠ 4 → w.ownsRow 0 9 1 B.gv z.globals.length (z.globals.map Value.string) ∧ ∀ b, B.gv.ownBlock = some b → B.ρ b = 4
 decl : hole ≠ 5 → w.ownsRow 0 122 3 B.dv z.declared.length (rowD z.declared) ∧ ∀ b, B.dv.ownBlock = some b → B.ρ b = 5
 seen : hole ≠ 6 → MS w B.sb z.seen z.cnt ∧ B.ρ B.sb = 6
 nams : hole ≠ 7 → ∀ m, z.names = some m → MS w B.nb m z.nc ∧ B.ρ B.nb = 7
 caps : ∀ i k, B.K[i]? = some k → hole ≠ 8 + 2 * i → w.ownsRow 0 59 2 k.cv k.f.caps.length (rowP k.f.caps) ∧ ∀ b, k.cv.ownBlock = some b → B.ρ b = 8 + 2 * i
 map0 : ∀ k, B.K[0]? = some k → k.mv = .map none ∧ ∀ d, k.f.cm d = none
 maps : ∀ i k, B.K[i]? = some k → 0 < i → hole ≠ 9 + 2 * i → ∃ b, k.mv = .map (some b) ∧ MI w b k.f.cm k.f.caps.length ∧ B.ρ b = 9 + 2 * i
 nc : NC w X.g X.o X.L ∧ B.ρ X.g = 0
 ah : MS w X.ab X.A X.an ∧ B.ρ X.ab = 0
 pr : PrM w ∧ B.ρ 0 = 0
 top : ∀ b, w.heap.size ≤ b → B.ρ b = 0
 kf : B.K.map FK.f = z.funs
 ul : z.uses.length = X.L.length
 nl : z.next ≤ X.L.length
 ll : X.L.length ≤ 1000
 bd : z.funs.length ≤ 1024 ∧ z.globals.length ≤ 1024 ∧ z.declared.length ≤ 100000 ∧ z.cnt ≤ 100000 ∧ z.nc ≤ 100000
 bf : ∀ f ∈ z.funs, 0 ≤ f.slots ∧ f.slots ≤ 256 ∧ f.caps.length ≤ 256

structure RS (w : World) (X : ZX) (z : ZS) (B : ZB) : Prop where
 blk : Blk w X.r (zC X z B) 83
 x : RX 1 w X z B

structure NX (ρ : Nat → Nat) (w w' : World) (ρ' : Nat → Nat) : Prop where
 os : w'.os = w.os
 tape : w'.tape = w.tape
 output : w'.output = w.output
 size : w.heap.size ≤ w'.heap.size
 block : ∀ b, b < w.heap.size → ρ b = 0 → w'.heap[b]? = w.heap[b]?
 new : ∀ b, b < w.heap.size → ρ b = 0 → ρ' b = 0

theorem NX.refl (ρ : Nat → Nat) (w : World) : NX ρ w w ρ := ⟨rfl, rfl, rfl, Nat.le_refl _, fun _ _ _ => rfl, fun _ _ h => h⟩
theorem NX.trans {ρ ρ1 ρ2 : Nat → Nat} {a b c : World} (h : NX ρ a b ρ1) (k : NX ρ1 b c ρ2) : NX ρ a c ρ2 :=
 ⟨k.os.trans h.os, k.tape.trans h.tape, k.output.trans h.output, Nat.le_trans h.size k.size, fun x hx h0 => (k.block x (Nat.lt_of_lt_of_le hx h.size) (h.new x hx h0)).trans (h.block x hx h0), fun x hx h0 => k.new x (Nat.lt_of_lt_of_le hx h.size) (h.new x hx h0)⟩
theorem NX.of_bw (ρ : Nat → Nat) {w w' : World} (h : Bw w w') : NX ρ w w' ρ := ⟨h.os, h.tape, h.output, h.size, fun b hb _ => h.block b hb, fun _ _ h => h⟩
theorem NX.bw {ρ ρ1 : Nat → Nat} {a b c : World} (h : NX ρ a b ρ1) (k : Bw b c) : NX ρ a c ρ1 := h.trans (NX.of_bw ρ1 k)
theorem NX.set {ρ ρ1 : Nat → Nat} {a w : World} (h : NX ρ a w ρ1) {x : Nat} (hx : ρ1 x ≠ 0) (j : Nat) (v : Value) : NX ρ a (w.setCell ⟨x, j, none⟩ v) ρ1 :=
 h.trans ⟨rfl, rfl, rfl, by simp, fun b _ h0 => Below.heap_setCell w ⟨x, j, none⟩ v b (fun e => hx (by simp only at e; rw [← e]; exact h0)), fun _ _ h => h⟩

section
variable {w w' : World} {X : ZX} {z z' : ZS} {B B' : ZB} {k : Nat}

theorem RX.move (h : RX 1 w X z B) (hk1 : k ≠ 0) (hs : w.heap.size ≤ w'.heap.size) (hk : ∀ b, b < w.heap.size → B.ρ b ≠ k → w'.heap[b]? = w.heap[b]?) {ρ' : Nat → Nat} (hρ : ∀ b, b < w.heap.size → ρ' b = B.ρ b) (ht : ∀ b, w'.heap.size ≤ b → ρ' b = 0) : RX k w' X z { B with ρ := ρ' } := by
 have row : ∀ {j e size n : Nat} {v : Value} {xs : List Value}, w.ownsRow 0 e size v n xs ∧ (∀ b, v.ownBlock = some b → B.ρ b = j) → k ≠ j → w'.ownsRow 0 e size v n xs ∧ (∀ b, v.ownBlock = some b → ρ' b = j) := by
  intro j e size n v xs h1 hj
  exact ⟨own_keep8 h1.1 (fun b hb => hk b (h1.1.lt b hb).2 (by rw [h1.2 b hb]; exact Ne.symm hj)), fun b hb => (hρ b (h1.1.lt b hb).2).trans (h1.2 b hb)⟩
 refine ⟨(hρ _ h.rl).trans h.rr, Nat.lt_of_lt_of_le h.rl hs, fun e => row (h.funs (by decide)) e, fun e => row (h.uses (by decide)) e, fun e => row (h.globs (by decide)) e, fun e => row (h.decl (by decide)) e, ?_, ?_, fun i q hq e => row (h.caps i q hq (by omega)) e, h.map0, ?_, ?_, ?_, ?_, ht, h.kf, h.ul, h.nl, h.ll, h.bd, h.bf⟩
 ·intro e
  obtain ⟨h1, h2⟩ := h.seen (by decide)
  exact ⟨h1.keep (hk _ h1.lt (by rw [h2]; exact Ne.symm e)), (hρ _ h1.lt).trans h2⟩
 ·intro e m hm
  obtain ⟨h1, h2⟩ := h.nams (by decide) m hm
  exact ⟨h1.keep (hk _ h1.lt (by rw [h2]; exact Ne.symm e)), (hρ _ h1.lt).trans h2⟩
 ·intro i q hq hi e
  obtain ⟨b, h1, h2, h3⟩ := h.maps i q hq hi (by omega)
  exact ⟨b, h1, h2.keep (hk _ h2.lt (by rw [h3]; exact Ne.symm e)), (hρ _ h2.lt).trans h3⟩
 ·exact ⟨h.nc.1.keep hs (hk _ h.nc.1.lt (by rw [h.nc.2]; exact Ne.symm hk1)), (hρ _ h.nc.1.lt).trans h.nc.2⟩
 ·exact ⟨h.ah.1.keep (hk _ h.ah.1.lt (by rw [h.ah.2]; exact Ne.symm hk1)), (hρ _ h.ah.1.lt).trans h.ah.2⟩
 ·exact ⟨h.pr.1.keep hs (hk _ h.pr.1.1 (by rw [h.pr.2]; exact Ne.symm hk1)), (hρ _ h.pr.1.1).trans h.pr.2⟩

theorem RX.keep (h : RX 1 w X z B) (hs : w.heap.size ≤ w'.heap.size) (hk : ∀ b, b < w.heap.size → b ≠ X.r → w'.heap[b]? = w.heap[b]?) : RX 1 w' X z B :=
 h.move (k := 1) (by decide) hs (fun b hb hr => hk b hb (fun e => hr (e ▸ h.rr))) (fun _ _ => rfl) (fun b hb => h.top b (Nat.le_trans hs hb))
theorem RX.bw (h : RX 1 w X z B) (k : Bw w w') : RX 1 w' X z B := h.keep k.size (fun b hb _ => k.block b hb)
theorem RS.bw (h : RS w X z B) (k : Bw w w') : RS w' X z B := ⟨h.blk.bw k, h.x.bw k⟩
theorem RX.setR (h : RX 1 w X z B) (j : Nat) (v : Value) : RX 1 (w.setCell ⟨X.r, j, none⟩ v) X z B := h.keep (by simp) (fun b _ hb => Below.heap_setCell w _ v b hb)
theorem RX.nums (h : RX 1 w X z B) {next : Nat} (hn : next ≤ X.L.length) (fn : Nat) (loops fault : Int) (faulty : Nat) : RX 1 w X { z with next := next, fn := fn, loops := loops, fault := fault, faulty := faulty } B :=
 ⟨h.rr, h.rl, h.funs, h.uses, h.globs, h.decl, h.seen, h.nams, h.caps, h.map0, h.maps, h.nc, h.ah, h.pr, h.top, h.kf, h.ul, hn, h.ll, h.bd, h.bf⟩
theorem RS.rn (h : RS w X z B) : B.ρ X.r ≠ 0 := by rw [h.x.rr]; decide
end

def Zp (w : World) (X : ZX) (B : ZB) (z' : ZS) (w' : World) : Prop := ∃ B', RS w' X z' B' ∧ NX B.ρ w w' B'.ρ

end Go.Proofs.YtdhkcdehedbpcaaDoor

namespace Go.Proofs.YtdhkcdehedbpcaaDoor
open Go Go.RowKit

section
variable (L : List ANode)

def kb (g : Int → Nat → Option Nat) (n : ANode) : Nat → Int → Nat → Option Nat
 | 0, _, p => some p
 | k + 1, x, p => (g (stP n x) p).bind fun q => kb g n k (x + 1) q
def sb : Nat → Int → Nat → Option Nat
 | 0, _, _ => none
 | f + 1, a, i => if i < L.length ∧ ftP (zN L i).1 a = true ∧ wmP (zN L i) = true then kb (sb f) (zN L i) (zN L i).2.1.toNat 0 (i + 1) else none
def Tr (a : Int) (i j : Nat) : Prop := ∃ f, sb L f a i = some j
def Fo : List Int → Nat → Nat → Prop
 | [], p, q => p = q
 | a :: es, p, q => ∃ r, Tr L a p r ∧ Fo es r q
end
def kidsA (n : ANode) : Nat → Int → List Int
 | 0, _ => []
 | k + 1, x => stP n x :: kidsA n k (x + 1)
theorem kidsA_len (n : ANode) : ∀ (k : Nat) (x : Int), (kidsA n k x).length = k
 | 0, _ => rfl
 | k + 1, x => by simp [kidsA, kidsA_len n k (x + 1)]

section
variable {L : List ANode}
theorem kb_fo (f : Nat) (n : ANode) : ∀ (k : Nat) (x : Int) (p q : Nat), kb (sb L f) n k x p = some q → Fo L (kidsA n k x) p q
 | 0, x, p, q, h => by cases h; rfl
 | k + 1, x, p, q, h => by
  unfold kb at h
  obtain ⟨r, h1, h2⟩ := Option.bind_eq_some_iff.1 h
  exact ⟨r, ⟨f, h1⟩, kb_fo f n k (x + 1) r q h2⟩

theorem Tr.out {a : Int} {i j : Nat} (h : Tr L a i j) : i < L.length ∧ ftP (zN L i).1 a = true ∧ wmP (zN L i) = true ∧ Fo L (kidsA (zN L i) (zN L i).2.1.toNat 0) (i + 1) j := by
 obtain ⟨f, hf⟩ := h
 cases f with
 | zero => cases hf
 | succ f =>
  unfold sb at hf
  split at hf
  ·next c => exact ⟨c.1, c.2.1, c.2.2, kb_fo f _ _ _ _ _ hf⟩
  ·cases hf

theorem sb_le : ∀ (f : Nat) (a : Int) (i j : Nat), sb L f a i = some j → i < j ∧ j ≤ L.length
 | 0, a, i, j, h => by cases h
 | f + 1, a, i, j, h => by
  unfold sb at h
  split at h
  ·next c =>
   have key : ∀ (k : Nat) (x : Int) (p q : Nat), p ≤ L.length → kb (sb L f) (zN L i) k x p = some q → p ≤ q ∧ q ≤ L.length := by
    intro k
    induction k with
    | zero => intro x p q hp h; cases h; exact ⟨Nat.le_refl _, hp⟩
    | succ k ih =>
     intro x p q hp h
     unfold kb at h
     obtain ⟨r, h1, h2⟩ := Option.bind_eq_some_iff.1 h
     have h3 := sb_le f _ _ _ h1
     have h4 := ih _ _ _ h3.2 h2
     omega
   have := key _ _ _ _ (by omega) h
   omega
  ·cases h
theorem Tr.lt {a : Int} {i j : Nat} (h : Tr L a i j) : i < j ∧ j ≤ L.length := by obtain ⟨f, hf⟩ := h; exact sb_le f _ _ _ hf
theorem Fo.le : ∀ {es : List Int} {p q : Nat}, Fo L es p q → p + es.length ≤ q
 | [], p, q, h => by have : p = q := h; simp; omega
 | a :: es, p, q, h => by
  obtain ⟨r, h1, h2⟩ := h
  have := h1.lt
  have := h2.le
  simp; omega
theorem Fo.top : ∀ {es : List Int} {p q : Nat}, Fo L es p q → p ≤ L.length → q ≤ L.length
 | [], p, q, h, hp => by have : p = q := h; omega
 | a :: es, p, q, h, hp => by
  obtain ⟨r, h1, h2⟩ := h
  exact h2.top h1.lt.2
theorem Fo.app : ∀ {es bs : List Int} {p r q : Nat}, Fo L es p r → Fo L bs r q → Fo L (es ++ bs) p q
 | [], bs, p, r, q, h1, h2 => by have : p = r := h1; subst this; exact h2
 | a :: es, bs, p, r, q, h1, h2 => by
  obtain ⟨s, h3, h4⟩ := h1
  exact ⟨s, h3, h4.app h2⟩
theorem Fo.step {a : Int} {es : List Int} {p q : Nat} (h : Fo L (a :: es) p q) : p < L.length ∧ ftP (zN L p).1 a = true ∧ wmP (zN L p) = true ∧ Fo L (kidsA (zN L p) (zN L p).2.1.toNat 0 ++ es) (p + 1) q := by
 obtain ⟨r, h1, h2⟩ := h
 obtain ⟨e1, e2, e3, e4⟩ := h1.out
 exact ⟨e1, e2, e3, e4.app h2⟩
theorem Fo.one {a : Int} {p q : Nat} (h : Tr L a p q) : Fo L [a] p q := ⟨q, h, rfl⟩

theorem ckR_sb : ∀ (f : Nat) (i : Nat) (a : Int) (r : List ANode) (j : Nat), ckR f (L.drop i) i a = .ok r j → sb L f a i = some j ∧ r = L.drop j
 | 0, i, a, r, j, h => by cases h
 | f + 1, i, a, r, j, h => by
  cases hd : L.drop i with
  | nil => rw [hd] at h; cases h
  | cons n t =>
   have hi : i < L.length := by
    rcases Nat.lt_or_ge i L.length with h1 | h1
    ·exact h1
    ·rw [List.drop_eq_nil_of_le h1] at hd; cases hd
   have hn : zN L i = n := by
    have := List.drop_eq_getElem_cons hi
    rw [hd] at this
    injection this with h1 h2
    unfold zN
    rw [List.getD_eq_getElem?_getD, List.getElem?_eq_getElem hi, h1]; rfl
   have ht : t = L.drop (i + 1) := by
    have := List.drop_eq_getElem_cons hi
    rw [hd] at this
    injection this
   rw [hd] at h
   unfold ckR at h
   split at h
   ·cases h
   split at h
   ·cases h
   next h1 h2 =>
   have h1 : ftP n.1 a = true := by simpa using h1
   have h2 : wmP n = true := by simpa using h2
   have key : ∀ (k : Nat) (x : Int) (p : Nat) (r : List ANode) (j : Nat), kd (ckR f) n k x (L.drop p) p = .ok r j → kb (sb L f) n k x p = some j ∧ r = L.drop j := by
    intro k
    induction k with
    | zero => intro x p r j h; unfold kd at h; injection h with e1 e2; subst e2; exact ⟨rfl, e1.symm⟩
    | succ k ih =>
     intro x p r j h
     unfold kd at h
     cases hc : ckR f (L.drop p) p (stP n x) with
     | bad p e => rw [hc] at h; cases h
     | ok r' at' =>
      rw [hc] at h
      obtain ⟨e1, e2⟩ := ckR_sb f p _ r' at' hc
      subst e2
      obtain ⟨e3, e4⟩ := ih _ _ _ _ h
      refine ⟨?_, e4⟩
      unfold kb
      rw [e1]
      exact e3
   rw [ht] at h
   obtain ⟨e1, e2⟩ := key _ _ _ _ _ h
   refine ⟨?_, e2⟩
   unfold sb
   rw [hn, if_pos ⟨hi, h1, h2⟩]
   exact e1

theorem tree_of (h : (ckP L).2 = 0) : Tr L 1 0 L.length := by
 rw [ck_same] at h
 unfold ckD at h
 split at h
 ·cases h
 ·cases hc : ckR (L.length + 1) L 0 1 with
  | bad p e =>
   rw [hc] at h
   exfalso
   revert h hc
   have key : ∀ (f : Nat) (r : List ANode) (i : Nat) (a : Int), r.length < f → ∀ p, ckR f r i a ≠ .bad p 0 := by
    intro f
    induction f with
    | zero => intro r i a h; omega
    | succ f ih =>
     intro r i a hl p
     cases r with
     | nil => unfold ckR; intro h; cases h
     | cons n r =>
      unfold ckR
      split
      ·intro h; cases h
      split
      ·intro h; cases h
      have kk : ∀ (k : Nat) (x : Int) (r : List ANode) (i : Nat), r.length < f → kd (ckR f) n k x r i ≠ .bad p 0 := by
       intro k
       induction k with
       | zero => intro x r i _ h; unfold kd at h; cases h
       | succ k ihk =>
        intro x r i hr
        unfold kd
        cases hc : ckR f r i (stP n x) with
        | bad p' e' => intro h; injection h with e1 e2; subst e1 e2; exact ih _ _ _ hr _ hc
        | ok r' at' =>
         have hl := ckR_len f r i (stP n x)
         rw [hc] at hl
         have := hl.1
         have := hl.2
         exact ihk _ _ _ (by omega)
      exact kk _ _ _ _ (by simp at hl; omega)
   intro h hc
   have h : e = 0 := h
   subst h
   exact key _ _ _ _ (by omega) _ hc
  | ok r p =>
   rw [hc] at h
   have hc' : ckR (L.length + 1) (L.drop 0) 0 1 = .ok r p := by simpa using hc
   obtain ⟨e1, e2⟩ := ckR_sb _ _ _ _ _ hc'
   refine ⟨L.length + 1, ?_⟩
   rw [e1]
   have hp := sb_le _ _ _ _ e1
   have : r = [] := by
    by_cases hr : r = []
    ·exact hr
    ·simp only [hr, if_false] at h; cases h
   rw [this] at e2
   have h5 := congrArg List.length e2
   simp at h5
   congr 1
   omega

theorem Fo.cns : ∀ (N : Nat) {es : List Int} {p q : Nat}, q - p ≤ N → Fo L es p q → Go.Proofs.YtdhkcdehedbpcaaDoor.cns ((kidsN L).drop p) es.length = some (q - p)
 | N, [], p, q, hN, h => by have : p = q := h; subst this; simp [Go.Proofs.YtdhkcdehedbpcaaDoor.cns]
 | 0, a :: es, p, q, hN, h => by have := h.le; simp at this; omega
 | N + 1, a :: es, p, q, hN, h => by
  have hle := h.le
  simp at hle
  obtain ⟨h1, h2, h3, h4⟩ := h.step
  have hk := kids_drop h1
  have ih := Fo.cns N (by omega) h4
  have hz : L[p] = zN L p := by unfold zN; rw [List.getD_eq_getElem?_getD, List.getElem?_eq_getElem h1]; rfl
  rw [hk, List.length_cons, Go.Proofs.YtdhkcdehedbpcaaDoor.cns, hz]
  rw [List.length_append, kidsA_len, Nat.add_comm _ es.length] at ih
  rw [ih]
  simp
  omega
theorem Tr.behind {a : Int} {i j : Nat} (h : Tr L a i j) : bhV L i = ((j : Int), 0) := by
 have hl := h.lt
 have h1 := Fo.cns _ (Nat.le_refl _) (Fo.one h)
 unfold bhV bhP
 simp only [List.length_cons, List.length_nil, Nat.zero_add] at h1
 rw [if_neg (by omega), Int.toNat_natCast, h1]
 simp
 omega
end
end Go.Proofs.YtdhkcdehedbpcaaDoor

namespace Go.Proofs.YtdhkcdehedbpcaaDoor
open Go Go.RowKit

def sk (z : ZS) : List (Int × Int × Nat) := z.funs.map fun f => (f.node, f.params, f.about)
def dk (z : ZS) : List (Nat × Int) := z.declared.map fun e => (e.fn, e.slot)
def under (z : ZS) : ByteArray → Option Int := match z.names with | none => z.seen | some m => unhide m z.seen
inductive Anc (S : List (Int × Int × Nat)) : Nat → Nat → Prop
 | refl (g : Nat) : Anc S g g
 | up {g x : Nat} {f : Int × Int × Nat} : S[g]? = some f → 0 < g → Anc S f.2.2 x → Anc S g x

theorem pre_get {α : Type} {S T : List α} (h : S <+: T) {i : Nat} {x : α} (hx : S[i]? = some x) : T[i]? = some x := by
 obtain ⟨U, rfl⟩ := h
 rw [List.getElem?_append_left (List.getElem?_eq_some_iff.1 hx).1]; exact hx
theorem Anc.mono {S T : List (Int × Int × Nat)} (h : S <+: T) {g x : Nat} (ha : Anc S g x) : Anc T g x := by
 induction ha with
 | refl g => exact .refl g
 | up h1 h2 _ ih => exact .up (pre_get h h1) h2 ih
theorem sk_len (z : ZS) : (sk z).length = z.funs.length := by simp [sk]
theorem dk_len (z : ZS) : (dk z).length = z.declared.length := by simp [dk]

def isF (n : ANode) : Bool := n.1 == 12 || n.1 == 31
def fnR (L : List ANode) (a b : Nat) : List (Int × Int) := ((List.range' a (b - a)).filter fun i => isF (zN L i)).map fun (i : Nat) => ((i : Int), (zN L i).2.2.2.1)
def skn (z : ZS) : List (Int × Int) := z.funs.map fun f => (f.node, f.params)
theorem fnR_app (L : List ANode) {a b c : Nat} (h1 : a ≤ b) (h2 : b ≤ c) : fnR L a b ++ fnR L b c = fnR L a c := by
 unfold fnR
 rw [← List.map_append, ← List.filter_append]
 congr 2
 have : List.range' b (c - b) = List.range' (a + (b - a)) (c - b) := by rw [show a + (b - a) = b by omega]
 rw [this, List.range'_append_1, show b - a + (c - b) = c - a by omega]
theorem fnR_no {L : List ANode} {i b : Nat} (h : isF (zN L i) = false) (hb : i + 1 ≤ b) : fnR L i b = fnR L (i + 1) b := by
 rw [← fnR_app L (Nat.le_succ i) hb]
 have : fnR L i (i + 1) = [] := by unfold fnR; rw [show i + 1 - i = 1 by omega]; simp [h]
 rw [this, List.nil_append]
theorem fnR_yes {L : List ANode} {i b : Nat} (h : isF (zN L i) = true) (hb : i + 1 ≤ b) : fnR L i b = ((i : Int), (zN L i).2.2.2.1) :: fnR L (i + 1) b := by
 rw [← fnR_app L (Nat.le_succ i) hb]
 have : fnR L i (i + 1) = [((i : Int), (zN L i).2.2.2.1)] := by unfold fnR; rw [show i + 1 - i = 1 by omega]; simp [h]
 rw [this]; rfl
theorem fnR_self (L : List ANode) (a : Nat) : fnR L a a = [] := by unfold fnR; simp

structure Inv (L : List ANode) (c k : Nat) (z : ZS) : Prop where
 ul : z.uses.length = L.length
 un : ∀ j, z.next ≤ j → j < L.length → z.uses[j]? = some (0, 0)
 fn : z.fn < z.funs.length
 ab : ∀ (g : Nat) f, (sk z)[g]? = some f → 0 < g → f.2.2 < g
 se : ∀ s d, z.seen s = some d → ∃ (k : Nat) (e : Nat × Int), d = k ∧ (dk z)[k]? = some e ∧ Anc (sk z) z.fn e.1
 dl : z.declared.length + 1 + c ≤ z.next
 cn : z.cnt + z.nc + 2 + 2 * k ≤ 2 * z.next
 lo : 0 ≤ z.loops ∧ z.loops + 1 + k ≤ z.next
 fy : z.fault ≠ 0 → z.faulty < L.length
 uf : ∀ (j : Nat) u, z.uses[j]? = some u → u.1 = 1 → 0 ≤ u.2 ∧ u.2 < z.declared.length

structure El (L : List ANode) (st : Bool) (i c k : Nat) (z v : ZS) : Prop where
 fn : v.fn = z.fn
 lo : v.loops = z.loops
 nx : z.next ≤ v.next
 nm : v.names.isSome = z.names.isSome
 un : under v = under z
 ex : st = false → v.names = z.names ∧ v.seen = z.seen
 fs : sk z <+: sk v
 ds : dk z <+: dk v
 dl : v.declared.length + z.next ≤ z.declared.length + v.next + c
 cn : v.cnt + v.nc + 2 * z.next ≤ z.cnt + z.nc + 2 * v.next + 2 * k
 us : ∀ j, j < z.next → j ≠ i → v.uses[j]? = z.uses[j]?
 fa : v.fault = 0 → z.fault = 0
 gs : z.names.isSome = true → v.globals = z.globals

section
variable {L : List ANode} {A : ByteArray → Option Int}

theorem El.refl (z : ZS) (i : Nat) : El L false i 0 0 z z :=
 ⟨rfl, rfl, Nat.le_refl _, rfl, rfl, fun _ => ⟨rfl, rfl⟩, List.prefix_refl _, List.prefix_refl _, by omega, by omega, fun _ _ _ => rfl, fun h => h, fun _ => rfl⟩
theorem El.trans {s1 s2 : Bool} {i c1 k1 c2 k2 : Nat} {z v w : ZS} (h1 : El L s1 i c1 k1 z v) (h2 : El L s2 i c2 k2 v w) : El L (s1 || s2) i (c1 + c2) (k1 + k2) z w where
 fn := h2.fn.trans h1.fn
 lo := h2.lo.trans h1.lo
 nx := Nat.le_trans h1.nx h2.nx
 nm := h2.nm.trans h1.nm
 un := h2.un.trans h1.un
 ex := fun h => by
  rw [Bool.or_eq_false_iff] at h
  exact ⟨(h2.ex h.2).1.trans (h1.ex h.1).1, (h2.ex h.2).2.trans (h1.ex h.1).2⟩
 fs := h1.fs.trans h2.fs
 ds := h1.ds.trans h2.ds
 dl := by have := h1.dl; have := h2.dl; omega
 cn := by have := h1.cn; have := h2.cn; omega
 us := fun j hj hi => (h2.us j (Nat.lt_of_lt_of_le hj h1.nx) hi).trans (h1.us j hj hi)
 fa := fun h => h1.fa (h2.fa h)
 gs := fun h => (h2.gs (h1.nm.trans h)).trans (h1.gs h)
theorem El.weak {s s' : Bool} {i i' c k c' k' : Nat} {z v : ZS} (h : El L s i c k z v) (hs : s = true → s' = true) (hi : i = i' ∨ z.next ≤ i) (hc : c ≤ c') (hk : k ≤ k') : El L s' i' c' k' z v where
 fn := h.fn
 lo := h.lo
 nx := h.nx
 nm := h.nm
 un := h.un
 ex := fun e => h.ex (by cases s with | false => rfl | true => rw [hs rfl] at e; cases e)
 fs := h.fs
 ds := h.ds
 dl := by have := h.dl; omega
 cn := by have := h.cn; omega
 us := fun j hj hi' => h.us j hj (by rcases hi with rfl | hi <;> omega)
 fa := h.fa
 gs := h.gs

theorem Inv.weak {c k c' k' : Nat} {z : ZS} (h : Inv L c k z) (hc : c' ≤ c) (hk : k' ≤ k) : Inv L c' k' z :=
 ⟨h.ul, h.un, h.fn, h.ab, h.se, by have := h.dl; omega, by have := h.cn; omega, ⟨h.lo.1, by have := h.lo.2; omega⟩, h.fy, h.uf⟩
theorem Inv.next {z : ZS} (h : Inv L 0 0 z) : Inv L 1 1 { z with next := z.next + 1 } where
 ul := h.ul
 un := fun j hj hl => h.un j (by have : z.next + 1 ≤ j := hj; omega) hl
 fn := h.fn
 ab := h.ab
 se := h.se
 dl := by have := h.dl; show _ ≤ z.next + 1; simp only; omega
 cn := by have := h.cn; show _ ≤ 2 * (z.next + 1); simp only; omega
 lo := ⟨h.lo.1, by have := h.lo.2; show z.loops + 1 + ((1 : Nat) : Int) ≤ ((z.next + 1 : Nat) : Int); omega⟩
 fy := h.fy
 uf := h.uf

theorem zfail_ne {z : ZS} {i : Nat} {e : Int} (he : e ≠ 0) : (zfail z i e).fault ≠ 0 := by
 unfold zfail; split
 ·exact he
 ·assumption
theorem zfail_El (z : ZS) (i : Nat) (e : Int) (he : e ≠ 0) (i' : Nat) : El L false i' 0 0 z (zfail z i e) := by
 by_cases h : z.fault = 0
 ·have e1 : zfail z i e = { z with fault := e, faulty := i } := by unfold zfail; rw [if_pos h]
  rw [e1]
  exact ⟨rfl, rfl, Nat.le_refl _, rfl, rfl, fun _ => ⟨rfl, rfl⟩, List.prefix_refl _, List.prefix_refl _, by simp, by simp, fun _ _ _ => rfl, fun _ => h, fun _ => rfl⟩
 ·have e1 : zfail z i e = z := by unfold zfail; rw [if_neg h]
  rw [e1]; exact El.refl _ _
theorem zfail_Inv {c k : Nat} {z : ZS} {i : Nat} {e : Int} (h : Inv L c k z) (hi : i < L.length) : Inv L c k (zfail z i e) := by
 by_cases hf : z.fault = 0
 ·have e1 : zfail z i e = { z with fault := e, faulty := i } := by unfold zfail; rw [if_pos hf]
  rw [e1]
  exact ⟨h.ul, h.un, h.fn, h.ab, h.se, h.dl, h.cn, h.lo, fun _ => hi, h.uf⟩
 ·have e1 : zfail z i e = z := by unfold zfail; rw [if_neg hf]
  rw [e1]; exact h
theorem zfail_funs (z : ZS) (i : Nat) (e : Int) : (zfail z i e).funs = z.funs := by unfold zfail; split <;> rfl
theorem zfail_next (z : ZS) (i : Nat) (e : Int) : (zfail z i e).next = z.next := by unfold zfail; split <;> rfl
theorem zfail_uses (z : ZS) (i : Nat) (e : Int) : (zfail z i e).uses = z.uses := by unfold zfail; split <;> rfl

def ShOk (L : List ANode) (z : ZS) (i : Nat) : Prop :=
 ∃ u, z.uses[i]? = some u ∧ (u.1 = 1 → ∃ (m : ByteArray → Option Int) (k : Nat) (e : Nat × Int), z.names = some m ∧ m (zT L i) = none ∧ u.2 = k ∧ (dk z)[k]? = some e ∧ e.1 = z.fn)

theorem set_uf {z : ZS} {c k : Nat} (h : Inv L c k z) {i : Nat} {u : Int × Int} {n : Nat} (hn : z.declared.length ≤ n) (hu : u.1 = 1 → 0 ≤ u.2 ∧ u.2 < n) :
  ∀ (j : Nat) v, (z.uses.set i u)[j]? = some v → v.1 = 1 → 0 ≤ v.2 ∧ v.2 < n := by
 intro j v hv h1
 rw [List.getElem?_set] at hv
 split at hv
 ·split at hv
  ·cases hv; exact hu h1
  ·cases hv
 ·have := h.uf j v hv h1; omega
theorem set_un {z : ZS} {c k : Nat} (h : Inv L c k z) {i : Nat} (hi : i < z.next) (u : Int × Int) : ∀ j, z.next ≤ j → j < L.length → (z.uses.set i u)[j]? = some (0, 0) := by
 intro j hj hl
 rw [List.getElem?_set_ne (by omega)]
 exact h.un j hj hl

structure DcR (L : List ANode) (i : Nat) (z y : ZS) : Prop where
 el : El L false i 1 0 z y
 sh : ShOk L y i
 nx : y.next = z.next
 nf : skn y = skn z
 dn : z.names = none → y.fault = 0 → y.globals = z.globals ++ [zT L i] ∧ y.uses[i]? = some (4, (z.globals.length : Int))

theorem zdeclare_ok {k : Nat} {z : ZS} {i : Nat} (h : Inv L 1 k z) (hi : i < L.length) (hin : i < z.next) (hl : z.next ≤ 1001) (hz : z.uses[i]? = some (0, 0)) :
  ∃ y, zdeclare L A z i = some y ∧ Inv L 0 k y ∧ DcR L i z y := by
 have h0 : Inv L 0 k z := h.weak (Nat.zero_le _) (Nat.le_refl _)
 have hdl := h.dl
 have hil : i < z.uses.length := by rw [h.ul]; exact hi
 unfold zdeclare
 rw [if_pos hi]
 have fail_case : ∀ e : Int, e ≠ 0 → ∃ y, some (zfail z i e) = some y ∧ Inv L 0 k y ∧ DcR L i z y := by
  intro e he
  exact ⟨_, rfl, zfail_Inv h0 hi, (zfail_El z i e he i).weak (fun x => x) (.inl rfl) (by omega) (Nat.le_refl _), ⟨(0, 0), by rw [zfail_uses]; exact hz, fun k => by cases k⟩, zfail_next _ _ _, by unfold skn; rw [zfail_funs], fun _ k => absurd k (zfail_ne he)⟩
 by_cases hp : (primF (zT L i)).isSome = true
 ·rw [if_pos hp]; exact fail_case 8 (by decide)
 rw [if_neg hp]
 cases hnm : z.names with
 | none =>
  dsimp only
  unfold zglobal
  split
  ·exact fail_case 80 (by decide)
  split
  ·exact fail_case 3 (by decide)
  refine ⟨_, rfl, ⟨by show (z.uses.set i _).length = _; rw [List.length_set]; exact h.ul, set_un h hin _, h.fn, h.ab, h.se, h0.dl, h0.cn, h0.lo, h.fy, set_uf h (Nat.le_refl _) (fun k => by cases k)⟩, ⟨⟨rfl, rfl, Nat.le_refl _, rfl, rfl, fun _ => ⟨rfl, rfl⟩, List.prefix_refl _, List.prefix_refl _, by simp [zuse], by simp [zuse], ?_, fun k => k, fun k => by rw [hnm] at k; cases k⟩, ⟨(4, z.globals.length), ?_, fun k => by cases k⟩, rfl, rfl, fun _ _ => ⟨rfl, ?_⟩⟩⟩
  ·intro j hj hji
   show (z.uses.set i _)[j]? = _
   rw [List.getElem?_set_ne (by omega)]
  ·show (z.uses.set i _)[i]? = _
   rw [List.getElem?_set_self hil]
  ·show (z.uses.set i _)[i]? = _
   rw [List.getElem?_set_self hil]
 | some m =>
  dsimp only
  unfold zslot
  have hfn := h.fn
  rw [List.getElem?_eq_getElem hfn]
  dsimp only
  split
  ·exact fail_case 80 (by decide)
  next hm =>
  split
  ·exact fail_case 3 (by decide)
  rw [if_pos (by omega)]
  have hm : m (zT L i) = none := by cases e : m (zT L i) with | none => rfl | some x => rw [e] at hm; exact absurd rfl hm
  have e1 : sk { z with uses := z.uses.set i (1, z.declared.length), declared := z.declared ++ [⟨z.fn, z.funs[z.fn].slots, false⟩], funs := z.funs.set z.fn { z.funs[z.fn] with slots := z.funs[z.fn].slots + 1 } } = sk z := by
   unfold sk
   dsimp only
   rw [List.map_set]
   apply List.ext_getElem?
   intro j
   rw [List.getElem?_set]
   split
   ·next e => subst e; simp [hfn]
   ·rfl
  have e2 : dk { z with uses := z.uses.set i (1, z.declared.length), declared := z.declared ++ [⟨z.fn, z.funs[z.fn].slots, false⟩], funs := z.funs.set z.fn { z.funs[z.fn] with slots := z.funs[z.fn].slots + 1 } } = dk z ++ [(z.fn, z.funs[z.fn].slots)] := by
   unfold dk; simp
  have e3 : skn { z with uses := z.uses.set i (1, z.declared.length), declared := z.declared ++ [⟨z.fn, z.funs[z.fn].slots, false⟩], funs := z.funs.set z.fn { z.funs[z.fn] with slots := z.funs[z.fn].slots + 1 } } = skn z := by
   unfold skn
   dsimp only
   rw [List.map_set]
   apply List.ext_getElem?
   intro j
   rw [List.getElem?_set]
   split
   ·next e => subst e; simp [hfn]
   ·rfl
  refine ⟨_, rfl, ⟨by show (z.uses.set i _).length = _; rw [List.length_set]; exact h.ul, set_un h hin _, by show z.fn < (z.funs.set _ _).length; rw [List.length_set]; exact hfn, ?_, ?_, ?_, h0.cn, h0.lo, h.fy, ?_⟩, ⟨⟨rfl, rfl, Nat.le_refl _, rfl, rfl, fun _ => ⟨rfl, rfl⟩, ?_, ?_, by simp; omega, by simp, ?_, fun k => k, fun _ => rfl⟩, ⟨(1, z.declared.length), ?_, fun _ => ⟨m, z.declared.length, (z.fn, z.funs[z.fn].slots), hnm, hm, rfl, ?_, rfl⟩⟩, rfl, e3, fun k => by rw [hnm] at k; cases k⟩⟩
  ·rw [e1]; exact h.ab
  ·intro s d hs
   obtain ⟨j, e, a1, a2, a3⟩ := h.se s d hs
   refine ⟨j, e, a1, ?_, ?_⟩
   ·rw [e2, List.getElem?_append_left (List.getElem?_eq_some_iff.1 a2).1]; exact a2
   ·rw [e1]; exact a3
  ·show (z.declared ++ [_]).length + 1 + 0 ≤ z.next
   simp; omega
  ·have := set_uf h (i := i) (u := (1, (z.declared.length : Int))) (n := z.declared.length + 1) (by omega) (fun _ => ⟨by simp, by simp; omega⟩)
   intro j v hv h1
   have := this j v hv h1
   show 0 ≤ v.2 ∧ v.2 < ((z.declared ++ [_]).length : Nat)
   simp; omega
  ·rw [e1]; exact List.prefix_refl _
  ·rw [e2]; exact List.prefix_append _ _
  ·intro j hj hji
   show (z.uses.set i _)[j]? = _
   rw [List.getElem?_set_ne (by omega)]
  ·show (z.uses.set i _)[i]? = _
   rw [List.getElem?_set_self hil]
  ·rw [e2, ← dk_len, List.getElem?_concat_length]

theorem zshow_ok {z : ZS} {i : Nat} {c : Nat} (h : Inv L c 1 z) (hi : i < L.length) (hl : z.next ≤ 1001) (hs : ShOk L z i) :
  ∃ y, zshow L z i = some y ∧ Inv L c 0 y ∧ El L true i 0 1 z y ∧ y.next = z.next ∧ skn y = skn z ∧ y.fault = z.fault ∧ y.globals = z.globals ∧ y.uses = z.uses := by
 have h0 : Inv L c 0 z := h.weak (Nat.le_refl _) (Nat.zero_le _)
 obtain ⟨u, hu, hs⟩ := hs
 have hcn := h.cn
 have hdl := h.dl
 unfold zshow
 rw [hu]
 dsimp only
 by_cases h1 : u.1 = 1
 ·obtain ⟨m, k, e, e1, e2, e3, e4, e5⟩ := hs h1
  rw [if_neg (by omega), e1]
  dsimp only
  have hk : k < z.declared.length := by rw [← dk_len]; exact (List.getElem?_eq_some_iff.1 e4).1
  rw [if_pos ⟨⟨by omega, by omega⟩, by omega, by omega⟩]
  refine ⟨_, rfl, ⟨h.ul, h.un, h.fn, h.ab, ?_, h.dl, by show z.cnt + 1 + (z.nc + 1) + 2 + 2 * 0 ≤ 2 * z.next; omega, h0.lo, h.fy, h.uf⟩, ⟨rfl, rfl, Nat.le_refl _, by rw [e1]; rfl, ?_, (fun k => by cases k), List.prefix_refl _, List.prefix_refl _, by simp, by simp; omega, fun _ _ _ => rfl, fun k => k, fun _ => rfl⟩, rfl, rfl, rfl, rfl, rfl⟩
  ·intro s d hsd
   have hsd : mput z.seen (zT L i) u.2 s = some d := hsd
   unfold mput at hsd
   split at hsd
   ·cases hsd
    exact ⟨k, e, e3, e4, by rw [e5]; exact .refl _⟩
   ·exact h.se s d hsd
  ·unfold under
   rw [e1]
   funext s
   simp only [unhide, mput]
   by_cases hs2 : s = zT L i
   ·rw [if_pos hs2, hs2, e2]
    dsimp only
    cases hsn : z.seen (zT L i) with
    | none => simp
    | some x =>
     obtain ⟨j, _, a1, _⟩ := h.se _ _ hsn
     simp; omega
   ·rw [if_neg hs2, if_neg hs2]
 ·rw [if_pos (by omega)]
  exact ⟨_, rfl, h0, (El.refl z i).weak (fun k => by cases k) (.inl rfl) (Nat.le_refl _) (by omega), rfl, rfl, rfl, rfl, rfl⟩
end
end Go.Proofs.YtdhkcdehedbpcaaDoor

