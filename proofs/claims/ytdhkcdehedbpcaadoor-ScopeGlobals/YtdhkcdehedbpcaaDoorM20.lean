/- A map from strings to ints in memory, as a function. Nothing of the program's functions is in it. · The resolver as plain data: what it makes of a program, step by step; none: more steps are wanted, or a number is beyond what is reckoned with. Nothing of the program's functions is in it. -/
import Derived.Test.YtdhkcdehedbpcaaDoorM4
import Derived.Maps.OwnSet
import Derived.Maps.Own
set_option linter.unusedSimpArgs false
set_option linter.unusedVariables false
namespace Go.Proofs.YtdhkcdehedbpcaaDoor
open Go Go.RowKit

theorem key9 : Maps.Keyed Tryd.prog 9 := Maps.string_keyed Tryd.underlying9
theorem key_lit {s : ByteArray} (hs : s.size ≤ maxLen) : keyOf Tryd.prog 9 (.string s) = some (.string s.data.toList) := WideMaps.keyOf_string_mk Tryd.underlying9 hs
theorem int3 : Tryd.prog.underlying 3 = some (.int .i64) := by kernel_rfl
theorem is_key (s : ByteArray) : WideAt.IsKeyLit (.string s.data.toList) := by simp [WideAt.IsKeyLit]
theorem lit_ne {s u : ByteArray} (h : u ≠ s) : (Lit.string u.data.toList) ≠ .string s.data.toList := by
  intro e
  injection e with e
  apply h
  have : u.data = s.data := Array.toList_inj.1 e
  cases u; cases s
  simp_all

/-- The datum of such a map. -/
structure SmD (D : DataW Unit) (M : ByteArray → Option Int) : Prop where
  tidy : Maps.Tidy D
  has : ∀ s : ByteArray, Maps.has D (.string s.data.toList) = (M s).isSome
  at_ : ∀ (s : ByteArray) (x : Int), M s = some x → D.atKey (.string s.data.toList) (.lit (.int .i64 0)) = .lit (.int .i64 x)

def mput (M : ByteArray → Option Int) (s : ByteArray) (x : Int) : ByteArray → Option Int := fun u => if u = s then some x else M u
def mdel (M : ByteArray → Option Int) (s : ByteArray) : ByteArray → Option Int := fun u => if u = s then none else M u

theorem SmD.nil : SmD (.map []) (fun _ => none) := ⟨Maps.tidy_empty, fun s => by simp [Maps.has], fun s x h => by cases h⟩
theorem SmD.put {D : DataW Unit} {M : ByteArray → Option Int} (h : SmD D M) (s : ByteArray) (x : Int) : SmD (D.put (.string s.data.toList) (.lit (.int .i64 x))) (mput M s x) where
  tidy := h.tidy.put (is_key s) _
  has := fun u => by
    unfold mput
    by_cases hu : u = s
    · subst hu
      rw [Maps.has_put_same h.tidy.isMap (is_key u), if_pos rfl]; rfl
    · rw [Maps.has_put_other (lit_ne hu), h.has u, if_neg hu]
  at_ := fun u y hy => by
    unfold mput at hy
    by_cases hu : u = s
    · subst hu
      rw [if_pos rfl] at hy
      cases hy
      rw [Maps.atKey_put_same h.tidy.isMap (is_key u)]
    · rw [if_neg hu] at hy
      rw [Maps.atKey_put_other (lit_ne hu)]
      exact h.at_ u y hy
theorem SmD.del {D : DataW Unit} {M : ByteArray → Option Int} (h : SmD D M) (s : ByteArray) : SmD (D.del (.string s.data.toList)) (mdel M s) where
  tidy := h.tidy.del _
  has := fun u => by
    unfold mdel
    by_cases hu : u = s
    · subst hu
      rw [Maps.has_del_same, if_pos rfl]; rfl
    · rw [Maps.has_del_other (lit_ne hu), h.has u, if_neg hu]
  at_ := fun u y hy => by
    unfold mdel at hy
    by_cases hu : u = s
    · subst hu
      rw [if_pos rfl] at hy
      cases hy
    · rw [if_neg hu] at hy
      rw [Maps.atKey_del_other (lit_ne hu)]
      exact h.at_ u y hy

/-- The block b is such a map, of no more than n keys. -/
def MS (w : World) (b : Nat) (M : ByteArray → Option Int) (n : Nat) : Prop := ∃ D, w.ownsMap Tryd.prog 9 (plainElem (H := Unit) Tryd.prog 3) b n D ∧ SmD D M

theorem MS.lt {w : World} {b n : Nat} {M : ByteArray → Option Int} (h : MS w b M n) : b < w.heap.size := by
  obtain ⟨D, h1, _⟩ := h
  exact h1.lt
theorem MS.mono {w : World} {b n m : Nat} {M : ByteArray → Option Int} (h : MS w b M n) (e : n ≤ m) : MS w b M m := by
  obtain ⟨D, h1, h2⟩ := h
  exact ⟨D, h1.mono e, h2⟩
theorem MS.keep {w w' : World} {b n : Nat} {M : ByteArray → Option Int} (h : MS w b M n) (hb : w'.heap[b]? = w.heap[b]?) : MS w' b M n := by
  obtain ⟨D, h1, h2⟩ := h
  obtain ⟨es, clock, hm, r⟩ := h1
  exact ⟨D, ⟨es, clock, hb.trans hm, r⟩, h2⟩
theorem MS.new (w : World) : MS (w.alloc (.map #[] 0)) w.heap.size (fun _ => none) 0 := ⟨.map [], World.ownsMap_made w _ _ _, SmD.nil⟩

end Go.Proofs.YtdhkcdehedbpcaaDoor

set_option linter.unusedSimpArgs false
set_option linter.unusedVariables false
namespace Go.Proofs.YtdhkcdehedbpcaaDoor
open Go Go.RowKit

/-- A function: its node, parameters, slots, what it takes, the function about it, places of declarations in what it takes. -/
structure ZF where
  node : Int
  params : Int
  slots : Int
  caps : List (Int × Int)
  about : Nat
  cm : Int → Option Int
deriving Inhabited
/-- A declaration: its function, slot, whether some function takes it. -/
structure ZD where
  fn : Nat
  slot : Int
  taken : Bool
deriving Inhabited
/-- The resolver; names: what is declared in the innermost node that may declare, with what each hides; cnt, nc: no fewer than the names that are seen, and than those in names. -/
structure ZS where
  names : Option (ByteArray → Option Int)
  fn : Nat
  loops : Int
  next : Nat
  funs : List ZF
  uses : List (Int × Int)
  globals : List ByteArray
  declared : List ZD
  seen : ByteArray → Option Int
  fault : Int
  faulty : Nat
  cnt : Nat
  nc : Nat
deriving Inhabited

/-- What is asked of the resolver: so many nodes, or a node of a kind. -/
inductive ZQ where
  | parts (due : Int)
  | block (i : Nat)
  | var (i : Nat)
  | loop
  | att (i : Nat)
  | named (i : Nat)
  | func (i : Nat)

def mputI (M : Int → Option Int) (s : Int) (x : Int) : Int → Option Int := fun u => if u = s then some x else M u

section
variable (L : List ANode) (A : ByteArray → Option Int)

def zN (i : Nat) : ANode := L.getD i (0, 0, [], 0, 0)
def zT (i : Nat) : ByteArray := strOfNums (zN L i).2.2.1
def zfail (z : ZS) (i : Nat) (e : Int) : ZS := if z.fault = 0 then { z with fault := e, faulty := i } else z
def zuse (z : ZS) (i : Nat) (u : Int × Int) : ZS := { z with uses := z.uses.set i u }

def zglobal (z : ZS) (i : Nat) : ZS :=
  if (A (zT L i)).getD 0 < z.globals.length then zfail z i 80 else if z.globals.length = 1024 then zfail z i 3
  else zuse { z with globals := z.globals ++ [zT L i] } i (4, z.globals.length)
def zslot (z : ZS) (m : ByteArray → Option Int) (i : Nat) : Option ZS :=
  match z.funs[z.fn]? with
  | none => none
  | some f =>
    if (m (zT L i)).isSome then some (zfail z i 80) else if f.slots = 256 then some (zfail z i 3)
    else if z.declared.length < 100000 then some { z with uses := z.uses.set i (1, z.declared.length), declared := z.declared ++ [⟨z.fn, f.slots, false⟩], funs := z.funs.set z.fn { f with slots := f.slots + 1 } } else none
def zdeclare (z : ZS) (i : Nat) : Option ZS :=
  if i < L.length then (if (primF (zT L i)).isSome then some (zfail z i 8) else match z.names with | none => some (zglobal L A z i) | some m => zslot L z m i) else none
def zshow (z : ZS) (i : Nat) : Option ZS :=
  match z.uses[i]? with
  | none => none
  | some u => if u.1 ≠ 1 then some z else match z.names with
    | none => none
    | some m => if (z.cnt < 100000 ∧ z.nc < 100000) ∧ 0 ≤ u.2 ∧ u.2 ≤ 100000 then some { z with names := some (mput m (zT L i) ((z.seen (zT L i)).getD (-1))), seen := mput z.seen (zT L i) u.2, cnt := z.cnt + 1, nc := z.nc + 1 } else none

/-- The place of a declaration in what a function takes. -/
def ztake : Nat → ZS → Nat → Nat → Nat → Option (Int × ZS)
  | 0, _, _, _, _ => none
  | t + 1, z, i, g, d =>
    match z.funs[g]?, z.declared[d]? with
    | some f, some e =>
      (match f.cm d with
      | some k => some (k, z)
      | none =>
        if g = 0 then none
        else (if f.about = e.fn then some ((1, e.slot), z) else (ztake t z i f.about d).map fun r => ((0, r.1), r.2)).bind fun r =>
          match r.2.funs[g]? with
          | none => none
          | some h =>
            if h.caps.length = 256 then some (0, zfail r.2 i 3)
            else some (h.caps.length, { r.2 with funs := r.2.funs.set g { h with caps := h.caps ++ [r.1], cm := mputI h.cm d h.caps.length } }))
    | _, _ => none
def zmeans (z : ZS) (i : Nat) (d : Int) : Option ZS :=
  if d < 0 then none else
  match z.declared[d.toNat]? with
  | none => none
  | some e =>
    if e.fn = z.fn then some (zuse z i (1, d))
    else (ztake (z.funs.length + 1) { z with declared := z.declared.set d.toNat { e with taken := true } } i z.fn d.toNat).map fun r => zuse r.2 i (3, r.1)
def zname (z : ZS) (i : Nat) : Option ZS :=
  match z.seen (zT L i) with
  | some d => zmeans z i d
  | none => match A (zT L i) with
    | some n => some (zuse z i (4, n))
    | none => match primF (zT L i) with
      | some n => some (zuse z i (5, n))
      | none => some (zfail z i 4)
def zset (z : ZS) (i : Nat) : Option ZS :=
  if i + 1 < L.length then (if (zN L (i + 1)).1 = 19 ∧ (primF (zT L (i + 1))).isSome then some (zfail z i 8) else some z) else none
def zplain (z : ZS) (i : Nat) : Option ZS :=
  if (zN L i).1 = 4 then zset L z i
  else if (zN L i).1 = 7 ∨ (zN L i).1 = 8 then (if z.loops = 0 then some (zfail z i 6) else some z)
  else if (zN L i).1 = 9 then (if z.fn = 0 then some (zfail z i 6) else some z)
  else if (zN L i).1 = 19 then zname L A z i else some z

def zenter (z : ZS) (g : Nat) (n : Int) : ZS := { z with names := some fun _ => none, fn := g, loops := n, nc := 0 }
/-- What is seen when names are no more: what each hides. -/
def unhide (m seen : ByteArray → Option Int) : ByteArray → Option Int := fun s => match m s with | none => seen s | some h => if h = -1 then none else some h
/-- Back to the place b. -/
def zleave (z b : ZS) : Option ZS :=
  match z.names with
  | none => none
  | some m => if z.cnt + z.nc ≤ 100000 then some { z with names := b.names, fn := b.fn, loops := b.loops, nc := b.nc, cnt := z.cnt + z.nc, seen := unhide m z.seen } else none
def zparam : Nat → ZS → Option ZS
  | 0, z => some z
  | n + 1, z => (zdeclare L A z z.next).bind fun y => (zshow L y z.next).bind fun v => zparam n { v with next := z.next + 1 }
def zopen (z : ZS) (i : Nat) : ZS := zenter { z with funs := z.funs ++ [⟨i, (zN L i).2.2.2.1, 0, [], z.fn, fun _ => none⟩] } z.funs.length 0

def zR : Nat → ZQ → ZS → Option ZS
  | 0, _, _ => none
  | t + 1, q, z => match q with
    | .parts due =>
      if 0 < due ∧ z.fault = 0 then
        (if due ≤ 1000000 ∧ z.next < L.length then
          (if (zN L z.next).1 = 2 then (zR t (.block z.next) { z with next := z.next + 1 }).bind fun v => zR t (.parts (due - 1)) v
          else if (zN L z.next).1 = 3 then (zR t (.var z.next) { z with next := z.next + 1 }).bind fun v => zR t (.parts (due - 1)) v
          else if (zN L z.next).1 = 6 then (zR t .loop { z with next := z.next + 1 }).bind fun v => zR t (.parts (due - 1)) v
          else if (zN L z.next).1 = 11 then (zR t (.att z.next) { z with next := z.next + 1 }).bind fun v => zR t (.parts (due - 1)) v
          else if (zN L z.next).1 = 12 then (zR t (.named z.next) { z with next := z.next + 1 }).bind fun v => zR t (.parts (due - 1)) v
          else if (zN L z.next).1 = 31 then (zR t (.func z.next) { z with next := z.next + 1 }).bind fun v => zR t (.parts (due - 1)) v
          else if 0 ≤ (zN L z.next).2.1 ∧ (zN L z.next).2.1 ≤ 1000000 then (zplain L A { z with next := z.next + 1 } z.next).bind fun v => zR t (.parts (due + (zN L z.next).2.1 - 1)) v
          else none)
        else none)
      else some z
    | .block i => if i < L.length then (zR t (.parts (zN L i).2.1) (zenter z z.fn z.loops)).bind fun v => zleave v z else none
    | .var i => (zdeclare L A z i).bind fun y => (zR t (.parts 1) y).bind fun v => zshow L v i
    | .loop => (zR t (.parts 1) z).bind fun v => if 0 ≤ v.loops ∧ v.loops < 100000 then (zR t (.parts 1) { v with loops := v.loops + 1 }).bind fun x => if 1 ≤ x.loops ∧ x.loops ≤ 100000 then some { x with loops := x.loops - 1 } else none else none
    | .att i => (zdeclare L A (zenter z z.fn z.loops) i).bind fun y => (zR t (.parts 1) y).bind fun v => (zshow L v i).bind fun x => (zR t (.parts 1) x).bind fun u => zleave u z
    | .named i => (zdeclare L A z i).bind fun y => (zshow L y i).bind fun v => zR t (.func i) v
    | .func i =>
      if z.funs.length = 1024 then some (zfail z i 3)
      else if (i < L.length ∧ 0 < z.funs.length) ∧ 0 ≤ (zN L i).2.2.2.1 ∧ (zN L i).2.2.2.1 ≤ 100000 then
        (zparam L A (zN L i).2.2.2.1.toNat (zopen L z i)).bind fun y => (zR t (.parts 1) y).bind fun v => zleave v z
      else none

def zstart : ZS := ⟨none, 0, 0, 1, [⟨0, 0, 0, [], 0, fun _ => none⟩], List.replicate L.length (0, 0), [], [], fun _ => none, 0, 0, 0, 0⟩
/-- What is told in the end of a use. -/
def zend (z : ZS) (u : Int × Int) : Int × Int := if u.1 = 1 then (let e := z.declared.getD u.2.toNat default; (if e.taken then (2, e.slot) else (1, e.slot))) else u
def zfit (z : ZS) (u : Int × Int) : Bool := u.1 != 1 || (decide (0 ≤ u.2) && decide (u.2 < z.declared.length))
end

end Go.Proofs.YtdhkcdehedbpcaaDoor

