/- The document's parser as plain data: what is read, by steps; nothing of the program is in it. · The document's parser goes forth: plain data. Nothing of the program is in it. -/
import Derived.Test.YtdhkcdehedbpcaaDoorM2
set_option linter.unusedSimpArgs false
set_option linter.unusedVariables false
namespace Go.Proofs.YtdhkcdehedbpcaaDoor
open Go Go.RowKit

structure DS where
  i : Nat
  e : Int
  p : Int
deriving DecidableEq, Inhabited

def dtk (T : List ATok) (i : Nat) : ATok := T.getD i (0, [], 0, 0)
def dAt (T : List ATok) (s : DS) : Int := (dtk T s.i).2.2.2
def dBad (T : List ATok) (s : DS) (x : Int) : DS := if s.e = 0 then ⟨s.i, x, dAt T s⟩ else s
def dIs (T : List ATok) (s : DS) (t : ByteArray) : Bool := decide (s.e = 0) && (decide ((dtk T s.i).1 = 2) || decide ((dtk T s.i).1 = 5)) && decide (strOfNums (dtk T s.i).2.1 = t)
def dNx (s : DS) : DS := ⟨s.i + 1, s.e, s.p⟩
def dEat (T : List ATok) (s : DS) (t : ByteArray) : DS := if dIs T s t = true then dNx s else s
def dWant (T : List ATok) (s : DS) (t : ByteArray) : DS := if s.e = 0 then (if dIs T s t = true then dNx s else dBad T s 6) else s
def dEnter (T : List ATok) (o : Int) (s : DS) (t : ByteArray) : DS := if s.e = 0 then (if dIs T s t = true then (if o = 64 then dBad T s 3 else dNx s) else dBad T s 6) else s
def dNameT (T : List ATok) (s : DS) : List Int := if s.e = 0 ∧ (dtk T s.i).1 = 1 then (dtk T s.i).2.1 else []
def dNameS (T : List ATok) (s : DS) : DS := if s.e = 0 ∧ (dtk T s.i).1 = 1 then dNx s else dBad T s 6

def dJoin (n : ANode) (k : Int) (l : List ANode) : List ANode := (n.1, k, n.2.2.1, n.2.2.2.1, n.2.2.2.2) :: l
def dAt0 (l : List ANode) : Int := (l.headD (0, 0, [], 0, 0)).2.2.2.2
def dKd0 (l : List ANode) : Int := (l.headD (0, 0, [], 0, 0)).1

def dLev (t : ATok) : Int := if t.1 = 2 ∨ t.1 = 5 then
  (if strOfNums t.2.1 = ⟨#[111, 114]⟩ then 0 else if strOfNums t.2.1 = ⟨#[97, 110, 100]⟩ then 1
   else if strOfNums t.2.1 = ⟨#[61, 61]⟩ ∨ strOfNums t.2.1 = ⟨#[33, 61]⟩ ∨ strOfNums t.2.1 = ⟨#[60]⟩ ∨ strOfNums t.2.1 = ⟨#[60, 61]⟩ ∨ strOfNums t.2.1 = ⟨#[62]⟩ ∨ strOfNums t.2.1 = ⟨#[62, 61]⟩ then 3
   else if strOfNums t.2.1 = ⟨#[43]⟩ ∨ strOfNums t.2.1 = ⟨#[45]⟩ then 4 else if strOfNums t.2.1 = ⟨#[42]⟩ ∨ strOfNums t.2.1 = ⟨#[47]⟩ ∨ strOfNums t.2.1 = ⟨#[37]⟩ then 5 else -1) else -1

inductive Dq where
  | block | blockL (l : List ANode) (k : Int)
  | func (n : ANode) | funcL (l : List ANode) (k : Int)
  | choice | stmt | plain
  | ahead (t : ByteArray) (k lev : Int)
  | expr (lev : Int) | exprL (lev : Int) (x : List ANode)
  | thing | thingL (x : List ANode)
  | args | argsL (l : List ANode) (k : Int)
  | prim | about (n : ANode)
  | several (n : ANode) (rc : Bool) | severalL (rc : Bool) (l : List ANode) (k : Int)
deriving Inhabited

abbrev DRes := Option (List ANode × Int × DS)
def dret (l : List ANode) (s : DS) : DRes := if l.length ≤ 1000000 then some (l, 0, s) else none
def dgd (l : List ANode) (k : Int) (r : DRes) : DRes := if l.length ≤ 1000000 ∧ 0 ≤ k ∧ k ≤ 1000000 then r else none

section
variable (T : List ATok)

def dR : Nat → Dq → Int → DS → DRes
  | 0, _, _, _ => none
  | f + 1, .block, o, s =>
    (dR f (.blockL [] 0) (o + 1) (dEnter T o s ⟨#[123]⟩)).bind fun r => dret (dJoin (2, 0, [], 0, dAt T s) r.2.1 r.1) (dWant T r.2.2 ⟨#[125]⟩)
  | f + 1, .blockL l k, o, s => dgd l k (if s.e = 0 ∧ dIs T s ⟨#[125]⟩ = false then (dR f .stmt o s).bind fun r => dR f (.blockL (l ++ r.1) (k + 1)) o r.2.2 else some (l, k, s))
  | f + 1, .func n, o, s =>
    (dR f (.funcL [] 0) (o + 1) (dEnter T o s ⟨#[40]⟩)).bind fun r => (dR f .block o (dWant T r.2.2 ⟨#[41]⟩)).bind fun q => dret (dJoin (n.1, n.2.1, n.2.2.1, r.2.1, n.2.2.2.2) (r.2.1 + 1) (r.1 ++ q.1)) q.2.2
  | f + 1, .funcL l k, o, s => dgd l k (if s.e = 0 ∧ dIs T s ⟨#[41]⟩ = false then
      let s1 := if 0 < k then dWant T s ⟨#[44]⟩ else s
      let s2 := if s1.e = 0 ∧ k = 16 ∧ (dtk T s1.i).1 = 1 then dBad T s1 3 else s1
      dR f (.funcL (l ++ [(19, 0, dNameT T s2, 0, dAt T s2)]) (k + 1)) o (dNameS T s2)
    else some (l, k, s))
  | f + 1, .choice, o, s =>
    (dR f (.expr 0) o (dWant T s ⟨#[105, 102]⟩)).bind fun r => (dR f .block o r.2.2).bind fun q =>
      if dIs T q.2.2 ⟨#[101, 108, 115, 101]⟩ = true then
        (if dIs T (dNx q.2.2) ⟨#[105, 102]⟩ = true then (dR f .choice o (dNx q.2.2)).bind fun u => dret (dJoin (5, 0, [], 0, dAt T s) 3 (r.1 ++ q.1 ++ u.1)) u.2.2
         else (dR f .block o (dNx q.2.2)).bind fun u => dret (dJoin (5, 0, [], 0, dAt T s) 3 (r.1 ++ q.1 ++ u.1)) u.2.2)
      else dret (dJoin (5, 0, [], 0, dAt T s) 2 (r.1 ++ q.1)) q.2.2
  | f + 1, .stmt, o, s =>
    if dIs T s ⟨#[123]⟩ = true then dR f .block o s
    else if dIs T s ⟨#[105, 102]⟩ = true then dR f .choice o s
    else if dIs T s ⟨#[102, 110]⟩ = true ∧ (dtk T (s.i + 1)).1 = 1 then dR f (.func (12, 0, dNameT T (dNx s), 0, dAt T s)) o (dNameS T (dNx s))
    else if dIs T s ⟨#[118, 97, 114]⟩ = true then
      (dR f (.expr 0) o (dWant T (dNameS T (dNx s)) ⟨#[61]⟩)).bind fun r => dret (dJoin (3, 0, dNameT T (dNx s), 0, dAt T s) 1 r.1) (dWant T r.2.2 ⟨#[59]⟩)
    else if dIs T s ⟨#[119, 104, 105, 108, 101]⟩ = true then
      (dR f (.expr 0) o (dNx s)).bind fun r => (dR f .block o r.2.2).bind fun q => dret (dJoin (6, 0, [], 0, dAt T s) 2 (r.1 ++ q.1)) q.2.2
    else if dIs T s ⟨#[98, 114, 101, 97, 107]⟩ = true then dret (dJoin (7, 0, [], 0, dAt T s) 0 []) (dWant T (dNx s) ⟨#[59]⟩)
    else if dIs T s ⟨#[99, 111, 110, 116, 105, 110, 117, 101]⟩ = true then dret (dJoin (8, 0, [], 0, dAt T s) 0 []) (dWant T (dNx s) ⟨#[59]⟩)
    else if dIs T s ⟨#[114, 101, 116, 117, 114, 110]⟩ = true then
      (if dIs T (dNx s) ⟨#[59]⟩ = true then dret (dJoin (9, 0, [], 0, dAt T s) 0 []) (dNx (dNx s))
       else (dR f (.expr 0) o (dNx s)).bind fun r => dret (dJoin (9, 0, [], 0, dAt T s) 1 r.1) (dWant T r.2.2 ⟨#[59]⟩))
    else if dIs T s ⟨#[116, 104, 114, 111, 119]⟩ = true then (dR f (.expr 0) o (dNx s)).bind fun r => dret (dJoin (10, 0, [], 0, dAt T s) 1 r.1) (dWant T r.2.2 ⟨#[59]⟩)
    else if dIs T s ⟨#[116, 114, 121]⟩ = true then
      (dR f .block o (dNx s)).bind fun r => (dR f .block o (dNameS T (dWant T r.2.2 ⟨#[99, 97, 116, 99, 104]⟩))).bind fun q => dret (dJoin (11, 0, dNameT T (dWant T r.2.2 ⟨#[99, 97, 116, 99, 104]⟩), 0, dAt T s) 2 (r.1 ++ q.1)) q.2.2
    else dR f .plain o s
  | f + 1, .plain, o, s =>
    (dR f (.expr 0) o s).bind fun r =>
      if r.2.2.e ≠ 0 then dret [] r.2.2
      else if dIs T r.2.2 ⟨#[61]⟩ = true then
        let s1 := if dKd0 r.1 = 19 ∨ dKd0 r.1 = 29 ∨ dKd0 r.1 = 30 then r.2.2 else dBad T r.2.2 6
        (dR f (.expr 0) o (dWant T s1 ⟨#[61]⟩)).bind fun q => dret (dJoin (4, 0, [], 0, dAt0 r.1) 2 (r.1 ++ q.1)) (dWant T q.2.2 ⟨#[59]⟩)
      else dret (dJoin (13, 0, [], 0, dAt0 r.1) 1 r.1) (dWant T r.2.2 ⟨#[59]⟩)
  | f + 1, .ahead t k lev, o, s =>
    (dR f (.expr lev) (o + 1) (dEnter T o s t)).bind fun r => dret (dJoin (k, 0, [], 0, dAt T s) 1 r.1) r.2.2
  | f + 1, .expr lev, o, s =>
    if lev < 0 ∨ 6 < lev then none
    else if s.e ≠ 0 then dret [] s
    else if lev = 2 ∧ dIs T s ⟨#[110, 111, 116]⟩ = true then dR f (.ahead ⟨#[110, 111, 116]⟩ 26 2) o s
    else if lev = 6 then (if dIs T s ⟨#[45]⟩ = true then dR f (.ahead ⟨#[45]⟩ 27 6) o s else dR f .thing o s)
    else (dR f (.expr (lev + 1)) o s).bind fun r => dR f (.exprL lev r.1) o r.2.2
  | f + 1, .exprL lev x, o, s => dgd x 0 (if s.e = 0 ∧ lev ≠ 2 ∧ dLev (dtk T s.i) = lev then
      (dR f (.expr (lev + 1)) o (dNx s)).bind fun r =>
        let y := dJoin (if lev < 2 then (25 - lev, 0, [], 0, dAt0 x) else (23, 0, (dtk T s.i).2.1, 0, dAt0 x)) 2 (x ++ r.1)
        if lev = 3 then dret y r.2.2 else dR f (.exprL lev y) o r.2.2
    else dret x s)
  | f + 1, .thing, o, s => (dR f .prim o s).bind fun r => dR f (.thingL r.1) o r.2.2
  | f + 1, .thingL x, o, s => dgd x 0 (if s.e ≠ 0 then dret x s
    else if dIs T s ⟨#[40]⟩ = true then (dR f .args o s).bind fun r => dR f (.thingL (dJoin (28, 0, [], 0, dAt0 x) (r.2.1 + 1) (x ++ r.1))) o r.2.2
    else if dIs T s ⟨#[91]⟩ = true then (dR f (.expr 0) (o + 1) (dEnter T o s ⟨#[91]⟩)).bind fun r => dR f (.thingL (dJoin (29, 0, [], 0, dAt0 x) 2 (x ++ r.1))) o (dWant T r.2.2 ⟨#[93]⟩)
    else if dIs T s ⟨#[46]⟩ = true then dR f (.thingL (dJoin (30, 0, dNameT T (dNx s), 0, dAt0 x) 1 x)) o (dNameS T (dNx s))
    else dret x s)
  | f + 1, .args, o, s =>
    (dR f (.argsL [] 0) (o + 1) (dEnter T o s ⟨#[40]⟩)).bind fun r => some (r.1, r.2.1, dWant T r.2.2 ⟨#[41]⟩)
  | f + 1, .argsL l k, o, s => dgd l k (if s.e = 0 ∧ dIs T s ⟨#[41]⟩ = false then
      let s1 := if 0 < k then dWant T s ⟨#[44]⟩ else s
      let s2 := if s1.e = 0 ∧ k = 16 then dBad T s1 3 else s1
      (dR f (.expr 0) o s2).bind fun r => dR f (.argsL (l ++ r.1) (k + 1)) o r.2.2
    else some (l, k, s))
  | f + 1, .prim, o, s =>
    if (dtk T s.i).1 = 1 then dret [(19, 0, (dtk T s.i).2.1, 0, dAt T s)] (dNx s)
    else if (dtk T s.i).1 = 3 then dret [(14, 0, [], (dtk T s.i).2.2.1, dAt T s)] (dNx s)
    else if (dtk T s.i).1 = 4 then dret [(15, 0, (dtk T s.i).2.1, 0, dAt T s)] (dNx s)
    else dR f (.about (0, 0, [], 0, dAt T s)) o s
  | f + 1, .about n, o, s =>
    if dIs T s ⟨#[116, 114, 117, 101]⟩ = true then dret [(16, n.2)] (dNx s)
    else if dIs T s ⟨#[102, 97, 108, 115, 101]⟩ = true then dret [(17, n.2)] (dNx s)
    else if dIs T s ⟨#[110, 105, 108]⟩ = true then dret [(18, n.2)] (dNx s)
    else if dIs T s ⟨#[102, 110]⟩ = true then dR f (.func (31, n.2)) o (dNx s)
    else if dIs T s ⟨#[40]⟩ = true then (dR f (.expr 0) (o + 1) (dEnter T o s ⟨#[40]⟩)).bind fun r => dret r.1 (dWant T r.2.2 ⟨#[41]⟩)
    else if dIs T s ⟨#[91]⟩ = true then dR f (.several n false) o s
    else if dIs T s ⟨#[123]⟩ = true then dR f (.several n true) o s
    else if dIs T s ⟨#[115, 112, 97, 119, 110]⟩ = true then
      let s1 := dEnter T o s ⟨#[115, 112, 97, 119, 110]⟩
      if s1.e ≠ 0 then dret [] s1
      else (dR f .thing (o + 1) s1).bind fun r =>
        let s2 := if r.2.2.e = 0 ∧ dKd0 r.1 ≠ 28 then dBad T r.2.2 6 else r.2.2
        if s2.e ≠ 0 then dret [] s2
        else dret ((32, (r.1.headD (0, 0, [], 0, 0)).2.1, (r.1.headD (0, 0, [], 0, 0)).2.2.1, (r.1.headD (0, 0, [], 0, 0)).2.2.2.1, n.2.2.2.2) :: r.1.tail) s2
    else dret [n] (dBad T s 6)
  | f + 1, .several n rc, o, s =>
    (dR f (.severalL rc [] 0) (o + 1) (dEnter T o s (if rc then ⟨#[123]⟩ else ⟨#[91]⟩))).bind fun r =>
      dret (dJoin (if rc then 21 else 20, n.2) r.2.1 r.1) (dWant T r.2.2 (if rc then ⟨#[125]⟩ else ⟨#[93]⟩))
  | f + 1, .severalL rc l k, o, s => dgd l k (if s.e = 0 ∧ dIs T s (if rc then ⟨#[125]⟩ else ⟨#[93]⟩) = false then
      let s1 := if 0 < k then dWant T s ⟨#[44]⟩ else s
      if rc = true ∧ s1.e = 0 then
        (dR f (.expr 0) o (dWant T (dNameS T s1) ⟨#[58]⟩)).bind fun r => dR f (.severalL rc (l ++ dJoin (22, 0, dNameT T s1, 0, dAt T s1) 1 r.1) (k + 1)) o r.2.2
      else (dR f (.expr 0) o s1).bind fun r => dR f (.severalL rc (l ++ r.1) (k + 1)) o r.2.2
    else some (l, k, s))

def dProgL : Nat → List ANode → Int → DS → DRes
  | 0, _, _, _ => none
  | f + 1, l, k, s => if s.e = 0 ∧ (dtk T s.i).1 ≠ 0 then (dR T f .stmt 0 s).bind fun r => dProgL f (l ++ r.1) (k + 1) r.2.2 else some (l, k, s)

end

end Go.Proofs.YtdhkcdehedbpcaaDoor

namespace Go.Proofs.YtdhkcdehedbpcaaDoor
open Go Go.RowKit

section
variable {T : List ATok}

def Fw (s s' : DS) : Prop := s.i ≤ s'.i ∧ (s'.e = 0 → s.e = 0)
def Fs (s s' : DS) : Prop := s.i ≤ s'.i ∧ (s'.e = 0 → s.e = 0 ∧ s.i < s'.i)
theorem Fw.refl (s : DS) : Fw s s := ⟨Nat.le_refl _, id⟩
theorem Fs.fw {a b : DS} (h : Fs a b) : Fw a b := ⟨h.1, fun e => (h.2 e).1⟩
theorem Fw.trans {a b c : DS} (h : Fw a b) (k : Fw b c) : Fw a c := ⟨Nat.le_trans h.1 k.1, fun e => h.2 (k.2 e)⟩
theorem Fs.then {a b c : DS} (h : Fs a b) (k : Fw b c) : Fs a c := ⟨Nat.le_trans h.1 k.1, fun e => ⟨(h.2 (k.2 e)).1, Nat.lt_of_lt_of_le (h.2 (k.2 e)).2 k.1⟩⟩
theorem Fw.then {a b c : DS} (h : Fw a b) (k : Fs b c) : Fs a c := ⟨Nat.le_trans h.1 k.1, fun e => ⟨h.2 (k.2 e).1, Nat.lt_of_le_of_lt h.1 (k.2 e).2⟩⟩

theorem fs_bad (s s' : DS) {x : Int} (hx : x ≠ 0) (h : Fw s s') : Fs s (dBad T s' x) := by
 unfold dBad
 split
 ·exact ⟨h.1, fun e => absurd e hx⟩
 ·rename_i h0; exact ⟨h.1, fun e => absurd e h0⟩
theorem fs_nx (s : DS) (h : s.e = 0) : Fs s (dNx s) := ⟨Nat.le_succ _, fun _ => ⟨h, Nat.lt_succ_self _⟩⟩
theorem fs_want (s : DS) (t : ByteArray) : Fs s (dWant T s t) := by
 unfold dWant
 split
 ·rename_i h0
  split
  ·exact fs_nx s h0
  ·exact fs_bad s s (by decide) (Fw.refl s)
 ·rename_i h0; exact ⟨Nat.le_refl _, fun e => absurd e h0⟩
theorem fs_enter (o : Int) (s : DS) (t : ByteArray) : Fs s (dEnter T o s t) := by
 unfold dEnter
 split
 ·rename_i h0
  split
  ·split
   ·exact fs_bad s s (by decide) (Fw.refl s)
   ·exact fs_nx s h0
  ·exact fs_bad s s (by decide) (Fw.refl s)
 ·rename_i h0; exact ⟨Nat.le_refl _, fun e => absurd e h0⟩
theorem fs_name (s : DS) : Fs s (dNameS T s) := by
 unfold dNameS
 split
 ·rename_i h0; exact fs_nx s h0.1
 ·exact fs_bad s s (by decide) (Fw.refl s)
theorem is_e {s : DS} {t : ByteArray} (h : dIs T s t = true) : s.e = 0 := by
 unfold dIs at h
 simp only [Bool.and_eq_true, decide_eq_true_eq] at h
 exact h.1.1
theorem dJoin_ne (n : ANode) (k : Int) (l : List ANode) : dJoin n k l ≠ [] := by unfold dJoin; simp

def dTakes : Dq → Bool
 | .blockL .. | .funcL .. | .exprL .. | .thingL .. | .argsL .. | .severalL .. => false
 | _ => true
def dFull : Dq → Bool
 | .blockL .. | .funcL .. | .args | .argsL .. | .severalL .. => false
 | .exprL _ x | .thingL x => !x.isEmpty
 | _ => true

theorem bnd {α β : Type} {x : Option α} {g : α → Option β} {b : β} (h : x.bind g = some b) : ∃ a, x = some a ∧ g a = some b := Option.bind_eq_some_iff.1 h
theorem rete3 {l l' : List ANode} {k : Int} {s s' : DS} (h : dret l s = some (l', k, s')) : l' = l ∧ s' = s ∧ l.length ≤ 1000000 := by
 unfold dret at h
 by_cases hl : l.length ≤ 1000000
 ·rw [if_pos hl] at h
  simp only [Option.some.injEq, Prod.mk.injEq] at h
  exact ⟨h.1.symm, h.2.2.symm, hl⟩
 ·rw [if_neg hl] at h; cases h
theorem rete {l l' : List ANode} {k : Int} {s s' : DS} (h : dret l s = some (l', k, s')) : l' = l ∧ s' = s := ⟨(rete3 h).1, (rete3 h).2.1⟩
theorem gde {l : List ANode} {k : Int} {r : DRes} {x : List ANode × Int × DS} (h : dgd l k r = some x) : r = some x ∧ l.length ≤ 1000000 ∧ 0 ≤ k ∧ k ≤ 1000000 := by
 unfold dgd at h
 by_cases hl : l.length ≤ 1000000 ∧ 0 ≤ k ∧ k ≤ 1000000
 ·rw [if_pos hl] at h; exact ⟨h, hl⟩
 ·rw [if_neg hl] at h; cases h
theorem some3 {l l' : List ANode} {k k' : Int} {s s' : DS} (h : some (l, k, s) = some (l', k', s')) : l' = l ∧ k' = k ∧ s' = s := by
 simp only [Option.some.injEq, Prod.mk.injEq] at h
 exact ⟨h.1.symm, h.2.1.symm, h.2.2.symm⟩

theorem ite_some {c : Prop} [Decidable c] {a b x : DRes} (h : (if c then a else b) = x) : (c ∧ a = x) ∨ (¬ c ∧ b = x) := by
 by_cases hc : c
 ·rw [if_pos hc] at h; exact .inl ⟨hc, h⟩
 ·rw [if_neg hc] at h; exact .inr ⟨hc, h⟩
theorem fw_if {s x : DS} (a : Fw s x) (c : Prop) [Decidable c] : Fw s (if c then dBad T x 3 else x) := by
 split
 ·exact (fs_bad s _ (by decide) a).fw
 ·exact a

structure Goes (q : Dq) (s : DS) (l : List ANode) (s' : DS) : Prop where
 fw : Fw s s'
 fs : dTakes q = true → Fs s s'
 ne : dFull q = true → s'.e = 0 → l ≠ []

theorem Goes.takes {q : Dq} {s s' : DS} {l : List ANode} (h : Fs s s') (hn : s'.e = 0 → l ≠ []) : Goes q s l s' := ⟨h.fw, fun _ => h, fun _ => hn⟩
theorem Goes.loop {q : Dq} {s s' : DS} {l : List ANode} (h : Fw s s') (ht : dTakes q = false) (hf : dFull q = true → s'.e = 0 → l ≠ []) : Goes q s l s' := ⟨h, fun e => (by rw [ht] at e; cases e), hf⟩

theorem full_ne {x : List ANode} : (!x.isEmpty) = true ↔ x ≠ [] := by cases x <;> simp

theorem dR_goes : ∀ (f : Nat) (q : Dq) (o : Int) (s : DS) (l : List ANode) (k : Int) (s' : DS), dR T f q o s = some (l, k, s') → Goes q s l s'
 | 0, _, _, _, _, _, _, h => by cases h
 | f + 1, q, o, s, l, k, s', h => by
  have ih := dR_goes f
  cases q with
  | block =>
   unfold dR at h
   obtain ⟨⟨l1, k1, s1⟩, h1, h2⟩ := bnd h
   obtain ⟨rfl, rfl⟩ := rete h2
   have g1 := ih _ _ _ _ _ _ h1
   exact .takes ((fs_enter o s _).then (g1.fw.trans (fs_want _ _).fw)) (fun _ => dJoin_ne _ _ _)
  | blockL l0 k0 =>
   unfold dR at h
   replace h := (gde h).1
   split at h
   ·obtain ⟨⟨l1, k1, s1⟩, h1, h2⟩ := bnd h
    exact .loop ((ih _ _ _ _ _ _ h1).fw.trans (ih _ _ _ _ _ _ h2).fw) rfl (fun e => by cases e)
   ·obtain ⟨rfl, rfl, rfl⟩ := some3 h
    exact .loop (Fw.refl _) rfl (fun e => by cases e)
  | func n =>
   unfold dR at h
   obtain ⟨⟨l1, k1, s1⟩, h1, h2⟩ := bnd h
   obtain ⟨⟨l2, k2, s2⟩, h3, h4⟩ := bnd h2
   obtain ⟨rfl, rfl⟩ := rete h4
   exact .takes ((fs_enter o s _).then ((ih _ _ _ _ _ _ h1).fw.trans ((fs_want _ _).fw.trans (ih _ _ _ _ _ _ h3).fw))) (fun _ => dJoin_ne _ _ _)
  | funcL l0 k0 =>
   unfold dR at h
   replace h := (gde h).1
   split at h
   ·simp only at h
    refine .loop (Fw.trans (b := dNameS T (if (if 0 < k0 then dWant T s ⟨#[44]⟩ else s).e = 0 ∧ k0 = 16 ∧ (dtk T (if 0 < k0 then dWant T s ⟨#[44]⟩ else s).i).1 = 1 then dBad T (if 0 < k0 then dWant T s ⟨#[44]⟩ else s) 3 else (if 0 < k0 then dWant T s ⟨#[44]⟩ else s))) ?_ (ih _ _ _ _ _ _ h).fw) rfl (fun e => by cases e)
    have a : Fw s (if 0 < k0 then dWant T s ⟨#[44]⟩ else s) := by split; exact (fs_want _ _).fw; exact Fw.refl _
    exact Fw.trans (fw_if a _) (fs_name _).fw
   ·obtain ⟨rfl, rfl, rfl⟩ := some3 h
    exact .loop (Fw.refl _) rfl (fun e => by cases e)
  | choice =>
   unfold dR at h
   obtain ⟨⟨l1, k1, s1⟩, h1, h2⟩ := bnd h
   obtain ⟨⟨l2, k2, s2⟩, h3, h4⟩ := bnd h2
   have b := (fs_want (T := T) s ⟨#[105, 102]⟩).then ((ih _ _ _ _ _ _ h1).fw.trans (ih _ _ _ _ _ _ h3).fw)
   simp only at h4
   split at h4
   ·rename_i hi
    have c := b.then (fs_nx s2 (is_e hi)).fw
    split at h4
    ·obtain ⟨⟨l5, k5, s5⟩, h5, h6⟩ := bnd h4
     obtain ⟨rfl, rfl⟩ := rete h6
     exact .takes (c.then (ih _ _ _ _ _ _ h5).fw) (fun _ => dJoin_ne _ _ _)
    ·obtain ⟨⟨l5, k5, s5⟩, h5, h6⟩ := bnd h4
     obtain ⟨rfl, rfl⟩ := rete h6
     exact .takes (c.then (ih _ _ _ _ _ _ h5).fw) (fun _ => dJoin_ne _ _ _)
   ·obtain ⟨rfl, rfl⟩ := rete h4
    exact .takes b (fun _ => dJoin_ne _ _ _)
  | stmt =>
   unfold dR at h
   rcases ite_some h with ⟨hi, h⟩ | ⟨hnn, h⟩
   ·have g := ih _ _ _ _ _ _ h; exact .takes (g.fs rfl) (g.ne rfl)
   rcases ite_some h with ⟨hi, h⟩ | ⟨hnn, h⟩
   ·have g := ih _ _ _ _ _ _ h; exact .takes (g.fs rfl) (g.ne rfl)
   rcases ite_some h with ⟨hi, h⟩ | ⟨hnn, h⟩
   ·skip
    have g := ih _ _ _ _ _ _ h
    exact .takes ((fs_nx s (is_e hi.1)).then ((fs_name _).fw.trans g.fw)) (g.ne rfl)
   rcases ite_some h with ⟨hi, h⟩ | ⟨hnn, h⟩
   ·skip
    obtain ⟨⟨l1, k1, s1⟩, h1, h2⟩ := bnd h
    obtain ⟨rfl, rfl⟩ := rete h2
    exact .takes ((fs_nx s (is_e hi)).then ((fs_name _).fw.trans ((fs_want _ _).fw.trans ((ih _ _ _ _ _ _ h1).fw.trans (fs_want _ _).fw)))) (fun _ => dJoin_ne _ _ _)
   rcases ite_some h with ⟨hi, h⟩ | ⟨hnn, h⟩
   ·skip
    obtain ⟨⟨l1, k1, s1⟩, h1, h2⟩ := bnd h
    obtain ⟨⟨l2, k2, s2⟩, h3, h4⟩ := bnd h2
    obtain ⟨rfl, rfl⟩ := rete h4
    exact .takes ((fs_nx s (is_e hi)).then ((ih _ _ _ _ _ _ h1).fw.trans (ih _ _ _ _ _ _ h3).fw)) (fun _ => dJoin_ne _ _ _)
   rcases ite_some h with ⟨hi, h⟩ | ⟨hnn, h⟩
   ·skip
    obtain ⟨rfl, rfl⟩ := rete h
    exact .takes ((fs_nx s (is_e hi)).then (fs_want _ _).fw) (fun _ => dJoin_ne _ _ _)
   rcases ite_some h with ⟨hi, h⟩ | ⟨hnn, h⟩
   ·skip
    obtain ⟨rfl, rfl⟩ := rete h
    exact .takes ((fs_nx s (is_e hi)).then (fs_want _ _).fw) (fun _ => dJoin_ne _ _ _)
   rcases ite_some h with ⟨hi, h⟩ | ⟨hnn, h⟩
   ·have h0 := hi
    rcases ite_some h with ⟨hj, h⟩ | ⟨hnn, h⟩
    ·skip
     obtain ⟨rfl, rfl⟩ := rete h
     exact .takes ((fs_nx s (is_e hi)).then (fs_nx _ (is_e hj)).fw) (fun _ => dJoin_ne _ _ _)
    ·obtain ⟨⟨l1, k1, s1⟩, h1, h2⟩ := bnd h
     obtain ⟨rfl, rfl⟩ := rete h2
     exact .takes ((fs_nx s (is_e hi)).then ((ih _ _ _ _ _ _ h1).fw.trans (fs_want _ _).fw)) (fun _ => dJoin_ne _ _ _)
   rcases ite_some h with ⟨hi, h⟩ | ⟨hnn, h⟩
   ·skip
    obtain ⟨⟨l1, k1, s1⟩, h1, h2⟩ := bnd h
    obtain ⟨rfl, rfl⟩ := rete h2
    exact .takes ((fs_nx s (is_e hi)).then ((ih _ _ _ _ _ _ h1).fw.trans (fs_want _ _).fw)) (fun _ => dJoin_ne _ _ _)
   rcases ite_some h with ⟨hi, h⟩ | ⟨hnn, h⟩
   ·skip
    obtain ⟨⟨l1, k1, s1⟩, h1, h2⟩ := bnd h
    obtain ⟨⟨l2, k2, s2⟩, h3, h4⟩ := bnd h2
    obtain ⟨rfl, rfl⟩ := rete h4
    exact .takes ((fs_nx s (is_e hi)).then ((ih _ _ _ _ _ _ h1).fw.trans ((fs_want _ _).fw.trans ((fs_name _).fw.trans (ih _ _ _ _ _ _ h3).fw)))) (fun _ => dJoin_ne _ _ _)
   ·have g := ih _ _ _ _ _ _ h; exact .takes (g.fs rfl) (g.ne rfl)
  | plain =>
   unfold dR at h
   obtain ⟨⟨l1, k1, s1⟩, h1, h2⟩ := bnd h
   have g1 := ih _ _ _ _ _ _ h1
   simp only at h2
   split at h2
   ·rename_i he
    obtain ⟨rfl, rfl⟩ := rete h2
    exact .takes (g1.fs rfl) (fun e => absurd e he)
   split at h2
   ·obtain ⟨⟨l3, k3, s3⟩, h3, h4⟩ := bnd h2
    obtain ⟨rfl, rfl⟩ := rete h4
    refine .takes ((g1.fs rfl).then (Fw.trans (b := if dKd0 l1 = 19 ∨ dKd0 l1 = 29 ∨ dKd0 l1 = 30 then s1 else dBad T s1 6) ?_ ((fs_want _ _).fw.trans ((ih _ _ _ _ _ _ h3).fw.trans (fs_want _ _).fw)))) (fun _ => dJoin_ne _ _ _)
    split
    ·exact Fw.refl _
    ·exact (fs_bad _ _ (by decide) (Fw.refl _)).fw
   ·obtain ⟨rfl, rfl⟩ := rete h2
    exact .takes ((g1.fs rfl).then (fs_want _ _).fw) (fun _ => dJoin_ne _ _ _)
  | ahead t k0 lev =>
   unfold dR at h
   obtain ⟨⟨l1, k1, s1⟩, h1, h2⟩ := bnd h
   obtain ⟨rfl, rfl⟩ := rete h2
   exact .takes ((fs_enter o s _).then (ih _ _ _ _ _ _ h1).fw) (fun _ => dJoin_ne _ _ _)
  | expr lev =>
   unfold dR at h
   split at h
   ·cases h
   split at h
   ·rename_i he
    obtain ⟨rfl, rfl⟩ := rete h
    exact .takes ⟨Nat.le_refl _, fun e => absurd e he⟩ (fun e => absurd e he)
   split at h
   ·have g := ih _ _ _ _ _ _ h; exact .takes (g.fs rfl) (g.ne rfl)
   split at h
   ·split at h
    ·have g := ih _ _ _ _ _ _ h; exact .takes (g.fs rfl) (g.ne rfl)
    ·have g := ih _ _ _ _ _ _ h; exact .takes (g.fs rfl) (g.ne rfl)
   ·obtain ⟨⟨l1, k1, s1⟩, h1, h2⟩ := bnd h
    have g1 := ih _ _ _ _ _ _ h1
    have g2 := ih _ _ _ _ _ _ h2
    exact .takes ((g1.fs rfl).then g2.fw) (fun e => g2.ne (full_ne.2 (g1.ne rfl (g2.fw.2 e))) e)
  | exprL lev x =>
   unfold dR at h
   replace h := (gde h).1
   split at h
   ·rename_i hc
    obtain ⟨⟨l1, k1, s1⟩, h1, h2⟩ := bnd h
    have g1 := ih _ _ _ _ _ _ h1
    have a := (fs_nx s hc.1).then g1.fw
    simp only at h2
    split at h2
    ·obtain ⟨rfl, rfl⟩ := rete h2
     exact .loop a.fw rfl (fun _ _ => dJoin_ne _ _ _)
    ·have g2 := ih _ _ _ _ _ _ h2
     exact .loop (a.fw.trans g2.fw) rfl (fun _ e => g2.ne rfl e)
   ·obtain ⟨rfl, rfl⟩ := rete h
    exact .loop (Fw.refl _) rfl (fun e _ => full_ne.1 e)
  | thing =>
   unfold dR at h
   obtain ⟨⟨l1, k1, s1⟩, h1, h2⟩ := bnd h
   have g1 := ih _ _ _ _ _ _ h1
   have g2 := ih _ _ _ _ _ _ h2
   exact .takes ((g1.fs rfl).then g2.fw) (fun e => g2.ne (full_ne.2 (g1.ne rfl (g2.fw.2 e))) e)
  | thingL x =>
   unfold dR at h
   replace h := (gde h).1
   split at h
   ·rename_i he
    obtain ⟨rfl, rfl⟩ := rete h
    exact .loop (Fw.refl _) rfl (fun _ e => absurd e he)
   split at h
   ·obtain ⟨⟨l1, k1, s1⟩, h1, h2⟩ := bnd h
    have g2 := ih _ _ _ _ _ _ h2
    exact .loop ((ih _ _ _ _ _ _ h1).fw.trans g2.fw) rfl (fun _ e => g2.ne rfl e)
   split at h
   ·obtain ⟨⟨l1, k1, s1⟩, h1, h2⟩ := bnd h
    have g2 := ih _ _ _ _ _ _ h2
    exact .loop ((fs_enter o s _).fw.trans ((ih _ _ _ _ _ _ h1).fw.trans ((fs_want _ _).fw.trans g2.fw))) rfl (fun _ e => g2.ne rfl e)
   split at h
   ·rename_i hi
    have g2 := ih _ _ _ _ _ _ h
    exact .loop ((fs_nx s (is_e hi)).fw.trans ((fs_name _).fw.trans g2.fw)) rfl (fun _ e => g2.ne rfl e)
   ·obtain ⟨rfl, rfl⟩ := rete h
    exact .loop (Fw.refl _) rfl (fun e _ => full_ne.1 e)
  | args =>
   unfold dR at h
   obtain ⟨⟨l1, k1, s1⟩, h1, h2⟩ := bnd h
   obtain ⟨rfl, rfl, rfl⟩ := some3 h2
   exact ⟨((fs_enter o s _).then ((ih _ _ _ _ _ _ h1).fw.trans (fs_want _ _).fw)).fw, fun _ => (fs_enter o s _).then ((ih _ _ _ _ _ _ h1).fw.trans (fs_want _ _).fw), fun e => by cases e⟩
  | argsL l0 k0 =>
   unfold dR at h
   replace h := (gde h).1
   split at h
   ·obtain ⟨⟨l1, k1, s1⟩, h1, h2⟩ := bnd h
    have a : Fw s (if 0 < k0 then dWant T s ⟨#[44]⟩ else s) := by split; exact (fs_want _ _).fw; exact Fw.refl _
    refine .loop (Fw.trans (b := if (if 0 < k0 then dWant T s ⟨#[44]⟩ else s).e = 0 ∧ k0 = 16 then dBad T (if 0 < k0 then dWant T s ⟨#[44]⟩ else s) 3 else (if 0 < k0 then dWant T s ⟨#[44]⟩ else s)) ?_ ((ih _ _ _ _ _ _ h1).fw.trans (ih _ _ _ _ _ _ h2).fw)) rfl (fun e => by cases e)
    exact fw_if a _
   ·obtain ⟨rfl, rfl, rfl⟩ := some3 h
    exact .loop (Fw.refl _) rfl (fun e => by cases e)
  | prim =>
   unfold dR at h
   have a : Fs s (dNx s) := ⟨Nat.le_succ _, fun e => ⟨e, Nat.lt_succ_self _⟩⟩
   split at h
   ·obtain ⟨rfl, rfl⟩ := rete h; exact .takes a (fun _ => by simp)
   split at h
   ·obtain ⟨rfl, rfl⟩ := rete h; exact .takes a (fun _ => by simp)
   split at h
   ·obtain ⟨rfl, rfl⟩ := rete h; exact .takes a (fun _ => by simp)
   ·have g := ih _ _ _ _ _ _ h; exact .takes (g.fs rfl) (g.ne rfl)
  | about n =>
   unfold dR at h
   rcases ite_some h with ⟨hi, h⟩ | ⟨hnn, h⟩
   ·obtain ⟨rfl, rfl⟩ := rete h; exact .takes (fs_nx s (is_e hi)) (fun _ => by simp)
   rcases ite_some h with ⟨hi, h⟩ | ⟨hnn, h⟩
   ·obtain ⟨rfl, rfl⟩ := rete h; exact .takes (fs_nx s (is_e hi)) (fun _ => by simp)
   rcases ite_some h with ⟨hi, h⟩ | ⟨hnn, h⟩
   ·obtain ⟨rfl, rfl⟩ := rete h; exact .takes (fs_nx s (is_e hi)) (fun _ => by simp)
   rcases ite_some h with ⟨hi, h⟩ | ⟨hnn, h⟩
   ·skip
    have g := ih _ _ _ _ _ _ h
    exact .takes ((fs_nx s (is_e hi)).then g.fw) (g.ne rfl)
   rcases ite_some h with ⟨hi, h⟩ | ⟨hnn, h⟩
   ·obtain ⟨⟨l1, k1, s1⟩, h1, h2⟩ := bnd h
    obtain ⟨rfl, rfl⟩ := rete h2
    have g1 := ih _ _ _ _ _ _ h1
    exact .takes ((fs_enter o s _).then (g1.fw.trans (fs_want _ _).fw)) (fun e => g1.ne rfl ((fs_want _ _).2 e).1)
   rcases ite_some h with ⟨hi, h⟩ | ⟨hnn, h⟩
   ·have g := ih _ _ _ _ _ _ h; exact .takes (g.fs rfl) (g.ne rfl)
   rcases ite_some h with ⟨hi, h⟩ | ⟨hnn, h⟩
   ·have g := ih _ _ _ _ _ _ h; exact .takes (g.fs rfl) (g.ne rfl)
   rcases ite_some h with ⟨hi, h⟩ | ⟨hnn, h⟩
   ·simp only at h
    rcases ite_some h with ⟨hi, h⟩ | ⟨hnn, h⟩
    ·have he := hi
     obtain ⟨rfl, rfl⟩ := rete h
     exact .takes (fs_enter o s _) (fun e => absurd e he)
    ·obtain ⟨⟨l1, k1, s1⟩, h1, h2⟩ := bnd h
     have g1 := ih _ _ _ _ _ _ h1
     have a : Fw s1 (if s1.e = 0 ∧ dKd0 l1 ≠ 28 then dBad T s1 6 else s1) := by
      split
      ·exact (fs_bad _ _ (by decide) (Fw.refl _)).fw
      ·exact Fw.refl _
     have b := (fs_enter (T := T) o s ⟨#[115, 112, 97, 119, 110]⟩).then (g1.fw.trans a)
     simp only at h2
     rcases ite_some h2 with ⟨hi, h2⟩ | ⟨hnn, h2⟩
     ·have he := hi
      obtain ⟨rfl, rfl⟩ := rete h2
      exact .takes b (fun e => absurd e he)
     ·obtain ⟨rfl, rfl⟩ := rete h2
      exact .takes b (fun _ => by simp)
   ·obtain ⟨rfl, rfl⟩ := rete h
    exact .takes (fs_bad s s (by decide) (Fw.refl s)) (fun _ => by simp)
  | several n rc =>
   unfold dR at h
   obtain ⟨⟨l1, k1, s1⟩, h1, h2⟩ := bnd h
   obtain ⟨rfl, rfl⟩ := rete h2
   exact .takes ((fs_enter o s _).then ((ih _ _ _ _ _ _ h1).fw.trans (fs_want _ _).fw)) (fun _ => dJoin_ne _ _ _)
  | severalL rc l0 k0 =>
   unfold dR at h
   replace h := (gde h).1
   rcases ite_some h with ⟨hi, h⟩ | ⟨hnn, h⟩
   ·have a : Fw s (if 0 < k0 then dWant T s ⟨#[44]⟩ else s) := by split; exact (fs_want _ _).fw; exact Fw.refl _
    simp only at h
    rcases ite_some h with ⟨hj, h⟩ | ⟨hnn, h⟩
    ·obtain ⟨⟨l1, k1, s1⟩, h1, h2⟩ := bnd h
     exact .loop (a.trans ((fs_name _).fw.trans ((fs_want _ _).fw.trans ((ih _ _ _ _ _ _ h1).fw.trans (ih _ _ _ _ _ _ h2).fw)))) rfl (fun e => by cases e)
    ·obtain ⟨⟨l1, k1, s1⟩, h1, h2⟩ := bnd h
     exact .loop (a.trans ((ih _ _ _ _ _ _ h1).fw.trans (ih _ _ _ _ _ _ h2).fw)) rfl (fun e => by cases e)
   ·obtain ⟨rfl, rfl, rfl⟩ := some3 h
    exact .loop (Fw.refl _) rfl (fun e => by cases e)

end

end Go.Proofs.YtdhkcdehedbpcaaDoor

