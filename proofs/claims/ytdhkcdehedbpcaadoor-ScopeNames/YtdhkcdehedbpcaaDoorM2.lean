/- How tokens are read as a program, as plain data: parts and what they are made of. Nothing of the program's calls is in it. · The place behind a node: plain data. -/
import Derived.Test.YtdhkcdehedbpcaaDoorM1
set_option linter.unusedSimpArgs false
set_option linter.unusedVariables false
namespace Go.Proofs.YtdhkcdehedbpcaaDoor
open Go Go.RowKit

inductive Prt where
  | mk (kind : Int) (text : List Int) (num : Int) (at_ : Int) (kids : List Prt)

instance : Inhabited Prt := ⟨.mk 0 [] 0 0 []⟩

def Prt.kind : Prt → Int | .mk k _ _ _ _ => k
def Prt.at_ : Prt → Int | .mk _ _ _ a _ => a
def Prt.kids : Prt → List Prt | .mk _ _ _ _ ks => ks

abbrev ANode := Int × Int × List Int × Int × Int

mutual
def Prt.flat : Prt → List ANode
  | .mk k x n a ks => (k, (ks.length : Int), x, n, a) :: flats ks
def flats : List Prt → List ANode
  | [] => []
  | p :: r => p.flat ++ flats r
end

inductive Res where
  | ok (x : Prt) (c : Bool) (i : Nat)
  | bad (e at_ : Int)
  | out

def Res.bind (r : Res) (k : Prt → Bool → Nat → Res) : Res :=
  match r with
  | .ok x c i => k x c i
  | .bad e a => .bad e a
  | .out => .out

def tk (T : List ATok) (i : Nat) : ATok := T.getD i (0, [], 0, 0)
def isT (T : List ATok) (i : Nat) (s : ByteArray) : Bool := ((tk T i).1 == 2 || (tk T i).1 == 5) && decide (strOfNums (tk T i).2.1 = s)
def isO (T : List ATok) (i : Nat) (l : List ByteArray) : Bool := l.any (isT T i)
def here (T : List ATok) (e : Int) (i : Nat) : Res := .bad e (tk T i).2.2.2
def want (T : List ATok) (s : ByteArray) (i : Nat) (k : Nat → Res) : Res := if isT T i s then k (i + 1) else here T 6 i
def wantN (T : List ATok) (i : Nat) (k : Nat → Res) : Res := if (tk T i).1 = 1 then k (i + 1) else here T 6 i
def entr (T : List ATok) (s : ByteArray) (i o : Nat) (k : Nat → Nat → Res) : Res := if isT T i s then (if o = 64 then here T 3 i else k (i + 1) (o + 1)) else here T 6 i

def sgl : Nat → List ByteArray
  | 0 => [⟨#[111, 114]⟩]
  | 1 => [⟨#[97, 110, 100]⟩]
  | 3 => [⟨#[61, 61]⟩, ⟨#[33, 61]⟩, ⟨#[60]⟩, ⟨#[60, 61]⟩, ⟨#[62]⟩, ⟨#[62, 61]⟩]
  | 4 => [⟨#[43]⟩, ⟨#[45]⟩]
  | 5 => [⟨#[42]⟩, ⟨#[47]⟩, ⟨#[37]⟩]
  | _ => []

def jn (t : ATok) (x y : Prt) : Prt :=
  if strOfNums t.2.1 = ⟨#[111, 114]⟩ then .mk 25 [] 0 x.at_ [x, y]
  else if strOfNums t.2.1 = ⟨#[97, 110, 100]⟩ then .mk 24 [] 0 x.at_ [x, y]
  else .mk 23 t.2.1 0 x.at_ [x, y]

def begL : List ByteArray := [⟨#[116, 114, 117, 101]⟩, ⟨#[102, 97, 108, 115, 101]⟩, ⟨#[110, 105, 108]⟩, ⟨#[110, 111, 116]⟩, ⟨#[115, 112, 97, 119, 110]⟩, ⟨#[102, 110]⟩, ⟨#[40]⟩, ⟨#[91]⟩, ⟨#[123]⟩, ⟨#[45]⟩]

def begs (T : List ATok) (i : Nat) : Bool :=
  (tk T i).1 == 1 || (tk T i).1 == 3 || (tk T i).1 == 4 ||
  isO T i begL

inductive Rd where
  | arg | par | ent | key

inductive Nt where
  | lev (k : Nat)
  | more (k : Nat) (x : Prt)
  | thing
  | things (x : Prt) (c : Bool)
  | single
  | read (r : Rd) (n : Nat)
  | row (r : Rd) (b e : ByteArray)
  | rows (r : Rd) (e : ByteArray) (acc : List Prt)
  | body (kind : Int) (text : List Int) (at_ : Int)
  | block
  | stmts (at_ : Int) (acc : List Prt)
  | stmt
  | choice
  | prog (acc : List Prt)

def semi (T : List ATok) (i : Nat) (x : Prt) : Res := want T ⟨#[59]⟩ i fun i => .ok x false i

def pP (T : List ATok) : Nat → Nt → Nat → Nat → Res
  | 0, _, _, _ => .out
  | f + 1, .lev k, i, o =>
    if k = 2 then
      (if isT T i ⟨#[110, 111, 116]⟩ then entr T ⟨#[110, 111, 116]⟩ i o fun j o => (pP T f (.lev 2) j o).bind fun x _ j => .ok (.mk 26 [] 0 (tk T i).2.2.2 [x]) false j
       else pP T f (.lev 3) i o)
    else if k = 3 then
      (pP T f (.lev 4) i o).bind fun x _ i => if isO T i (sgl 3) then (pP T f (.lev 4) (i + 1) o).bind fun y _ j => .ok (jn (tk T i) x y) false j else .ok x false i
    else if k = 6 then
      (if isT T i ⟨#[45]⟩ then entr T ⟨#[45]⟩ i o fun j o => (pP T f (.lev 6) j o).bind fun x _ j => .ok (.mk 27 [] 0 (tk T i).2.2.2 [x]) false j
       else if isT T i ⟨#[115, 112, 97, 119, 110]⟩ then entr T ⟨#[115, 112, 97, 119, 110]⟩ i o fun j o => (pP T f .thing j o).bind fun x c j => if c then .ok (.mk 32 [] 0 (tk T i).2.2.2 x.kids) false j else here T 6 j
       else (pP T f .thing i o).bind fun x _ i => .ok x false i)
    else (pP T f (.lev (k + 1)) i o).bind fun x _ i => pP T f (.more k x) i o
  | f + 1, .more k x, i, o =>
    if isO T i (sgl k) then (pP T f (.lev (k + 1)) (i + 1) o).bind fun y _ j => pP T f (.more k (jn (tk T i) x y)) j o else .ok x false i
  | f + 1, .thing, i, o => (pP T f .single i o).bind fun x _ i => pP T f (.things x false) i o
  | f + 1, .things x c, i, o =>
    if isT T i ⟨#[40]⟩ then (pP T f (.row .arg ⟨#[40]⟩ ⟨#[41]⟩) i o).bind fun r _ i => pP T f (.things (.mk 28 [] 0 x.at_ (x :: r.kids)) true) i o
    else if isT T i ⟨#[91]⟩ then entr T ⟨#[91]⟩ i o fun i o' => (pP T f (.lev 0) i o').bind fun y _ i => want T ⟨#[93]⟩ i fun i => pP T f (.things (.mk 29 [] 0 x.at_ [x, y]) false) i o
    else if isT T i ⟨#[46]⟩ then wantN T (i + 1) fun j => pP T f (.things (.mk 30 (tk T (i + 1)).2.1 0 x.at_ [x]) false) j o
    else .ok x c i
  | f + 1, .single, i, o =>
    if (tk T i).1 = 3 then .ok (.mk 14 [] (tk T i).2.2.1 (tk T i).2.2.2 []) false (i + 1)
    else if (tk T i).1 = 4 then .ok (.mk 15 (tk T i).2.1 0 (tk T i).2.2.2 []) false (i + 1)
    else if (tk T i).1 = 1 then .ok (.mk 19 (tk T i).2.1 0 (tk T i).2.2.2 []) false (i + 1)
    else if isT T i ⟨#[116, 114, 117, 101]⟩ then .ok (.mk 16 [] 0 (tk T i).2.2.2 []) false (i + 1)
    else if isT T i ⟨#[102, 97, 108, 115, 101]⟩ then .ok (.mk 17 [] 0 (tk T i).2.2.2 []) false (i + 1)
    else if isT T i ⟨#[110, 105, 108]⟩ then .ok (.mk 18 [] 0 (tk T i).2.2.2 []) false (i + 1)
    else if isT T i ⟨#[91]⟩ then (pP T f (.row .ent ⟨#[91]⟩ ⟨#[93]⟩) i o).bind fun r _ j => .ok (.mk 20 [] 0 (tk T i).2.2.2 r.kids) false j
    else if isT T i ⟨#[123]⟩ then (pP T f (.row .key ⟨#[123]⟩ ⟨#[125]⟩) i o).bind fun r _ j => .ok (.mk 21 [] 0 (tk T i).2.2.2 r.kids) false j
    else if isT T i ⟨#[102, 110]⟩ then pP T f (.body 31 [] (tk T i).2.2.2) (i + 1) o
    else entr T ⟨#[40]⟩ i o fun i o => (pP T f (.lev 0) i o).bind fun x _ i => want T ⟨#[41]⟩ i fun i => .ok x false i
  | f + 1, .read .arg n, i, o => if n = 16 ∧ begs T i = true then here T 3 i else pP T f (.lev 0) i o
  | f + 1, .read .par n, i, o => if n = 16 ∧ (tk T i).1 = 1 then here T 3 i else wantN T i fun j => .ok (.mk 19 (tk T i).2.1 0 (tk T i).2.2.2 []) false j
  | f + 1, .read .ent n, i, o => pP T f (.lev 0) i o
  | f + 1, .read .key n, i, o => wantN T i fun j => want T ⟨#[58]⟩ j fun j => (pP T f (.lev 0) j o).bind fun x _ j => .ok (.mk 22 (tk T i).2.1 0 (tk T i).2.2.2 [x]) false j
  | f + 1, .row r b e, i, o =>
    entr T b i o fun i o => if isT T i e then .ok (.mk 0 [] 0 0 []) false (i + 1) else (pP T f (.read r 0) i o).bind fun x _ i => pP T f (.rows r e [x]) i o
  | f + 1, .rows r e acc, i, o =>
    if isT T i ⟨#[44]⟩ then (pP T f (.read r acc.length) (i + 1) o).bind fun x _ i => pP T f (.rows r e (acc ++ [x])) i o
    else want T e i fun i => .ok (.mk 0 [] 0 0 acc) false i
  | f + 1, .body kind text at_, i, o =>
    (pP T f (.row .par ⟨#[40]⟩ ⟨#[41]⟩) i o).bind fun r _ i => (pP T f .block i o).bind fun b _ i => .ok (.mk kind text r.kids.length at_ (r.kids ++ [b])) false i
  | f + 1, .block, i, o => entr T ⟨#[123]⟩ i o fun j o => pP T f (.stmts (tk T i).2.2.2 []) j o
  | f + 1, .stmts at_ acc, i, o =>
    if isT T i ⟨#[125]⟩ then .ok (.mk 2 [] 0 at_ acc) false (i + 1) else (pP T f .stmt i o).bind fun x _ i => pP T f (.stmts at_ (acc ++ [x])) i o
  | f + 1, .stmt, i, o =>
    if isT T i ⟨#[123]⟩ then pP T f .block i o
    else if isT T i ⟨#[118, 97, 114]⟩ then wantN T (i + 1) fun j => want T ⟨#[61]⟩ j fun j => (pP T f (.lev 0) j o).bind fun x _ j => semi T j (.mk 3 (tk T (i + 1)).2.1 0 (tk T i).2.2.2 [x])
    else if isT T i ⟨#[105, 102]⟩ then pP T f .choice i o
    else if isT T i ⟨#[119, 104, 105, 108, 101]⟩ then (pP T f (.lev 0) (i + 1) o).bind fun x _ j => (pP T f .block j o).bind fun y _ j => .ok (.mk 6 [] 0 (tk T i).2.2.2 [x, y]) false j
    else if isT T i ⟨#[98, 114, 101, 97, 107]⟩ then semi T (i + 1) (.mk 7 [] 0 (tk T i).2.2.2 [])
    else if isT T i ⟨#[99, 111, 110, 116, 105, 110, 117, 101]⟩ then semi T (i + 1) (.mk 8 [] 0 (tk T i).2.2.2 [])
    else if isT T i ⟨#[114, 101, 116, 117, 114, 110]⟩ then
      (if isT T (i + 1) ⟨#[59]⟩ then semi T (i + 1) (.mk 9 [] 0 (tk T i).2.2.2 [])
       else (pP T f (.lev 0) (i + 1) o).bind fun x _ j => semi T j (.mk 9 [] 0 (tk T i).2.2.2 [x]))
    else if isT T i ⟨#[116, 104, 114, 111, 119]⟩ then (pP T f (.lev 0) (i + 1) o).bind fun x _ j => semi T j (.mk 10 [] 0 (tk T i).2.2.2 [x])
    else if isT T i ⟨#[116, 114, 121]⟩ then
      (pP T f .block (i + 1) o).bind fun x _ j => want T ⟨#[99, 97, 116, 99, 104]⟩ j fun j => wantN T j fun j' => (pP T f .block j' o).bind fun y _ j' => .ok (.mk 11 (tk T j).2.1 0 (tk T i).2.2.2 [x, y]) false j'
    else if isT T i ⟨#[102, 110]⟩ && (tk T (i + 1)).1 == 1 then pP T f (.body 12 (tk T (i + 1)).2.1 (tk T i).2.2.2) (i + 2) o
    else (pP T f (.lev 0) i o).bind fun x _ j =>
      if (x.kind == 19 || x.kind == 29 || x.kind == 30) && isT T j ⟨#[61]⟩ then (pP T f (.lev 0) (j + 1) o).bind fun y _ j => semi T j (.mk 4 [] 0 x.at_ [x, y])
      else semi T j (.mk 13 [] 0 x.at_ [x])
  | f + 1, .choice, i, o =>
    want T ⟨#[105, 102]⟩ i fun j => (pP T f (.lev 0) j o).bind fun x _ j => (pP T f .block j o).bind fun y _ j =>
      if isT T j ⟨#[101, 108, 115, 101]⟩ then
        (if isT T (j + 1) ⟨#[105, 102]⟩ then (pP T f .choice (j + 1) o).bind fun z _ j => .ok (.mk 5 [] 0 (tk T i).2.2.2 [x, y, z]) false j
         else (pP T f .block (j + 1) o).bind fun z _ j => .ok (.mk 5 [] 0 (tk T i).2.2.2 [x, y, z]) false j)
      else .ok (.mk 5 [] 0 (tk T i).2.2.2 [x, y]) false j
  | f + 1, .prog acc, i, o =>
    if (tk T i).1 = 0 then .ok (.mk 1 [] 0 0 acc) false i else (pP T f .stmt i o).bind fun x _ i => pP T f (.prog (acc ++ [x])) i o

def parA (b : List Int) : List ANode × Int × Int :=
  match lexA b with
  | (T, e, at_) =>
    if e ≠ 0 then ([], e, at_) else
    match pP T (40 * (T.length + 1)) (.prog []) 0 0 with
    | .ok x _ _ => (x.flat, 0, b.length)
    | .bad e a => ([], e, a)
    | .out => ([], 0, 0)

end Go.Proofs.YtdhkcdehedbpcaaDoor

namespace Go.Proofs.YtdhkcdehedbpcaaDoor
open Go Go.RowKit

def cns : List Nat → Nat → Option Nat
 | _, 0 => some 0
 | [], _ + 1 => none
 | k :: r, d + 1 => (cns r (d + k)).map (· + 1)

theorem cns_le : ∀ (l : List Nat) (d m : Nat), cns l d = some m → d ≤ m ∧ m ≤ l.length
 | l, 0, m, h => by
  cases l <;> simp [cns] at h <;> subst h <;> simp
 | [], d + 1, m, h => by simp [cns] at h
 | k :: r, d + 1, m, h => by
  simp only [cns] at h
  cases h2 : cns r (d + k) with
  | none => rw [h2] at h; simp at h
  | some n =>
   rw [h2] at h
   simp at h
   have := cns_le r (d + k) n h2
   simp
   omega

def kidsN (L : List ANode) : List Nat := L.map fun n => n.2.1.toNat

def bhP (L : List ANode) (at_ : Nat) : Option Nat := (cns ((kidsN L).drop at_) 1).map (at_ + ·)

end Go.Proofs.YtdhkcdehedbpcaaDoor

