/- How a text is cut into tokens, as plain data: bytes as numbers, what is behind a place as a list. Nothing of the program is in it. · How tokens are read as a program, as plain data: parts and what they are made of. Nothing of the program's calls is in it. · What follows of how a text is cut: strings as they are shown, numbers as they are shown, parts one behind the other. Nothing of the program is in it. · The place behind a node: plain data. -/
import Derived.RowKit
import Derived.Laws.BytesArg
set_option linter.unusedSimpArgs false
set_option linter.unusedVariables false
namespace Go.Proofs.YtdhkcdehedbpcaaDoor
open Go Go.RowKit

def isBl (c : Int) : Bool := c == 32 || c == 9 || c == 10 || c == 13
def isDg (c : Int) : Bool := decide (48 ≤ c) && decide (c ≤ 57)
def isLt (c : Int) : Bool := (decide (97 ≤ c) && decide (c ≤ 122)) || (decide (65 ≤ c) && decide (c ≤ 90)) || c == 95
def isNm (c : Int) : Bool := isLt c || isDg c
def sg1 : List Int := [43, 45, 42, 47, 37, 60, 62, 61, 40, 41, 91, 93, 123, 125, 44, 59, 58, 46]
def isSg (c : Int) : Bool := c == 33 || sg1.contains c
def begn (c : Int) : Bool := isLt c || isDg c || c == 34 || isSg c
def hexV (c : Int) : Option Int :=
  if 48 ≤ c ∧ c ≤ 57 then some (c - 48) else if 97 ≤ c ∧ c ≤ 102 then some (c - 97 + 10) else if 65 ≤ c ∧ c ≤ 70 then some (c - 65 + 10) else none
def words : List (List Int) :=
  [[118, 97, 114], [102, 110], [105, 102], [101, 108, 115, 101], [119, 104, 105, 108, 101], [98, 114, 101, 97, 107], [99, 111, 110, 116, 105, 110, 117, 101], [114, 101, 116, 117, 114, 110], [116, 104, 114, 111, 119], [116, 114, 121], [99, 97, 116, 99, 104], [115, 112, 97, 119, 110], [116, 114, 117, 101], [102, 97, 108, 115, 101], [110, 105, 108], [97, 110, 100], [111, 114], [110, 111, 116]]
def isWord (l : List Int) : Bool := decide (l ∈ words)

/-- How many at the head are so? -/
def twl (p : Int → Bool) (r : List Int) : Nat := (r.takeWhile p).length

/-- A token: kind, text, number, place. -/
abbrev ATok := Int × List Int × Int × Int
def tkV (t : ATok) : List Value := [.int .i64 t.1, .string (strOfNums t.2.1), .int .i64 t.2.2.1, .int .i64 t.2.2.2]

/-- What is cut at a place: kind, text, number, how many bytes; or the error, and how far behind the place. -/
inductive Cut where
  | tok (kind : Int) (text : List Int) (num : Int) (len : Nat)
  | bad (e : Int) (off : Nat)
deriving DecidableEq, Inhabited

def cName (r : List Int) : Cut := .tok (if isWord (r.takeWhile isNm) then 2 else 1) (r.takeWhile isNm) 0 (twl isNm r)

def numStep (s : Int × Bool) (d : Int) : Int × Bool := if s.1 > (2305843009213693951 - (d - 48)).tdiv 10 then (s.1, true) else (10 * s.1 + (d - 48), s.2)
def numOf (l : List Int) : Int × Bool := l.foldl numStep (0, false)

def cNum (r : List Int) : Cut :=
  if r.head? = some 48 ∧ 1 < twl isDg r then .bad 6 1
  else if (r[twl isDg r]?.map isLt) = some true then .bad 6 (twl isDg r)
  else if (numOf (r.takeWhile isDg)).2 then .bad 9 0
  else .tok 3 [] (numOf (r.takeWhile isDg)).1 (twl isDg r)

/-- What a \ and what is behind it say: the byte and how many bytes are behind the \; or how far the fault is behind the \. -/
def esc (r : List Int) : (Int × Nat) ⊕ Nat :=
  match r with
  | [] => .inr 1
  | c :: t =>
    if c = 34 ∨ c = 92 then .inl (c, 2) else if c = 110 then .inl (10, 2) else if c = 116 then .inl (9, 2)
    else if c = 120 then
      match t with
      | [] => .inr 2
      | x :: u =>
        match hexV x with
        | none => .inr 2
        | some i =>
          match u with
          | [] => .inr 3
          | y :: _ =>
            match hexV y with
            | none => .inr 3
            | some j => .inl (16 * i + j, 4)
    else .inr 1

/-- The rest of a string; k: how many bytes of it are behind. -/
def cStr : Nat → List Int → List Int → Nat → Cut
  | 0, _, _, k => .bad 6 k
  | f + 1, r, acc, k =>
    match r with
    | [] => .bad 6 k
    | c :: t =>
      if c = 34 then .tok 4 acc 0 (k + 1)
      else if c = 10 then .bad 6 k
      else if c = 92 then
        match esc t with
        | .inr m => .bad 6 (k + m)
        | .inl (x, m) => cStr f (r.drop m) (acc ++ [x]) (k + m)
      else cStr f t (acc ++ [c]) (k + 1)

def cSign (r : List Int) : Cut :=
  match r with
  | [] => .bad 6 1
  | c :: t =>
    if t.head? = some 61 ∧ (c = 61 ∨ c = 33 ∨ c = 60 ∨ c = 62) then .tok 5 [c, 61] 0 2
    else if sg1.contains c then .tok 5 [c] 0 1
    else .bad 6 1

def cut (r : List Int) : Cut :=
  match r with
  | [] => .bad 6 1
  | c :: t => if isLt c then cName r else if isDg c then cNum r else if c = 34 then cStr (t.length + 1) t [] 1 else cSign r

/-- All tokens from a place on, those ahead being there; or the error and its place. -/
def lexF : Nat → List Int → Nat → List ATok → List ATok × Int × Nat
  | 0, _, at_, acc => (acc, 0, at_)
  | f + 1, r, at_, acc =>
    match r with
    | [] => (acc ++ [(0, [], 0, (at_ : Int))], 0, at_)
    | c :: t =>
      if isBl c then lexF f t (at_ + 1) acc
      else if c = 35 then lexF f (t.drop (twl (· != 10) t)) (at_ + 1 + twl (· != 10) t) acc
      else if begn c = false then ([], 6, at_)
      else if acc.length = 16384 then ([], 3, at_)
      else match cut r with
        | .bad e off => ([], e, at_ + off)
        | .tok k x n len => lexF f (r.drop len) (at_ + len) (acc ++ [(k, x, n, (at_ : Int))])

def lexA (b : List Int) : List ATok × Int × Nat := if 65536 < b.length then ([], 2, 0) else lexF (b.length + 1) b 0 []

end Go.Proofs.YtdhkcdehedbpcaaDoor

set_option linter.unusedSimpArgs false
set_option linter.unusedVariables false
namespace Go.Proofs.YtdhkcdehedbpcaaDoor
open Go Go.RowKit

/-- A part: kind, text, number, place, what it is made of. -/
inductive Prt where
  | mk (kind : Int) (text : List Int) (num : Int) (at_ : Int) (kids : List Prt)

instance : Inhabited Prt := ⟨.mk 0 [] 0 0 []⟩

def Prt.kind : Prt → Int | .mk k _ _ _ _ => k
def Prt.at_ : Prt → Int | .mk _ _ _ a _ => a
def Prt.kids : Prt → List Prt | .mk _ _ _ _ ks => ks

/-- A node: kind, how many, text, number, place. -/
abbrev ANode := Int × Int × List Int × Int × Int

mutual
def Prt.flat : Prt → List ANode
  | .mk k x n a ks => (k, (ks.length : Int), x, n, a) :: flats ks
def flats : List Prt → List ANode
  | [] => []
  | p :: r => p.flat ++ flats r
end

/-- What comes of reading: a part, whether a call was last, the next token; or a fault and its place; or more steps are wanted. -/
inductive Res where
  | ok (x : Prt) (c : Bool) (i : Nat)
  | bad (e at_ : Int)
  | out

def Res.bind (r : Res) (k : Prt → Bool → Nat → Res) : Res :=
  match r with
  | .ok x c i => k x c i
  | .bad e a => .bad e a
  | .out => .out

def tk (T : List ATok) (i : Nat) : ATok := T.getD i (0, [], 0, 0)
def isT (T : List ATok) (i : Nat) (s : ByteArray) : Bool := ((tk T i).1 == 2 || (tk T i).1 == 5) && decide (strOfNums (tk T i).2.1 = s)
def isO (T : List ATok) (i : Nat) (l : List ByteArray) : Bool := l.any (isT T i)
def here (T : List ATok) (e : Int) (i : Nat) : Res := .bad e (tk T i).2.2.2
def want (T : List ATok) (s : ByteArray) (i : Nat) (k : Nat → Res) : Res := if isT T i s then k (i + 1) else here T 6 i
def wantN (T : List ATok) (i : Nat) (k : Nat → Res) : Res := if (tk T i).1 = 1 then k (i + 1) else here T 6 i
def entr (T : List ATok) (s : ByteArray) (i o : Nat) (k : Nat → Nat → Res) : Res := if isT T i s then (if o = 64 then here T 3 i else k (i + 1) (o + 1)) else here T 6 i

/-- The signs of a level. -/
def sgl : Nat → List ByteArray
  | 0 => [⟨#[111, 114]⟩]
  | 1 => [⟨#[97, 110, 100]⟩]
  | 3 => [⟨#[61, 61]⟩, ⟨#[33, 61]⟩, ⟨#[60]⟩, ⟨#[60, 61]⟩, ⟨#[62]⟩, ⟨#[62, 61]⟩]
  | 4 => [⟨#[43]⟩, ⟨#[45]⟩]
  | 5 => [⟨#[42]⟩, ⟨#[47]⟩, ⟨#[37]⟩]
  | _ => []

/-- Two joined by a sign. -/
def jn (t : ATok) (x y : Prt) : Prt :=
  if strOfNums t.2.1 = ⟨#[111, 114]⟩ then .mk 25 [] 0 x.at_ [x, y]
  else if strOfNums t.2.1 = ⟨#[97, 110, 100]⟩ then .mk 24 [] 0 x.at_ [x, y]
  else .mk 23 t.2.1 0 x.at_ [x, y]

def begL : List ByteArray := [⟨#[116, 114, 117, 101]⟩, ⟨#[102, 97, 108, 115, 101]⟩, ⟨#[110, 105, 108]⟩, ⟨#[110, 111, 116]⟩, ⟨#[115, 112, 97, 119, 110]⟩, ⟨#[102, 110]⟩, ⟨#[40]⟩, ⟨#[91]⟩, ⟨#[123]⟩, ⟨#[45]⟩]

def begs (T : List ATok) (i : Nat) : Bool :=
  (tk T i).1 == 1 || (tk T i).1 == 3 || (tk T i).1 == 4 ||
  isO T i begL

/-- What stands in a row. -/
inductive Rd where
  | arg | par | ent | key

/-- What is read. -/
inductive Nt where
  | lev (k : Nat)
  | more (k : Nat) (x : Prt)
  | thing
  | things (x : Prt) (c : Bool)
  | single
  | read (r : Rd) (n : Nat)
  | row (r : Rd) (b e : ByteArray)
  | rows (r : Rd) (e : ByteArray) (acc : List Prt)
  | body (kind : Int) (text : List Int) (at_ : Int)
  | block
  | stmts (at_ : Int) (acc : List Prt)
  | stmt
  | choice
  | prog (acc : List Prt)

def semi (T : List ATok) (i : Nat) (x : Prt) : Res := want T ⟨#[59]⟩ i fun i => .ok x false i

/-- The parts of a program from a token on; o: how many are open. -/
def pP (T : List ATok) : Nat → Nt → Nat → Nat → Res
  | 0, _, _, _ => .out
  | f + 1, .lev k, i, o =>
    if k = 2 then
      (if isT T i ⟨#[110, 111, 116]⟩ then entr T ⟨#[110, 111, 116]⟩ i o fun j o => (pP T f (.lev 2) j o).bind fun x _ j => .ok (.mk 26 [] 0 (tk T i).2.2.2 [x]) false j
       else pP T f (.lev 3) i o)
    else if k = 3 then
      (pP T f (.lev 4) i o).bind fun x _ i => if isO T i (sgl 3) then (pP T f (.lev 4) (i + 1) o).bind fun y _ j => .ok (jn (tk T i) x y) false j else .ok x false i
    else if k = 6 then
      (if isT T i ⟨#[45]⟩ then entr T ⟨#[45]⟩ i o fun j o => (pP T f (.lev 6) j o).bind fun x _ j => .ok (.mk 27 [] 0 (tk T i).2.2.2 [x]) false j
       else if isT T i ⟨#[115, 112, 97, 119, 110]⟩ then entr T ⟨#[115, 112, 97, 119, 110]⟩ i o fun j o => (pP T f .thing j o).bind fun x c j => if c then .ok (.mk 32 [] 0 (tk T i).2.2.2 x.kids) false j else here T 6 j
       else (pP T f .thing i o).bind fun x _ i => .ok x false i)
    else (pP T f (.lev (k + 1)) i o).bind fun x _ i => pP T f (.more k x) i o
  | f + 1, .more k x, i, o =>
    if isO T i (sgl k) then (pP T f (.lev (k + 1)) (i + 1) o).bind fun y _ j => pP T f (.more k (jn (tk T i) x y)) j o else .ok x false i
  | f + 1, .thing, i, o => (pP T f .single i o).bind fun x _ i => pP T f (.things x false) i o
  | f + 1, .things x c, i, o =>
    if isT T i ⟨#[40]⟩ then (pP T f (.row .arg ⟨#[40]⟩ ⟨#[41]⟩) i o).bind fun r _ i => pP T f (.things (.mk 28 [] 0 x.at_ (x :: r.kids)) true) i o
    else if isT T i ⟨#[91]⟩ then entr T ⟨#[91]⟩ i o fun i o' => (pP T f (.lev 0) i o').bind fun y _ i => want T ⟨#[93]⟩ i fun i => pP T f (.things (.mk 29 [] 0 x.at_ [x, y]) false) i o
    else if isT T i ⟨#[46]⟩ then wantN T (i + 1) fun j => pP T f (.things (.mk 30 (tk T (i + 1)).2.1 0 x.at_ [x]) false) j o
    else .ok x c i
  | f + 1, .single, i, o =>
    if (tk T i).1 = 3 then .ok (.mk 14 [] (tk T i).2.2.1 (tk T i).2.2.2 []) false (i + 1)
    else if (tk T i).1 = 4 then .ok (.mk 15 (tk T i).2.1 0 (tk T i).2.2.2 []) false (i + 1)
    else if (tk T i).1 = 1 then .ok (.mk 19 (tk T i).2.1 0 (tk T i).2.2.2 []) false (i + 1)
    else if isT T i ⟨#[116, 114, 117, 101]⟩ then .ok (.mk 16 [] 0 (tk T i).2.2.2 []) false (i + 1)
    else if isT T i ⟨#[102, 97, 108, 115, 101]⟩ then .ok (.mk 17 [] 0 (tk T i).2.2.2 []) false (i + 1)
    else if isT T i ⟨#[110, 105, 108]⟩ then .ok (.mk 18 [] 0 (tk T i).2.2.2 []) false (i + 1)
    else if isT T i ⟨#[91]⟩ then (pP T f (.row .ent ⟨#[91]⟩ ⟨#[93]⟩) i o).bind fun r _ j => .ok (.mk 20 [] 0 (tk T i).2.2.2 r.kids) false j
    else if isT T i ⟨#[123]⟩ then (pP T f (.row .key ⟨#[123]⟩ ⟨#[125]⟩) i o).bind fun r _ j => .ok (.mk 21 [] 0 (tk T i).2.2.2 r.kids) false j
    else if isT T i ⟨#[102, 110]⟩ then pP T f (.body 31 [] (tk T i).2.2.2) (i + 1) o
    else entr T ⟨#[40]⟩ i o fun i o => (pP T f (.lev 0) i o).bind fun x _ i => want T ⟨#[41]⟩ i fun i => .ok x false i
  | f + 1, .read .arg n, i, o => if n = 16 ∧ begs T i = true then here T 3 i else pP T f (.lev 0) i o
  | f + 1, .read .par n, i, o => if n = 16 ∧ (tk T i).1 = 1 then here T 3 i else wantN T i fun j => .ok (.mk 19 (tk T i).2.1 0 (tk T i).2.2.2 []) false j
  | f + 1, .read .ent n, i, o => pP T f (.lev 0) i o
  | f + 1, .read .key n, i, o => wantN T i fun j => want T ⟨#[58]⟩ j fun j => (pP T f (.lev 0) j o).bind fun x _ j => .ok (.mk 22 (tk T i).2.1 0 (tk T i).2.2.2 [x]) false j
  | f + 1, .row r b e, i, o =>
    entr T b i o fun i o => if isT T i e then .ok (.mk 0 [] 0 0 []) false (i + 1) else (pP T f (.read r 0) i o).bind fun x _ i => pP T f (.rows r e [x]) i o
  | f + 1, .rows r e acc, i, o =>
    if isT T i ⟨#[44]⟩ then (pP T f (.read r acc.length) (i + 1) o).bind fun x _ i => pP T f (.rows r e (acc ++ [x])) i o
    else want T e i fun i => .ok (.mk 0 [] 0 0 acc) false i
  | f + 1, .body kind text at_, i, o =>
    (pP T f (.row .par ⟨#[40]⟩ ⟨#[41]⟩) i o).bind fun r _ i => (pP T f .block i o).bind fun b _ i => .ok (.mk kind text r.kids.length at_ (r.kids ++ [b])) false i
  | f + 1, .block, i, o => entr T ⟨#[123]⟩ i o fun j o => pP T f (.stmts (tk T i).2.2.2 []) j o
  | f + 1, .stmts at_ acc, i, o =>
    if isT T i ⟨#[125]⟩ then .ok (.mk 2 [] 0 at_ acc) false (i + 1) else (pP T f .stmt i o).bind fun x _ i => pP T f (.stmts at_ (acc ++ [x])) i o
  | f + 1, .stmt, i, o =>
    if isT T i ⟨#[123]⟩ then pP T f .block i o
    else if isT T i ⟨#[118, 97, 114]⟩ then wantN T (i + 1) fun j => want T ⟨#[61]⟩ j fun j => (pP T f (.lev 0) j o).bind fun x _ j => semi T j (.mk 3 (tk T (i + 1)).2.1 0 (tk T i).2.2.2 [x])
    else if isT T i ⟨#[105, 102]⟩ then pP T f .choice i o
    else if isT T i ⟨#[119, 104, 105, 108, 101]⟩ then (pP T f (.lev 0) (i + 1) o).bind fun x _ j => (pP T f .block j o).bind fun y _ j => .ok (.mk 6 [] 0 (tk T i).2.2.2 [x, y]) false j
    else if isT T i ⟨#[98, 114, 101, 97, 107]⟩ then semi T (i + 1) (.mk 7 [] 0 (tk T i).2.2.2 [])
    else if isT T i ⟨#[99, 111, 110, 116, 105, 110, 117, 101]⟩ then semi T (i + 1) (.mk 8 [] 0 (tk T i).2.2.2 [])
    else if isT T i ⟨#[114, 101, 116, 117, 114, 110]⟩ then
      (if isT T (i + 1) ⟨#[59]⟩ then semi T (i + 1) (.mk 9 [] 0 (tk T i).2.2.2 [])
       else (pP T f (.lev 0) (i + 1) o).bind fun x _ j => semi T j (.mk 9 [] 0 (tk T i).2.2.2 [x]))
    else if isT T i ⟨#[116, 104, 114, 111, 119]⟩ then (pP T f (.lev 0) (i + 1) o).bind fun x _ j => semi T j (.mk 10 [] 0 (tk T i).2.2.2 [x])
    else if isT T i ⟨#[116, 114, 121]⟩ then
      (pP T f .block (i + 1) o).bind fun x _ j => want T ⟨#[99, 97, 116, 99, 104]⟩ j fun j => wantN T j fun j' => (pP T f .block j' o).bind fun y _ j' => .ok (.mk 11 (tk T j).2.1 0 (tk T i).2.2.2 [x, y]) false j'
    else if isT T i ⟨#[102, 110]⟩ && (tk T (i + 1)).1 == 1 then pP T f (.body 12 (tk T (i + 1)).2.1 (tk T i).2.2.2) (i + 2) o
    else (pP T f (.lev 0) i o).bind fun x _ j =>
      if (x.kind == 19 || x.kind == 29 || x.kind == 30) && isT T j ⟨#[61]⟩ then (pP T f (.lev 0) (j + 1) o).bind fun y _ j => semi T j (.mk 4 [] 0 x.at_ [x, y])
      else semi T j (.mk 13 [] 0 x.at_ [x])
  | f + 1, .choice, i, o =>
    want T ⟨#[105, 102]⟩ i fun j => (pP T f (.lev 0) j o).bind fun x _ j => (pP T f .block j o).bind fun y _ j =>
      if isT T j ⟨#[101, 108, 115, 101]⟩ then
        (if isT T (j + 1) ⟨#[105, 102]⟩ then (pP T f .choice (j + 1) o).bind fun z _ j => .ok (.mk 5 [] 0 (tk T i).2.2.2 [x, y, z]) false j
         else (pP T f .block (j + 1) o).bind fun z _ j => .ok (.mk 5 [] 0 (tk T i).2.2.2 [x, y, z]) false j)
      else .ok (.mk 5 [] 0 (tk T i).2.2.2 [x, y]) false j
  | f + 1, .prog acc, i, o =>
    if (tk T i).1 = 0 then .ok (.mk 1 [] 0 0 acc) false i else (pP T f .stmt i o).bind fun x _ i => pP T f (.prog (acc ++ [x])) i o

/-- A text's program: nodes, error, place. -/
def parA (b : List Int) : List ANode × Int × Int :=
  match lexA b with
  | (T, e, at_) =>
    if e ≠ 0 then ([], e, at_) else
    match pP T (40 * (T.length + 1)) (.prog []) 0 0 with
    | .ok x _ _ => (x.flat, 0, b.length)
    | .bad e a => ([], e, a)
    | .out => ([], 0, 0)

end Go.Proofs.YtdhkcdehedbpcaaDoor

set_option linter.unusedSimpArgs false
set_option linter.unusedVariables false
namespace Go.Proofs.YtdhkcdehedbpcaaDoor
open Go Go.RowKit

theorem lexF_nil (f at_ : Nat) (acc : List ATok) : lexF (f + 1) [] at_ acc = (acc ++ [(0, [], 0, (at_ : Int))], 0, at_) := rfl

theorem lexF_blank {c : Int} (h : isBl c = true) (f : Nat) (t : List Int) (at_ : Nat) (acc : List ATok) : lexF (f + 1) (c :: t) at_ acc = lexF f t (at_ + 1) acc := by
  simp [lexF, h]

theorem lexF_rem (f : Nat) (t : List Int) (at_ : Nat) (acc : List ATok) : lexF (f + 1) (35 :: t) at_ acc = lexF f (t.drop (twl (· != 10) t)) (at_ + 1 + twl (· != 10) t) acc := by
  simp [lexF, isBl]

theorem lexF_form {c : Int} (h : isBl c = false) (h1 : c ≠ 35) (h2 : begn c = false) (f : Nat) (t : List Int) (at_ : Nat) (acc : List ATok) : lexF (f + 1) (c :: t) at_ acc = ([], 6, at_) := by
  simp [lexF, h, h1, h2]

theorem lexF_bad {c : Int} (h : isBl c = false) (h1 : c ≠ 35) (h2 : begn c = true) (f : Nat) (t : List Int) (at_ : Nat) (acc : List ATok) (ha : acc.length ≠ 16384) {e : Int} {off : Nat} (hc : cut (c :: t) = .bad e off) :
    lexF (f + 1) (c :: t) at_ acc = ([], e, at_ + off) := by
  simp [lexF, h, h1, h2, ha, hc]

theorem lexF_tok {c : Int} (h : isBl c = false) (h1 : c ≠ 35) (h2 : begn c = true) (f : Nat) (t : List Int) (at_ : Nat) (acc : List ATok) (ha : acc.length ≠ 16384) {k n : Int} {x : List Int} {len : Nat} (hc : cut (c :: t) = .tok k x n len) :
    lexF (f + 1) (c :: t) at_ acc = lexF f ((c :: t).drop len) (at_ + len) (acc ++ [(k, x, n, (at_ : Int))]) := by
  simp [lexF, h, h1, h2, ha, hc]

theorem twl_le (p : Int → Bool) (r : List Int) : twl p r ≤ r.length := by
  unfold twl
  exact (List.takeWhile_sublist p).length_le

theorem twl_cons (p : Int → Bool) (c : Int) (t : List Int) : twl p (c :: t) = if p c then twl p t + 1 else 0 := by
  unfold twl
  rw [List.takeWhile_cons]
  split <;> simp

/-- What was gone through is no more than there is; one goes on, or stops just there. -/
theorem twl_go {p : Int → Bool} : ∀ {r : List Int} {k : Nat} (hk : k ≤ twl p r) (hl : k < r.length) (hp : p r[k] = true), k + 1 ≤ twl p r
  | [], k, _, hl, _ => by simp at hl
  | c :: t, 0, _, _, hp => by
    rw [twl_cons, if_pos (by simpa using hp)]; omega
  | c :: t, k + 1, hk, hl, hp => by
    rw [twl_cons] at hk ⊢
    split at hk
    · rename_i hc
      have hl' : k < t.length := by simpa using hl
      have := twl_go (p := p) (r := t) (k := k) (by omega) hl' (by simpa using hp)
      rw [if_pos hc]; omega
    · omega

theorem twl_no {p : Int → Bool} : ∀ {r : List Int} {k : Nat} (hk : k ≤ twl p r) (hl : k < r.length) (hp : p r[k] = false), twl p r = k
  | [], k, _, hl, _ => by simp at hl
  | c :: t, 0, _, _, hp => by
    rw [twl_cons, if_neg (by simpa using hp)]
  | c :: t, k + 1, hk, hl, hp => by
    rw [twl_cons] at hk ⊢
    split at hk
    · rename_i hc
      have hl' : k < t.length := by simpa using hl
      have := twl_no (p := p) (r := t) (k := k) (by omega) hl' (by simpa using hp)
      rw [if_pos hc]; omega
    · omega

theorem twl_end {p : Int → Bool} {r : List Int} {k : Nat} (hk : k ≤ twl p r) (hl : r.length ≤ k) : twl p r = k := by
  have := twl_le p r; omega

theorem takeWhile_twl (p : Int → Bool) (r : List Int) : r.takeWhile p = r.take (twl p r) := by
  unfold twl
  induction r with
  | nil => rfl
  | cons c t ih =>
    rw [List.takeWhile_cons]
    split
    · simp [← ih]
    · simp

theorem esc_bd {r : List Int} {x : Int} {m : Nat} (h : esc r = .inl (x, m)) : 2 ≤ m ∧ m ≤ r.length + 1 := by
  unfold esc at h
  repeat' split at h
  all_goals first | cases h | skip
  all_goals simp

theorem esc_bad {r : List Int} {m : Nat} (h : esc r = .inr m) : 1 ≤ m ∧ m ≤ r.length + 1 := by
  unfold esc at h
  repeat' split at h
  all_goals first | cases h | skip
  all_goals simp

theorem numOf_snoc (l : List Int) (d : Int) : numOf (l ++ [d]) = numStep (numOf l) d := by simp [numOf]

/-! ## numbers as they are shown -/

def decL : Nat → Nat → List Int
  | 0, _ => []
  | f + 1, n => if n < 10 then [48 + (n : Int)] else decL f (n / 10) ++ [48 + ((n % 10 : Nat) : Int)]

/-! ## strings as they are shown -/

def hexD (n : Int) : Int := if n < 10 then 48 + n else 87 + n
def qOne (c : Int) : List Int :=
  if c = 10 then [92, 110] else if c = 9 then [92, 116] else if c = 34 ∨ c = 92 then [92, c]
  else if c < 32 ∨ c > 126 then [92, 120, hexD (c / 16), hexD (c % 16)] else [c]
def qAll (b : List Int) : List Int := b.flatMap qOne

/-! ## as long as may be -/

end Go.Proofs.YtdhkcdehedbpcaaDoor

set_option linter.unusedSimpArgs false
set_option linter.unusedVariables false
namespace Go.Proofs.YtdhkcdehedbpcaaDoor
open Go Go.RowKit

/-- How many nodes are gone over, of those that come with so many parts each, till so many are whole. -/
def cns : List Nat → Nat → Option Nat
  | _, 0 => some 0
  | [], _ + 1 => none
  | k :: r, d + 1 => (cns r (d + k)).map (· + 1)

theorem cns_add : ∀ (l : List Nat) (a b : Nat), cns l (a + b) = (cns l a).bind fun m => (cns (l.drop m) b).map (m + ·)
  | l, 0, b => by
    cases l <;> simp [cns] <;> (cases h : cns _ b <;> simp)
  | [], a + 1, b => by
    rw [show a + 1 + b = (a + b) + 1 by omega]
    simp [cns]
  | k :: r, a + 1, b => by
    rw [show a + 1 + b = (a + b) + 1 by omega, cns, cns, show a + b + k = (a + k) + b by omega, cns_add r (a + k) b]
    cases h : cns r (a + k) with
    | none => simp
    | some m =>
      simp
      cases h2 : cns (r.drop m) b <;> simp <;> omega

theorem cns_le : ∀ (l : List Nat) (d m : Nat), cns l d = some m → d ≤ m ∧ m ≤ l.length
  | l, 0, m, h => by
    cases l <;> simp [cns] at h <;> subst h <;> simp
  | [], d + 1, m, h => by simp [cns] at h
  | k :: r, d + 1, m, h => by
    simp only [cns] at h
    cases h2 : cns r (d + k) with
    | none => rw [h2] at h; simp at h
    | some n =>
      rw [h2] at h
      simp at h
      have := cns_le r (d + k) n h2
      simp
      omega

/-- Nodes' numbers of parts; less than none counts as none. -/
def kidsN (L : List ANode) : List Nat := L.map fun n => n.2.1.toNat

/-- The place behind a node, or none. -/
def bhP (L : List ANode) (at_ : Nat) : Option Nat := (cns ((kidsN L).drop at_) 1).map (at_ + ·)

end Go.Proofs.YtdhkcdehedbpcaaDoor

