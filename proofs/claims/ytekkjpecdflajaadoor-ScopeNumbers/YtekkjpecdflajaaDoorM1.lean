/- How a text is cut into tokens, as plain data: bytes as numbers, what is behind a place as a list. Nothing of the program is in it. · How tokens are read as a program, as plain data: parts and what they are made of. Nothing of the program's calls is in it. · The document's parser as plain data: what is read, by steps; nothing of the program is in it. · The document's parser goes forth: plain data. Nothing of the program is in it. · What follows of how a text is cut: strings as they are shown, numbers as they are shown, parts one behind the other. Nothing of the program is in it. · The place behind a node: plain data. · No list of the document's parser is longer than so many: plain data. · The document's parser: expr's loop, plain. -/
import Derived.RowKit
import Derived.Laws.BytesArg
set_option linter.unusedSimpArgs false
set_option linter.unusedVariables false
namespace Go.Proofs.YtekkjpecdflajaaDoor
open Go Go.RowKit

def isBl (c : Int) : Bool := c == 32 || c == 9 || c == 10 || c == 13
def isDg (c : Int) : Bool := decide (48 ≤ c) && decide (c ≤ 57)
def isLt (c : Int) : Bool := (decide (97 ≤ c) && decide (c ≤ 122)) || (decide (65 ≤ c) && decide (c ≤ 90)) || c == 95
def isNm (c : Int) : Bool := isLt c || isDg c
def sg1 : List Int := [43, 45, 42, 47, 37, 60, 62, 61, 40, 41, 91, 93, 123, 125, 44, 59, 58, 46]
def isSg (c : Int) : Bool := c == 33 || sg1.contains c
def begn (c : Int) : Bool := isLt c || isDg c || c == 34 || isSg c
def hexV (c : Int) : Option Int :=
  if 48 ≤ c ∧ c ≤ 57 then some (c - 48) else if 97 ≤ c ∧ c ≤ 102 then some (c - 97 + 10) else if 65 ≤ c ∧ c ≤ 70 then some (c - 65 + 10) else none
def words : List (List Int) :=
  [[118, 97, 114], [102, 110], [105, 102], [101, 108, 115, 101], [119, 104, 105, 108, 101], [98, 114, 101, 97, 107], [99, 111, 110, 116, 105, 110, 117, 101], [114, 101, 116, 117, 114, 110], [116, 104, 114, 111, 119], [116, 114, 121], [99, 97, 116, 99, 104], [115, 112, 97, 119, 110], [116, 114, 117, 101], [102, 97, 108, 115, 101], [110, 105, 108], [97, 110, 100], [111, 114], [110, 111, 116]]
def isWord (l : List Int) : Bool := decide (l ∈ words)

/-- How many at the head are so? -/
def twl (p : Int → Bool) (r : List Int) : Nat := (r.takeWhile p).length

/-- A token: kind, text, number, place. -/
abbrev ATok := Int × List Int × Int × Int
def tkV (t : ATok) : List Value := [.int .i64 t.1, .string (strOfNums t.2.1), .int .i64 t.2.2.1, .int .i64 t.2.2.2]

/-- What is cut at a place: kind, text, number, how many bytes; or the error, and how far behind the place. -/
inductive Cut where
  | tok (kind : Int) (text : List Int) (num : Int) (len : Nat)
  | bad (e : Int) (off : Nat)
deriving DecidableEq, Inhabited

def cName (r : List Int) : Cut := .tok (if isWord (r.takeWhile isNm) then 2 else 1) (r.takeWhile isNm) 0 (twl isNm r)

def numStep (s : Int × Bool) (d : Int) : Int × Bool := if s.1 > (2305843009213693951 - (d - 48)).tdiv 10 then (s.1, true) else (10 * s.1 + (d - 48), s.2)
def numOf (l : List Int) : Int × Bool := l.foldl numStep (0, false)

def cNum (r : List Int) : Cut :=
  if r.head? = some 48 ∧ 1 < twl isDg r then .bad 6 1
  else if (r[twl isDg r]?.map isLt) = some true then .bad 6 (twl isDg r)
  else if (numOf (r.takeWhile isDg)).2 then .bad 9 0
  else .tok 3 [] (numOf (r.takeWhile isDg)).1 (twl isDg r)

/-- What a \ and what is behind it say: the byte and how many bytes are behind the \; or how far the fault is behind the \. -/
def esc (r : List Int) : (Int × Nat) ⊕ Nat :=
  match r with
  | [] => .inr 1
  | c :: t =>
    if c = 34 ∨ c = 92 then .inl (c, 2) else if c = 110 then .inl (10, 2) else if c = 116 then .inl (9, 2)
    else if c = 120 then
      match t with
      | [] => .inr 2
      | x :: u =>
        match hexV x with
        | none => .inr 2
        | some i =>
          match u with
          | [] => .inr 3
          | y :: _ =>
            match hexV y with
            | none => .inr 3
            | some j => .inl (16 * i + j, 4)
    else .inr 1

/-- The rest of a string; k: how many bytes of it are behind. -/
def cStr : Nat → List Int → List Int → Nat → Cut
  | 0, _, _, k => .bad 6 k
  | f + 1, r, acc, k =>
    match r with
    | [] => .bad 6 k
    | c :: t =>
      if c = 34 then .tok 4 acc 0 (k + 1)
      else if c = 10 then .bad 6 k
      else if c = 92 then
        match esc t with
        | .inr m => .bad 6 (k + m)
        | .inl (x, m) => cStr f (r.drop m) (acc ++ [x]) (k + m)
      else cStr f t (acc ++ [c]) (k + 1)

def cSign (r : List Int) : Cut :=
  match r with
  | [] => .bad 6 1
  | c :: t =>
    if t.head? = some 61 ∧ (c = 61 ∨ c = 33 ∨ c = 60 ∨ c = 62) then .tok 5 [c, 61] 0 2
    else if sg1.contains c then .tok 5 [c] 0 1
    else .bad 6 1

def cut (r : List Int) : Cut :=
  match r with
  | [] => .bad 6 1
  | c :: t => if isLt c then cName r else if isDg c then cNum r else if c = 34 then cStr (t.length + 1) t [] 1 else cSign r

/-- All tokens from a place on, those ahead being there; or the error and its place. -/
def lexF : Nat → List Int → Nat → List ATok → List ATok × Int × Nat
  | 0, _, at_, acc => (acc, 0, at_)
  | f + 1, r, at_, acc =>
    match r with
    | [] => (acc ++ [(0, [], 0, (at_ : Int))], 0, at_)
    | c :: t =>
      if isBl c then lexF f t (at_ + 1) acc
      else if c = 35 then lexF f (t.drop (twl (· != 10) t)) (at_ + 1 + twl (· != 10) t) acc
      else if begn c = false then ([], 6, at_)
      else if acc.length = 16384 then ([], 3, at_)
      else match cut r with
        | .bad e off => ([], e, at_ + off)
        | .tok k x n len => lexF f (r.drop len) (at_ + len) (acc ++ [(k, x, n, (at_ : Int))])

def lexA (b : List Int) : List ATok × Int × Nat := if 65536 < b.length then ([], 2, 0) else lexF (b.length + 1) b 0 []

end Go.Proofs.YtekkjpecdflajaaDoor

set_option linter.unusedSimpArgs false
set_option linter.unusedVariables false
namespace Go.Proofs.YtekkjpecdflajaaDoor
open Go Go.RowKit

/-- A part: kind, text, number, place, what it is made of. -/
inductive Prt where
  | mk (kind : Int) (text : List Int) (num : Int) (at_ : Int) (kids : List Prt)

instance : Inhabited Prt := ⟨.mk 0 [] 0 0 []⟩

def Prt.kind : Prt → Int | .mk k _ _ _ _ => k
def Prt.at_ : Prt → Int | .mk _ _ _ a _ => a
def Prt.kids : Prt → List Prt | .mk _ _ _ _ ks => ks

/-- A node: kind, how many, text, number, place. -/
abbrev ANode := Int × Int × List Int × Int × Int

mutual
def Prt.flat : Prt → List ANode
  | .mk k x n a ks => (k, (ks.length : Int), x, n, a) :: flats ks
def flats : List Prt → List ANode
  | [] => []
  | p :: r => p.flat ++ flats r
end

/-- What comes of reading: a part, whether a call was last, the next token; or a fault and its place; or more steps are wanted. -/
inductive Res where
  | ok (x : Prt) (c : Bool) (i : Nat)
  | bad (e at_ : Int)
  | out

def Res.bind (r : Res) (k : Prt → Bool → Nat → Res) : Res :=
  match r with
  | .ok x c i => k x c i
  | .bad e a => .bad e a
  | .out => .out

def tk (T : List ATok) (i : Nat) : ATok := T.getD i (0, [], 0, 0)
def isT (T : List ATok) (i : Nat) (s : ByteArray) : Bool := ((tk T i).1 == 2 || (tk T i).1 == 5) && decide (strOfNums (tk T i).2.1 = s)
def isO (T : List ATok) (i : Nat) (l : List ByteArray) : Bool := l.any (isT T i)
def here (T : List ATok) (e : Int) (i : Nat) : Res := .bad e (tk T i).2.2.2
def want (T : List ATok) (s : ByteArray) (i : Nat) (k : Nat → Res) : Res := if isT T i s then k (i + 1) else here T 6 i
def wantN (T : List ATok) (i : Nat) (k : Nat → Res) : Res := if (tk T i).1 = 1 then k (i + 1) else here T 6 i
def entr (T : List ATok) (s : ByteArray) (i o : Nat) (k : Nat → Nat → Res) : Res := if isT T i s then (if o = 64 then here T 3 i else k (i + 1) (o + 1)) else here T 6 i

/-- The signs of a level. -/
def sgl : Nat → List ByteArray
  | 0 => [⟨#[111, 114]⟩]
  | 1 => [⟨#[97, 110, 100]⟩]
  | 3 => [⟨#[61, 61]⟩, ⟨#[33, 61]⟩, ⟨#[60]⟩, ⟨#[60, 61]⟩, ⟨#[62]⟩, ⟨#[62, 61]⟩]
  | 4 => [⟨#[43]⟩, ⟨#[45]⟩]
  | 5 => [⟨#[42]⟩, ⟨#[47]⟩, ⟨#[37]⟩]
  | _ => []

/-- Two joined by a sign. -/
def jn (t : ATok) (x y : Prt) : Prt :=
  if strOfNums t.2.1 = ⟨#[111, 114]⟩ then .mk 25 [] 0 x.at_ [x, y]
  else if strOfNums t.2.1 = ⟨#[97, 110, 100]⟩ then .mk 24 [] 0 x.at_ [x, y]
  else .mk 23 t.2.1 0 x.at_ [x, y]

def begL : List ByteArray := [⟨#[116, 114, 117, 101]⟩, ⟨#[102, 97, 108, 115, 101]⟩, ⟨#[110, 105, 108]⟩, ⟨#[110, 111, 116]⟩, ⟨#[115, 112, 97, 119, 110]⟩, ⟨#[102, 110]⟩, ⟨#[40]⟩, ⟨#[91]⟩, ⟨#[123]⟩, ⟨#[45]⟩]

def begs (T : List ATok) (i : Nat) : Bool :=
  (tk T i).1 == 1 || (tk T i).1 == 3 || (tk T i).1 == 4 ||
  isO T i begL

/-- What stands in a row. -/
inductive Rd where
  | arg | par | ent | key

/-- What is read. -/
inductive Nt where
  | lev (k : Nat)
  | more (k : Nat) (x : Prt)
  | thing
  | things (x : Prt) (c : Bool)
  | single
  | read (r : Rd) (n : Nat)
  | row (r : Rd) (b e : ByteArray)
  | rows (r : Rd) (e : ByteArray) (acc : List Prt)
  | body (kind : Int) (text : List Int) (at_ : Int)
  | block
  | stmts (at_ : Int) (acc : List Prt)
  | stmt
  | choice
  | prog (acc : List Prt)

def semi (T : List ATok) (i : Nat) (x : Prt) : Res := want T ⟨#[59]⟩ i fun i => .ok x false i

/-- The parts of a program from a token on; o: how many are open. -/
def pP (T : List ATok) : Nat → Nt → Nat → Nat → Res
  | 0, _, _, _ => .out
  | f + 1, .lev k, i, o =>
    if k = 2 then
      (if isT T i ⟨#[110, 111, 116]⟩ then entr T ⟨#[110, 111, 116]⟩ i o fun j o => (pP T f (.lev 2) j o).bind fun x _ j => .ok (.mk 26 [] 0 (tk T i).2.2.2 [x]) false j
       else pP T f (.lev 3) i o)
    else if k = 3 then
      (pP T f (.lev 4) i o).bind fun x _ i => if isO T i (sgl 3) then (pP T f (.lev 4) (i + 1) o).bind fun y _ j => .ok (jn (tk T i) x y) false j else .ok x false i
    else if k = 6 then
      (if isT T i ⟨#[45]⟩ then entr T ⟨#[45]⟩ i o fun j o => (pP T f (.lev 6) j o).bind fun x _ j => .ok (.mk 27 [] 0 (tk T i).2.2.2 [x]) false j
       else if isT T i ⟨#[115, 112, 97, 119, 110]⟩ then entr T ⟨#[115, 112, 97, 119, 110]⟩ i o fun j o => (pP T f .thing j o).bind fun x c j => if c then .ok (.mk 32 [] 0 (tk T i).2.2.2 x.kids) false j else here T 6 j
       else (pP T f .thing i o).bind fun x _ i => .ok x false i)
    else (pP T f (.lev (k + 1)) i o).bind fun x _ i => pP T f (.more k x) i o
  | f + 1, .more k x, i, o =>
    if isO T i (sgl k) then (pP T f (.lev (k + 1)) (i + 1) o).bind fun y _ j => pP T f (.more k (jn (tk T i) x y)) j o else .ok x false i
  | f + 1, .thing, i, o => (pP T f .single i o).bind fun x _ i => pP T f (.things x false) i o
  | f + 1, .things x c, i, o =>
    if isT T i ⟨#[40]⟩ then (pP T f (.row .arg ⟨#[40]⟩ ⟨#[41]⟩) i o).bind fun r _ i => pP T f (.things (.mk 28 [] 0 x.at_ (x :: r.kids)) true) i o
    else if isT T i ⟨#[91]⟩ then entr T ⟨#[91]⟩ i o fun i o' => (pP T f (.lev 0) i o').bind fun y _ i => want T ⟨#[93]⟩ i fun i => pP T f (.things (.mk 29 [] 0 x.at_ [x, y]) false) i o
    else if isT T i ⟨#[46]⟩ then wantN T (i + 1) fun j => pP T f (.things (.mk 30 (tk T (i + 1)).2.1 0 x.at_ [x]) false) j o
    else .ok x c i
  | f + 1, .single, i, o =>
    if (tk T i).1 = 3 then .ok (.mk 14 [] (tk T i).2.2.1 (tk T i).2.2.2 []) false (i + 1)
    else if (tk T i).1 = 4 then .ok (.mk 15 (tk T i).2.1 0 (tk T i).2.2.2 []) false (i + 1)
    else if (tk T i).1 = 1 then .ok (.mk 19 (tk T i).2.1 0 (tk T i).2.2.2 []) false (i + 1)
    else if isT T i ⟨#[116, 114, 117, 101]⟩ then .ok (.mk 16 [] 0 (tk T i).2.2.2 []) false (i + 1)
    else if isT T i ⟨#[102, 97, 108, 115, 101]⟩ then .ok (.mk 17 [] 0 (tk T i).2.2.2 []) false (i + 1)
    else if isT T i ⟨#[110, 105, 108]⟩ then .ok (.mk 18 [] 0 (tk T i).2.2.2 []) false (i + 1)
    else if isT T i ⟨#[91]⟩ then (pP T f (.row .ent ⟨#[91]⟩ ⟨#[93]⟩) i o).bind fun r _ j => .ok (.mk 20 [] 0 (tk T i).2.2.2 r.kids) false j
    else if isT T i ⟨#[123]⟩ then (pP T f (.row .key ⟨#[123]⟩ ⟨#[125]⟩) i o).bind fun r _ j => .ok (.mk 21 [] 0 (tk T i).2.2.2 r.kids) false j
    else if isT T i ⟨#[102, 110]⟩ then pP T f (.body 31 [] (tk T i).2.2.2) (i + 1) o
    else entr T ⟨#[40]⟩ i o fun i o => (pP T f (.lev 0) i o).bind fun x _ i => want T ⟨#[41]⟩ i fun i => .ok x false i
  | f + 1, .read .arg n, i, o => if n = 16 ∧ begs T i = true then here T 3 i else pP T f (.lev 0) i o
  | f + 1, .read .par n, i, o => if n = 16 ∧ (tk T i).1 = 1 then here T 3 i else wantN T i fun j => .ok (.mk 19 (tk T i).2.1 0 (tk T i).2.2.2 []) false j
  | f + 1, .read .ent n, i, o => pP T f (.lev 0) i o
  | f + 1, .read .key n, i, o => wantN T i fun j => want T ⟨#[58]⟩ j fun j => (pP T f (.lev 0) j o).bind fun x _ j => .ok (.mk 22 (tk T i).2.1 0 (tk T i).2.2.2 [x]) false j
  | f + 1, .row r b e, i, o =>
    entr T b i o fun i o => if isT T i e then .ok (.mk 0 [] 0 0 []) false (i + 1) else (pP T f (.read r 0) i o).bind fun x _ i => pP T f (.rows r e [x]) i o
  | f + 1, .rows r e acc, i, o =>
    if isT T i ⟨#[44]⟩ then (pP T f (.read r acc.length) (i + 1) o).bind fun x _ i => pP T f (.rows r e (acc ++ [x])) i o
    else want T e i fun i => .ok (.mk 0 [] 0 0 acc) false i
  | f + 1, .body kind text at_, i, o =>
    (pP T f (.row .par ⟨#[40]⟩ ⟨#[41]⟩) i o).bind fun r _ i => (pP T f .block i o).bind fun b _ i => .ok (.mk kind text r.kids.length at_ (r.kids ++ [b])) false i
  | f + 1, .block, i, o => entr T ⟨#[123]⟩ i o fun j o => pP T f (.stmts (tk T i).2.2.2 []) j o
  | f + 1, .stmts at_ acc, i, o =>
    if isT T i ⟨#[125]⟩ then .ok (.mk 2 [] 0 at_ acc) false (i + 1) else (pP T f .stmt i o).bind fun x _ i => pP T f (.stmts at_ (acc ++ [x])) i o
  | f + 1, .stmt, i, o =>
    if isT T i ⟨#[123]⟩ then pP T f .block i o
    else if isT T i ⟨#[118, 97, 114]⟩ then wantN T (i + 1) fun j => want T ⟨#[61]⟩ j fun j => (pP T f (.lev 0) j o).bind fun x _ j => semi T j (.mk 3 (tk T (i + 1)).2.1 0 (tk T i).2.2.2 [x])
    else if isT T i ⟨#[105, 102]⟩ then pP T f .choice i o
    else if isT T i ⟨#[119, 104, 105, 108, 101]⟩ then (pP T f (.lev 0) (i + 1) o).bind fun x _ j => (pP T f .block j o).bind fun y _ j => .ok (.mk 6 [] 0 (tk T i).2.2.2 [x, y]) false j
    else if isT T i ⟨#[98, 114, 101, 97, 107]⟩ then semi T (i + 1) (.mk 7 [] 0 (tk T i).2.2.2 [])
    else if isT T i ⟨#[99, 111, 110, 116, 105, 110, 117, 101]⟩ then semi T (i + 1) (.mk 8 [] 0 (tk T i).2.2.2 [])
    else if isT T i ⟨#[114, 101, 116, 117, 114, 110]⟩ then
      (if isT T (i + 1) ⟨#[59]⟩ then semi T (i + 1) (.mk 9 [] 0 (tk T i).2.2.2 [])
       else (pP T f (.lev 0) (i + 1) o).bind fun x _ j => semi T j (.mk 9 [] 0 (tk T i).2.2.2 [x]))
    else if isT T i ⟨#[116, 104, 114, 111, 119]⟩ then (pP T f (.lev 0) (i + 1) o).bind fun x _ j => semi T j (.mk 10 [] 0 (tk T i).2.2.2 [x])
    else if isT T i ⟨#[116, 114, 121]⟩ then
      (pP T f .block (i + 1) o).bind fun x _ j => want T ⟨#[99, 97, 116, 99, 104]⟩ j fun j => wantN T j fun j' => (pP T f .block j' o).bind fun y _ j' => .ok (.mk 11 (tk T j).2.1 0 (tk T i).2.2.2 [x, y]) false j'
    else if isT T i ⟨#[102, 110]⟩ && (tk T (i + 1)).1 == 1 then pP T f (.body 12 (tk T (i + 1)).2.1 (tk T i).2.2.2) (i + 2) o
    else (pP T f (.lev 0) i o).bind fun x _ j =>
      if (x.kind == 19 || x.kind == 29 || x.kind == 30) && isT T j ⟨#[61]⟩ then (pP T f (.lev 0) (j + 1) o).bind fun y _ j => semi T j (.mk 4 [] 0 x.at_ [x, y])
      else semi T j (.mk 13 [] 0 x.at_ [x])
  | f + 1, .choice, i, o =>
    want T ⟨#[105, 102]⟩ i fun j => (pP T f (.lev 0) j o).bind fun x _ j => (pP T f .block j o).bind fun y _ j =>
      if isT T j ⟨#[101, 108, 115, 101]⟩ then
        (if isT T (j + 1) ⟨#[105, 102]⟩ then (pP T f .choice (j + 1) o).bind fun z _ j => .ok (.mk 5 [] 0 (tk T i).2.2.2 [x, y, z]) false j
         else (pP T f .block (j + 1) o).bind fun z _ j => .ok (.mk 5 [] 0 (tk T i).2.2.2 [x, y, z]) false j)
      else .ok (.mk 5 [] 0 (tk T i).2.2.2 [x, y]) false j
  | f + 1, .prog acc, i, o =>
    if (tk T i).1 = 0 then .ok (.mk 1 [] 0 0 acc) false i else (pP T f .stmt i o).bind fun x _ i => pP T f (.prog (acc ++ [x])) i o

/-- A text's program: nodes, error, place. -/
def parA (b : List Int) : List ANode × Int × Int :=
  match lexA b with
  | (T, e, at_) =>
    if e ≠ 0 then ([], e, at_) else
    match pP T (40 * (T.length + 1)) (.prog []) 0 0 with
    | .ok x _ _ => (x.flat, 0, b.length)
    | .bad e a => ([], e, a)
    | .out => ([], 0, 0)

theorem par1 : parA [120, 32, 61, 32, 49, 32, 43, 32, 50, 32, 42, 32, 121, 59] = ([(1, 1, [], 0, 0), (4, 2, [], 0, 0), (19, 0, [120], 0, 0), (23, 2, [43], 0, 4), (14, 0, [], 1, 4), (23, 2, [42], 0, 8), (14, 0, [], 2, 8), (19, 0, [121], 0, 12)], 0, 14) := by decide +kernel
theorem par2 : parA [49, 32, 61, 32, 50, 59] = ([], 6, 2) := by decide +kernel
theorem par3 : parA [97, 32, 60, 32, 98, 32, 60, 32, 99, 59] = ([], 6, 6) := by decide +kernel

end Go.Proofs.YtekkjpecdflajaaDoor

set_option linter.unusedSimpArgs false
set_option linter.unusedVariables false
namespace Go.Proofs.YtekkjpecdflajaaDoor
open Go Go.RowKit

/-- Which token is next, the first fault and its place. -/
structure DS where
  i : Nat
  e : Int
  p : Int
deriving DecidableEq, Inhabited

def dtk (T : List ATok) (i : Nat) : ATok := T.getD i (0, [], 0, 0)
def dAt (T : List ATok) (s : DS) : Int := (dtk T s.i).2.2.2
def dBad (T : List ATok) (s : DS) (x : Int) : DS := if s.e = 0 then ⟨s.i, x, dAt T s⟩ else s
def dIs (T : List ATok) (s : DS) (t : ByteArray) : Bool := decide (s.e = 0) && (decide ((dtk T s.i).1 = 2) || decide ((dtk T s.i).1 = 5)) && decide (strOfNums (dtk T s.i).2.1 = t)
def dNx (s : DS) : DS := ⟨s.i + 1, s.e, s.p⟩
def dEat (T : List ATok) (s : DS) (t : ByteArray) : DS := if dIs T s t = true then dNx s else s
def dWant (T : List ATok) (s : DS) (t : ByteArray) : DS := if s.e = 0 then (if dIs T s t = true then dNx s else dBad T s 6) else s
def dEnter (T : List ATok) (o : Int) (s : DS) (t : ByteArray) : DS := if s.e = 0 then (if dIs T s t = true then (if o = 64 then dBad T s 3 else dNx s) else dBad T s 6) else s
def dNameT (T : List ATok) (s : DS) : List Int := if s.e = 0 ∧ (dtk T s.i).1 = 1 then (dtk T s.i).2.1 else []
def dNameS (T : List ATok) (s : DS) : DS := if s.e = 0 ∧ (dtk T s.i).1 = 1 then dNx s else dBad T s 6

def dJoin (n : ANode) (k : Int) (l : List ANode) : List ANode := (n.1, k, n.2.2.1, n.2.2.2.1, n.2.2.2.2) :: l
/-- The place of a list's first node. -/
def dAt0 (l : List ANode) : Int := (l.headD (0, 0, [], 0, 0)).2.2.2.2
def dKd0 (l : List ANode) : Int := (l.headD (0, 0, [], 0, 0)).1

def dLev (t : ATok) : Int := if t.1 = 2 ∨ t.1 = 5 then
  (if strOfNums t.2.1 = ⟨#[111, 114]⟩ then 0 else if strOfNums t.2.1 = ⟨#[97, 110, 100]⟩ then 1
   else if strOfNums t.2.1 = ⟨#[61, 61]⟩ ∨ strOfNums t.2.1 = ⟨#[33, 61]⟩ ∨ strOfNums t.2.1 = ⟨#[60]⟩ ∨ strOfNums t.2.1 = ⟨#[60, 61]⟩ ∨ strOfNums t.2.1 = ⟨#[62]⟩ ∨ strOfNums t.2.1 = ⟨#[62, 61]⟩ then 3
   else if strOfNums t.2.1 = ⟨#[43]⟩ ∨ strOfNums t.2.1 = ⟨#[45]⟩ then 4 else if strOfNums t.2.1 = ⟨#[42]⟩ ∨ strOfNums t.2.1 = ⟨#[47]⟩ ∨ strOfNums t.2.1 = ⟨#[37]⟩ then 5 else -1) else -1

inductive Dq where
  | block | blockL (l : List ANode) (k : Int)
  | func (n : ANode) | funcL (l : List ANode) (k : Int)
  | choice | stmt | plain
  | ahead (t : ByteArray) (k lev : Int)
  | expr (lev : Int) | exprL (lev : Int) (x : List ANode)
  | thing | thingL (x : List ANode)
  | args | argsL (l : List ANode) (k : Int)
  | prim | about (n : ANode)
  | several (n : ANode) (rc : Bool) | severalL (rc : Bool) (l : List ANode) (k : Int)
deriving Inhabited

/-- What is read: nodes, how many, and how it stands then; none: more steps are wanted. -/
abbrev DRes := Option (List ANode × Int × DS)
def dret (l : List ANode) (s : DS) : DRes := if l.length ≤ 1000000 then some (l, 0, s) else none
/-- No more than so many. -/
def dgd (l : List ANode) (k : Int) (r : DRes) : DRes := if l.length ≤ 1000000 ∧ 0 ≤ k ∧ k ≤ 1000000 then r else none

section
variable (T : List ATok)

def dR : Nat → Dq → Int → DS → DRes
  | 0, _, _, _ => none
  | f + 1, .block, o, s =>
    (dR f (.blockL [] 0) (o + 1) (dEnter T o s ⟨#[123]⟩)).bind fun r => dret (dJoin (2, 0, [], 0, dAt T s) r.2.1 r.1) (dWant T r.2.2 ⟨#[125]⟩)
  | f + 1, .blockL l k, o, s => dgd l k (if s.e = 0 ∧ dIs T s ⟨#[125]⟩ = false then (dR f .stmt o s).bind fun r => dR f (.blockL (l ++ r.1) (k + 1)) o r.2.2 else some (l, k, s))
  | f + 1, .func n, o, s =>
    (dR f (.funcL [] 0) (o + 1) (dEnter T o s ⟨#[40]⟩)).bind fun r => (dR f .block o (dWant T r.2.2 ⟨#[41]⟩)).bind fun q => dret (dJoin (n.1, n.2.1, n.2.2.1, r.2.1, n.2.2.2.2) (r.2.1 + 1) (r.1 ++ q.1)) q.2.2
  | f + 1, .funcL l k, o, s => dgd l k (if s.e = 0 ∧ dIs T s ⟨#[41]⟩ = false then
      let s1 := if 0 < k then dWant T s ⟨#[44]⟩ else s
      let s2 := if s1.e = 0 ∧ k = 16 ∧ (dtk T s1.i).1 = 1 then dBad T s1 3 else s1
      dR f (.funcL (l ++ [(19, 0, dNameT T s2, 0, dAt T s2)]) (k + 1)) o (dNameS T s2)
    else some (l, k, s))
  | f + 1, .choice, o, s =>
    (dR f (.expr 0) o (dWant T s ⟨#[105, 102]⟩)).bind fun r => (dR f .block o r.2.2).bind fun q =>
      if dIs T q.2.2 ⟨#[101, 108, 115, 101]⟩ = true then
        (if dIs T (dNx q.2.2) ⟨#[105, 102]⟩ = true then (dR f .choice o (dNx q.2.2)).bind fun u => dret (dJoin (5, 0, [], 0, dAt T s) 3 (r.1 ++ q.1 ++ u.1)) u.2.2
         else (dR f .block o (dNx q.2.2)).bind fun u => dret (dJoin (5, 0, [], 0, dAt T s) 3 (r.1 ++ q.1 ++ u.1)) u.2.2)
      else dret (dJoin (5, 0, [], 0, dAt T s) 2 (r.1 ++ q.1)) q.2.2
  | f + 1, .stmt, o, s =>
    if dIs T s ⟨#[123]⟩ = true then dR f .block o s
    else if dIs T s ⟨#[105, 102]⟩ = true then dR f .choice o s
    else if dIs T s ⟨#[102, 110]⟩ = true ∧ (dtk T (s.i + 1)).1 = 1 then dR f (.func (12, 0, dNameT T (dNx s), 0, dAt T s)) o (dNameS T (dNx s))
    else if dIs T s ⟨#[118, 97, 114]⟩ = true then
      (dR f (.expr 0) o (dWant T (dNameS T (dNx s)) ⟨#[61]⟩)).bind fun r => dret (dJoin (3, 0, dNameT T (dNx s), 0, dAt T s) 1 r.1) (dWant T r.2.2 ⟨#[59]⟩)
    else if dIs T s ⟨#[119, 104, 105, 108, 101]⟩ = true then
      (dR f (.expr 0) o (dNx s)).bind fun r => (dR f .block o r.2.2).bind fun q => dret (dJoin (6, 0, [], 0, dAt T s) 2 (r.1 ++ q.1)) q.2.2
    else if dIs T s ⟨#[98, 114, 101, 97, 107]⟩ = true then dret (dJoin (7, 0, [], 0, dAt T s) 0 []) (dWant T (dNx s) ⟨#[59]⟩)
    else if dIs T s ⟨#[99, 111, 110, 116, 105, 110, 117, 101]⟩ = true then dret (dJoin (8, 0, [], 0, dAt T s) 0 []) (dWant T (dNx s) ⟨#[59]⟩)
    else if dIs T s ⟨#[114, 101, 116, 117, 114, 110]⟩ = true then
      (if dIs T (dNx s) ⟨#[59]⟩ = true then dret (dJoin (9, 0, [], 0, dAt T s) 0 []) (dNx (dNx s))
       else (dR f (.expr 0) o (dNx s)).bind fun r => dret (dJoin (9, 0, [], 0, dAt T s) 1 r.1) (dWant T r.2.2 ⟨#[59]⟩))
    else if dIs T s ⟨#[116, 104, 114, 111, 119]⟩ = true then (dR f (.expr 0) o (dNx s)).bind fun r => dret (dJoin (10, 0, [], 0, dAt T s) 1 r.1) (dWant T r.2.2 ⟨#[59]⟩)
    else if dIs T s ⟨#[116, 114, 121]⟩ = true then
      (dR f .block o (dNx s)).bind fun r => (dR f .block o (dNameS T (dWant T r.2.2 ⟨#[99, 97, 116, 99, 104]⟩))).bind fun q => dret (dJoin (11, 0, dNameT T (dWant T r.2.2 ⟨#[99, 97, 116, 99, 104]⟩), 0, dAt T s) 2 (r.1 ++ q.1)) q.2.2
    else dR f .plain o s
  | f + 1, .plain, o, s =>
    (dR f (.expr 0) o s).bind fun r =>
      if r.2.2.e ≠ 0 then dret [] r.2.2
      else if dIs T r.2.2 ⟨#[61]⟩ = true then
        let s1 := if dKd0 r.1 = 19 ∨ dKd0 r.1 = 29 ∨ dKd0 r.1 = 30 then r.2.2 else dBad T r.2.2 6
        (dR f (.expr 0) o (dWant T s1 ⟨#[61]⟩)).bind fun q => dret (dJoin (4, 0, [], 0, dAt0 r.1) 2 (r.1 ++ q.1)) (dWant T q.2.2 ⟨#[59]⟩)
      else dret (dJoin (13, 0, [], 0, dAt0 r.1) 1 r.1) (dWant T r.2.2 ⟨#[59]⟩)
  | f + 1, .ahead t k lev, o, s =>
    (dR f (.expr lev) (o + 1) (dEnter T o s t)).bind fun r => dret (dJoin (k, 0, [], 0, dAt T s) 1 r.1) r.2.2
  | f + 1, .expr lev, o, s =>
    if lev < 0 ∨ 6 < lev then none
    else if s.e ≠ 0 then dret [] s
    else if lev = 2 ∧ dIs T s ⟨#[110, 111, 116]⟩ = true then dR f (.ahead ⟨#[110, 111, 116]⟩ 26 2) o s
    else if lev = 6 then (if dIs T s ⟨#[45]⟩ = true then dR f (.ahead ⟨#[45]⟩ 27 6) o s else dR f .thing o s)
    else (dR f (.expr (lev + 1)) o s).bind fun r => dR f (.exprL lev r.1) o r.2.2
  | f + 1, .exprL lev x, o, s => dgd x 0 (if s.e = 0 ∧ lev ≠ 2 ∧ dLev (dtk T s.i) = lev then
      (dR f (.expr (lev + 1)) o (dNx s)).bind fun r =>
        let y := dJoin (if lev < 2 then (25 - lev, 0, [], 0, dAt0 x) else (23, 0, (dtk T s.i).2.1, 0, dAt0 x)) 2 (x ++ r.1)
        if lev = 3 then dret y r.2.2 else dR f (.exprL lev y) o r.2.2
    else dret x s)
  | f + 1, .thing, o, s => (dR f .prim o s).bind fun r => dR f (.thingL r.1) o r.2.2
  | f + 1, .thingL x, o, s => dgd x 0 (if s.e ≠ 0 then dret x s
    else if dIs T s ⟨#[40]⟩ = true then (dR f .args o s).bind fun r => dR f (.thingL (dJoin (28, 0, [], 0, dAt0 x) (r.2.1 + 1) (x ++ r.1))) o r.2.2
    else if dIs T s ⟨#[91]⟩ = true then (dR f (.expr 0) (o + 1) (dEnter T o s ⟨#[91]⟩)).bind fun r => dR f (.thingL (dJoin (29, 0, [], 0, dAt0 x) 2 (x ++ r.1))) o (dWant T r.2.2 ⟨#[93]⟩)
    else if dIs T s ⟨#[46]⟩ = true then dR f (.thingL (dJoin (30, 0, dNameT T (dNx s), 0, dAt0 x) 1 x)) o (dNameS T (dNx s))
    else dret x s)
  | f + 1, .args, o, s =>
    (dR f (.argsL [] 0) (o + 1) (dEnter T o s ⟨#[40]⟩)).bind fun r => some (r.1, r.2.1, dWant T r.2.2 ⟨#[41]⟩)
  | f + 1, .argsL l k, o, s => dgd l k (if s.e = 0 ∧ dIs T s ⟨#[41]⟩ = false then
      let s1 := if 0 < k then dWant T s ⟨#[44]⟩ else s
      let s2 := if s1.e = 0 ∧ k = 16 then dBad T s1 3 else s1
      (dR f (.expr 0) o s2).bind fun r => dR f (.argsL (l ++ r.1) (k + 1)) o r.2.2
    else some (l, k, s))
  | f + 1, .prim, o, s =>
    if (dtk T s.i).1 = 1 then dret [(19, 0, (dtk T s.i).2.1, 0, dAt T s)] (dNx s)
    else if (dtk T s.i).1 = 3 then dret [(14, 0, [], (dtk T s.i).2.2.1, dAt T s)] (dNx s)
    else if (dtk T s.i).1 = 4 then dret [(15, 0, (dtk T s.i).2.1, 0, dAt T s)] (dNx s)
    else dR f (.about (0, 0, [], 0, dAt T s)) o s
  | f + 1, .about n, o, s =>
    if dIs T s ⟨#[116, 114, 117, 101]⟩ = true then dret [(16, n.2)] (dNx s)
    else if dIs T s ⟨#[102, 97, 108, 115, 101]⟩ = true then dret [(17, n.2)] (dNx s)
    else if dIs T s ⟨#[110, 105, 108]⟩ = true then dret [(18, n.2)] (dNx s)
    else if dIs T s ⟨#[102, 110]⟩ = true then dR f (.func (31, n.2)) o (dNx s)
    else if dIs T s ⟨#[40]⟩ = true then (dR f (.expr 0) (o + 1) (dEnter T o s ⟨#[40]⟩)).bind fun r => dret r.1 (dWant T r.2.2 ⟨#[41]⟩)
    else if dIs T s ⟨#[91]⟩ = true then dR f (.several n false) o s
    else if dIs T s ⟨#[123]⟩ = true then dR f (.several n true) o s
    else if dIs T s ⟨#[115, 112, 97, 119, 110]⟩ = true then
      let s1 := dEnter T o s ⟨#[115, 112, 97, 119, 110]⟩
      if s1.e ≠ 0 then dret [] s1
      else (dR f .thing (o + 1) s1).bind fun r =>
        let s2 := if r.2.2.e = 0 ∧ dKd0 r.1 ≠ 28 then dBad T r.2.2 6 else r.2.2
        if s2.e ≠ 0 then dret [] s2
        else dret ((32, (r.1.headD (0, 0, [], 0, 0)).2.1, (r.1.headD (0, 0, [], 0, 0)).2.2.1, (r.1.headD (0, 0, [], 0, 0)).2.2.2.1, n.2.2.2.2) :: r.1.tail) s2
    else dret [n] (dBad T s 6)
  | f + 1, .several n rc, o, s =>
    (dR f (.severalL rc [] 0) (o + 1) (dEnter T o s (if rc then ⟨#[123]⟩ else ⟨#[91]⟩))).bind fun r =>
      dret (dJoin (if rc then 21 else 20, n.2) r.2.1 r.1) (dWant T r.2.2 (if rc then ⟨#[125]⟩ else ⟨#[93]⟩))
  | f + 1, .severalL rc l k, o, s => dgd l k (if s.e = 0 ∧ dIs T s (if rc then ⟨#[125]⟩ else ⟨#[93]⟩) = false then
      let s1 := if 0 < k then dWant T s ⟨#[44]⟩ else s
      if rc = true ∧ s1.e = 0 then
        (dR f (.expr 0) o (dWant T (dNameS T s1) ⟨#[58]⟩)).bind fun r => dR f (.severalL rc (l ++ dJoin (22, 0, dNameT T s1, 0, dAt T s1) 1 r.1) (k + 1)) o r.2.2
      else (dR f (.expr 0) o s1).bind fun r => dR f (.severalL rc (l ++ r.1) (k + 1)) o r.2.2
    else some (l, k, s))

/-- A program. -/
def dProgL : Nat → List ANode → Int → DS → DRes
  | 0, _, _, _ => none
  | f + 1, l, k, s => if s.e = 0 ∧ (dtk T s.i).1 ≠ 0 then (dR T f .stmt 0 s).bind fun r => dProgL f (l ++ r.1) (k + 1) r.2.2 else some (l, k, s)

end

end Go.Proofs.YtekkjpecdflajaaDoor

set_option linter.unusedSimpArgs false
set_option linter.unusedVariables false
namespace Go.Proofs.YtekkjpecdflajaaDoor
open Go Go.RowKit

section
variable {T : List ATok}

/-- From s to s': no way back, faults stay. -/
def Fw (s s' : DS) : Prop := s.i ≤ s'.i ∧ (s'.e = 0 → s.e = 0)
/-- It also takes a token, if there is no fault. -/
def Fs (s s' : DS) : Prop := s.i ≤ s'.i ∧ (s'.e = 0 → s.e = 0 ∧ s.i < s'.i)
theorem Fw.refl (s : DS) : Fw s s := ⟨Nat.le_refl _, id⟩
theorem Fs.fw {a b : DS} (h : Fs a b) : Fw a b := ⟨h.1, fun e => (h.2 e).1⟩
theorem Fw.trans {a b c : DS} (h : Fw a b) (k : Fw b c) : Fw a c := ⟨Nat.le_trans h.1 k.1, fun e => h.2 (k.2 e)⟩
theorem Fs.then {a b c : DS} (h : Fs a b) (k : Fw b c) : Fs a c := ⟨Nat.le_trans h.1 k.1, fun e => ⟨(h.2 (k.2 e)).1, Nat.lt_of_lt_of_le (h.2 (k.2 e)).2 k.1⟩⟩
theorem Fw.then {a b c : DS} (h : Fw a b) (k : Fs b c) : Fs a c := ⟨Nat.le_trans h.1 k.1, fun e => ⟨h.2 (k.2 e).1, Nat.lt_of_le_of_lt h.1 (k.2 e).2⟩⟩

theorem fs_bad (s s' : DS) {x : Int} (hx : x ≠ 0) (h : Fw s s') : Fs s (dBad T s' x) := by
  unfold dBad
  split
  · exact ⟨h.1, fun e => absurd e hx⟩
  · rename_i h0; exact ⟨h.1, fun e => absurd e h0⟩
theorem fs_nx (s : DS) (h : s.e = 0) : Fs s (dNx s) := ⟨Nat.le_succ _, fun _ => ⟨h, Nat.lt_succ_self _⟩⟩
theorem fs_want (s : DS) (t : ByteArray) : Fs s (dWant T s t) := by
  unfold dWant
  split
  · rename_i h0
    split
    · exact fs_nx s h0
    · exact fs_bad s s (by decide) (Fw.refl s)
  · rename_i h0; exact ⟨Nat.le_refl _, fun e => absurd e h0⟩
theorem fs_enter (o : Int) (s : DS) (t : ByteArray) : Fs s (dEnter T o s t) := by
  unfold dEnter
  split
  · rename_i h0
    split
    · split
      · exact fs_bad s s (by decide) (Fw.refl s)
      · exact fs_nx s h0
    · exact fs_bad s s (by decide) (Fw.refl s)
  · rename_i h0; exact ⟨Nat.le_refl _, fun e => absurd e h0⟩
theorem fs_name (s : DS) : Fs s (dNameS T s) := by
  unfold dNameS
  split
  · rename_i h0; exact fs_nx s h0.1
  · exact fs_bad s s (by decide) (Fw.refl s)
theorem is_e {s : DS} {t : ByteArray} (h : dIs T s t = true) : s.e = 0 := by
  unfold dIs at h
  simp only [Bool.and_eq_true, decide_eq_true_eq] at h
  exact h.1.1
theorem dJoin_ne (n : ANode) (k : Int) (l : List ANode) : dJoin n k l ≠ [] := by unfold dJoin; simp

/-- Does it take a token? Are there nodes then? -/
def dTakes : Dq → Bool
  | .blockL .. | .funcL .. | .exprL .. | .thingL .. | .argsL .. | .severalL .. => false
  | _ => true
def dFull : Dq → Bool
  | .blockL .. | .funcL .. | .args | .argsL .. | .severalL .. => false
  | .exprL _ x | .thingL x => !x.isEmpty
  | _ => true

theorem bnd {α β : Type} {x : Option α} {g : α → Option β} {b : β} (h : x.bind g = some b) : ∃ a, x = some a ∧ g a = some b := Option.bind_eq_some_iff.1 h
theorem rete3 {l l' : List ANode} {k : Int} {s s' : DS} (h : dret l s = some (l', k, s')) : l' = l ∧ s' = s ∧ l.length ≤ 1000000 := by
  unfold dret at h
  by_cases hl : l.length ≤ 1000000
  · rw [if_pos hl] at h
    simp only [Option.some.injEq, Prod.mk.injEq] at h
    exact ⟨h.1.symm, h.2.2.symm, hl⟩
  · rw [if_neg hl] at h; cases h
theorem rete {l l' : List ANode} {k : Int} {s s' : DS} (h : dret l s = some (l', k, s')) : l' = l ∧ s' = s := ⟨(rete3 h).1, (rete3 h).2.1⟩
theorem gde {l : List ANode} {k : Int} {r : DRes} {x : List ANode × Int × DS} (h : dgd l k r = some x) : r = some x ∧ l.length ≤ 1000000 ∧ 0 ≤ k ∧ k ≤ 1000000 := by
  unfold dgd at h
  by_cases hl : l.length ≤ 1000000 ∧ 0 ≤ k ∧ k ≤ 1000000
  · rw [if_pos hl] at h; exact ⟨h, hl⟩
  · rw [if_neg hl] at h; cases h
theorem some3 {l l' : List ANode} {k k' : Int} {s s' : DS} (h : some (l, k, s) = some (l', k', s')) : l' = l ∧ k' = k ∧ s' = s := by
  simp only [Option.some.injEq, Prod.mk.injEq] at h
  exact ⟨h.1.symm, h.2.1.symm, h.2.2.symm⟩

theorem ite_some {c : Prop} [Decidable c] {a b x : DRes} (h : (if c then a else b) = x) : (c ∧ a = x) ∨ (¬ c ∧ b = x) := by
  by_cases hc : c
  · rw [if_pos hc] at h; exact .inl ⟨hc, h⟩
  · rw [if_neg hc] at h; exact .inr ⟨hc, h⟩
theorem fw_if {s x : DS} (a : Fw s x) (c : Prop) [Decidable c] : Fw s (if c then dBad T x 3 else x) := by
  split
  · exact (fs_bad s _ (by decide) a).fw
  · exact a

structure Goes (q : Dq) (s : DS) (l : List ANode) (s' : DS) : Prop where
  fw : Fw s s'
  fs : dTakes q = true → Fs s s'
  ne : dFull q = true → s'.e = 0 → l ≠ []

theorem Goes.takes {q : Dq} {s s' : DS} {l : List ANode} (h : Fs s s') (hn : s'.e = 0 → l ≠ []) : Goes q s l s' := ⟨h.fw, fun _ => h, fun _ => hn⟩
theorem Goes.loop {q : Dq} {s s' : DS} {l : List ANode} (h : Fw s s') (ht : dTakes q = false) (hf : dFull q = true → s'.e = 0 → l ≠ []) : Goes q s l s' := ⟨h, fun e => (by rw [ht] at e; cases e), hf⟩

theorem app_ne {x y : List ANode} (h : x ≠ []) : x ++ y ≠ [] := by
  intro e; exact h (List.append_eq_nil_iff.1 e).1
theorem full_ne {x : List ANode} : (!x.isEmpty) = true ↔ x ≠ [] := by cases x <;> simp

theorem dR_goes : ∀ (f : Nat) (q : Dq) (o : Int) (s : DS) (l : List ANode) (k : Int) (s' : DS), dR T f q o s = some (l, k, s') → Goes q s l s'
  | 0, _, _, _, _, _, _, h => by cases h
  | f + 1, q, o, s, l, k, s', h => by
    have ih := dR_goes f
    cases q with
    | block =>
      unfold dR at h
      obtain ⟨⟨l1, k1, s1⟩, h1, h2⟩ := bnd h
      obtain ⟨rfl, rfl⟩ := rete h2
      have g1 := ih _ _ _ _ _ _ h1
      exact .takes ((fs_enter o s _).then (g1.fw.trans (fs_want _ _).fw)) (fun _ => dJoin_ne _ _ _)
    | blockL l0 k0 =>
      unfold dR at h
      replace h := (gde h).1
      split at h
      · obtain ⟨⟨l1, k1, s1⟩, h1, h2⟩ := bnd h
        exact .loop ((ih _ _ _ _ _ _ h1).fw.trans (ih _ _ _ _ _ _ h2).fw) rfl (fun e => by cases e)
      · obtain ⟨rfl, rfl, rfl⟩ := some3 h
        exact .loop (Fw.refl _) rfl (fun e => by cases e)
    | func n =>
      unfold dR at h
      obtain ⟨⟨l1, k1, s1⟩, h1, h2⟩ := bnd h
      obtain ⟨⟨l2, k2, s2⟩, h3, h4⟩ := bnd h2
      obtain ⟨rfl, rfl⟩ := rete h4
      exact .takes ((fs_enter o s _).then ((ih _ _ _ _ _ _ h1).fw.trans ((fs_want _ _).fw.trans (ih _ _ _ _ _ _ h3).fw))) (fun _ => dJoin_ne _ _ _)
    | funcL l0 k0 =>
      unfold dR at h
      replace h := (gde h).1
      split at h
      · simp only at h
        refine .loop (Fw.trans (b := dNameS T (if (if 0 < k0 then dWant T s ⟨#[44]⟩ else s).e = 0 ∧ k0 = 16 ∧ (dtk T (if 0 < k0 then dWant T s ⟨#[44]⟩ else s).i).1 = 1 then dBad T (if 0 < k0 then dWant T s ⟨#[44]⟩ else s) 3 else (if 0 < k0 then dWant T s ⟨#[44]⟩ else s))) ?_ (ih _ _ _ _ _ _ h).fw) rfl (fun e => by cases e)
        have a : Fw s (if 0 < k0 then dWant T s ⟨#[44]⟩ else s) := by split; exact (fs_want _ _).fw; exact Fw.refl _
        exact Fw.trans (fw_if a _) (fs_name _).fw
      · obtain ⟨rfl, rfl, rfl⟩ := some3 h
        exact .loop (Fw.refl _) rfl (fun e => by cases e)
    | choice =>
      unfold dR at h
      obtain ⟨⟨l1, k1, s1⟩, h1, h2⟩ := bnd h
      obtain ⟨⟨l2, k2, s2⟩, h3, h4⟩ := bnd h2
      have b := (fs_want (T := T) s ⟨#[105, 102]⟩).then ((ih _ _ _ _ _ _ h1).fw.trans (ih _ _ _ _ _ _ h3).fw)
      simp only at h4
      split at h4
      · rename_i hi
        have c := b.then (fs_nx s2 (is_e hi)).fw
        split at h4
        · obtain ⟨⟨l5, k5, s5⟩, h5, h6⟩ := bnd h4
          obtain ⟨rfl, rfl⟩ := rete h6
          exact .takes (c.then (ih _ _ _ _ _ _ h5).fw) (fun _ => dJoin_ne _ _ _)
        · obtain ⟨⟨l5, k5, s5⟩, h5, h6⟩ := bnd h4
          obtain ⟨rfl, rfl⟩ := rete h6
          exact .takes (c.then (ih _ _ _ _ _ _ h5).fw) (fun _ => dJoin_ne _ _ _)
      · obtain ⟨rfl, rfl⟩ := rete h4
        exact .takes b (fun _ => dJoin_ne _ _ _)
    | stmt =>
      unfold dR at h
      rcases ite_some h with ⟨hi, h⟩ | ⟨hnn, h⟩
      · have g := ih _ _ _ _ _ _ h; exact .takes (g.fs rfl) (g.ne rfl)
      rcases ite_some h with ⟨hi, h⟩ | ⟨hnn, h⟩
      · have g := ih _ _ _ _ _ _ h; exact .takes (g.fs rfl) (g.ne rfl)
      rcases ite_some h with ⟨hi, h⟩ | ⟨hnn, h⟩
      · skip
        have g := ih _ _ _ _ _ _ h
        exact .takes ((fs_nx s (is_e hi.1)).then ((fs_name _).fw.trans g.fw)) (g.ne rfl)
      rcases ite_some h with ⟨hi, h⟩ | ⟨hnn, h⟩
      · skip
        obtain ⟨⟨l1, k1, s1⟩, h1, h2⟩ := bnd h
        obtain ⟨rfl, rfl⟩ := rete h2
        exact .takes ((fs_nx s (is_e hi)).then ((fs_name _).fw.trans ((fs_want _ _).fw.trans ((ih _ _ _ _ _ _ h1).fw.trans (fs_want _ _).fw)))) (fun _ => dJoin_ne _ _ _)
      rcases ite_some h with ⟨hi, h⟩ | ⟨hnn, h⟩
      · skip
        obtain ⟨⟨l1, k1, s1⟩, h1, h2⟩ := bnd h
        obtain ⟨⟨l2, k2, s2⟩, h3, h4⟩ := bnd h2
        obtain ⟨rfl, rfl⟩ := rete h4
        exact .takes ((fs_nx s (is_e hi)).then ((ih _ _ _ _ _ _ h1).fw.trans (ih _ _ _ _ _ _ h3).fw)) (fun _ => dJoin_ne _ _ _)
      rcases ite_some h with ⟨hi, h⟩ | ⟨hnn, h⟩
      · skip
        obtain ⟨rfl, rfl⟩ := rete h
        exact .takes ((fs_nx s (is_e hi)).then (fs_want _ _).fw) (fun _ => dJoin_ne _ _ _)
      rcases ite_some h with ⟨hi, h⟩ | ⟨hnn, h⟩
      · skip
        obtain ⟨rfl, rfl⟩ := rete h
        exact .takes ((fs_nx s (is_e hi)).then (fs_want _ _).fw) (fun _ => dJoin_ne _ _ _)
      rcases ite_some h with ⟨hi, h⟩ | ⟨hnn, h⟩
      · have h0 := hi
        rcases ite_some h with ⟨hj, h⟩ | ⟨hnn, h⟩
        · skip
          obtain ⟨rfl, rfl⟩ := rete h
          exact .takes ((fs_nx s (is_e hi)).then (fs_nx _ (is_e hj)).fw) (fun _ => dJoin_ne _ _ _)
        · obtain ⟨⟨l1, k1, s1⟩, h1, h2⟩ := bnd h
          obtain ⟨rfl, rfl⟩ := rete h2
          exact .takes ((fs_nx s (is_e hi)).then ((ih _ _ _ _ _ _ h1).fw.trans (fs_want _ _).fw)) (fun _ => dJoin_ne _ _ _)
      rcases ite_some h with ⟨hi, h⟩ | ⟨hnn, h⟩
      · skip
        obtain ⟨⟨l1, k1, s1⟩, h1, h2⟩ := bnd h
        obtain ⟨rfl, rfl⟩ := rete h2
        exact .takes ((fs_nx s (is_e hi)).then ((ih _ _ _ _ _ _ h1).fw.trans (fs_want _ _).fw)) (fun _ => dJoin_ne _ _ _)
      rcases ite_some h with ⟨hi, h⟩ | ⟨hnn, h⟩
      · skip
        obtain ⟨⟨l1, k1, s1⟩, h1, h2⟩ := bnd h
        obtain ⟨⟨l2, k2, s2⟩, h3, h4⟩ := bnd h2
        obtain ⟨rfl, rfl⟩ := rete h4
        exact .takes ((fs_nx s (is_e hi)).then ((ih _ _ _ _ _ _ h1).fw.trans ((fs_want _ _).fw.trans ((fs_name _).fw.trans (ih _ _ _ _ _ _ h3).fw)))) (fun _ => dJoin_ne _ _ _)
      · have g := ih _ _ _ _ _ _ h; exact .takes (g.fs rfl) (g.ne rfl)
    | plain =>
      unfold dR at h
      obtain ⟨⟨l1, k1, s1⟩, h1, h2⟩ := bnd h
      have g1 := ih _ _ _ _ _ _ h1
      simp only at h2
      split at h2
      · rename_i he
        obtain ⟨rfl, rfl⟩ := rete h2
        exact .takes (g1.fs rfl) (fun e => absurd e he)
      split at h2
      · obtain ⟨⟨l3, k3, s3⟩, h3, h4⟩ := bnd h2
        obtain ⟨rfl, rfl⟩ := rete h4
        refine .takes ((g1.fs rfl).then (Fw.trans (b := if dKd0 l1 = 19 ∨ dKd0 l1 = 29 ∨ dKd0 l1 = 30 then s1 else dBad T s1 6) ?_ ((fs_want _ _).fw.trans ((ih _ _ _ _ _ _ h3).fw.trans (fs_want _ _).fw)))) (fun _ => dJoin_ne _ _ _)
        split
        · exact Fw.refl _
        · exact (fs_bad _ _ (by decide) (Fw.refl _)).fw
      · obtain ⟨rfl, rfl⟩ := rete h2
        exact .takes ((g1.fs rfl).then (fs_want _ _).fw) (fun _ => dJoin_ne _ _ _)
    | ahead t k0 lev =>
      unfold dR at h
      obtain ⟨⟨l1, k1, s1⟩, h1, h2⟩ := bnd h
      obtain ⟨rfl, rfl⟩ := rete h2
      exact .takes ((fs_enter o s _).then (ih _ _ _ _ _ _ h1).fw) (fun _ => dJoin_ne _ _ _)
    | expr lev =>
      unfold dR at h
      split at h
      · cases h
      split at h
      · rename_i he
        obtain ⟨rfl, rfl⟩ := rete h
        exact .takes ⟨Nat.le_refl _, fun e => absurd e he⟩ (fun e => absurd e he)
      split at h
      · have g := ih _ _ _ _ _ _ h; exact .takes (g.fs rfl) (g.ne rfl)
      split at h
      · split at h
        · have g := ih _ _ _ _ _ _ h; exact .takes (g.fs rfl) (g.ne rfl)
        · have g := ih _ _ _ _ _ _ h; exact .takes (g.fs rfl) (g.ne rfl)
      · obtain ⟨⟨l1, k1, s1⟩, h1, h2⟩ := bnd h
        have g1 := ih _ _ _ _ _ _ h1
        have g2 := ih _ _ _ _ _ _ h2
        exact .takes ((g1.fs rfl).then g2.fw) (fun e => g2.ne (full_ne.2 (g1.ne rfl (g2.fw.2 e))) e)
    | exprL lev x =>
      unfold dR at h
      replace h := (gde h).1
      split at h
      · rename_i hc
        obtain ⟨⟨l1, k1, s1⟩, h1, h2⟩ := bnd h
        have g1 := ih _ _ _ _ _ _ h1
        have a := (fs_nx s hc.1).then g1.fw
        simp only at h2
        split at h2
        · obtain ⟨rfl, rfl⟩ := rete h2
          exact .loop a.fw rfl (fun _ _ => dJoin_ne _ _ _)
        · have g2 := ih _ _ _ _ _ _ h2
          exact .loop (a.fw.trans g2.fw) rfl (fun _ e => g2.ne rfl e)
      · obtain ⟨rfl, rfl⟩ := rete h
        exact .loop (Fw.refl _) rfl (fun e _ => full_ne.1 e)
    | thing =>
      unfold dR at h
      obtain ⟨⟨l1, k1, s1⟩, h1, h2⟩ := bnd h
      have g1 := ih _ _ _ _ _ _ h1
      have g2 := ih _ _ _ _ _ _ h2
      exact .takes ((g1.fs rfl).then g2.fw) (fun e => g2.ne (full_ne.2 (g1.ne rfl (g2.fw.2 e))) e)
    | thingL x =>
      unfold dR at h
      replace h := (gde h).1
      split at h
      · rename_i he
        obtain ⟨rfl, rfl⟩ := rete h
        exact .loop (Fw.refl _) rfl (fun _ e => absurd e he)
      split at h
      · obtain ⟨⟨l1, k1, s1⟩, h1, h2⟩ := bnd h
        have g2 := ih _ _ _ _ _ _ h2
        exact .loop ((ih _ _ _ _ _ _ h1).fw.trans g2.fw) rfl (fun _ e => g2.ne rfl e)
      split at h
      · obtain ⟨⟨l1, k1, s1⟩, h1, h2⟩ := bnd h
        have g2 := ih _ _ _ _ _ _ h2
        exact .loop ((fs_enter o s _).fw.trans ((ih _ _ _ _ _ _ h1).fw.trans ((fs_want _ _).fw.trans g2.fw))) rfl (fun _ e => g2.ne rfl e)
      split at h
      · rename_i hi
        have g2 := ih _ _ _ _ _ _ h
        exact .loop ((fs_nx s (is_e hi)).fw.trans ((fs_name _).fw.trans g2.fw)) rfl (fun _ e => g2.ne rfl e)
      · obtain ⟨rfl, rfl⟩ := rete h
        exact .loop (Fw.refl _) rfl (fun e _ => full_ne.1 e)
    | args =>
      unfold dR at h
      obtain ⟨⟨l1, k1, s1⟩, h1, h2⟩ := bnd h
      obtain ⟨rfl, rfl, rfl⟩ := some3 h2
      exact ⟨((fs_enter o s _).then ((ih _ _ _ _ _ _ h1).fw.trans (fs_want _ _).fw)).fw, fun _ => (fs_enter o s _).then ((ih _ _ _ _ _ _ h1).fw.trans (fs_want _ _).fw), fun e => by cases e⟩
    | argsL l0 k0 =>
      unfold dR at h
      replace h := (gde h).1
      split at h
      · obtain ⟨⟨l1, k1, s1⟩, h1, h2⟩ := bnd h
        have a : Fw s (if 0 < k0 then dWant T s ⟨#[44]⟩ else s) := by split; exact (fs_want _ _).fw; exact Fw.refl _
        refine .loop (Fw.trans (b := if (if 0 < k0 then dWant T s ⟨#[44]⟩ else s).e = 0 ∧ k0 = 16 then dBad T (if 0 < k0 then dWant T s ⟨#[44]⟩ else s) 3 else (if 0 < k0 then dWant T s ⟨#[44]⟩ else s)) ?_ ((ih _ _ _ _ _ _ h1).fw.trans (ih _ _ _ _ _ _ h2).fw)) rfl (fun e => by cases e)
        exact fw_if a _
      · obtain ⟨rfl, rfl, rfl⟩ := some3 h
        exact .loop (Fw.refl _) rfl (fun e => by cases e)
    | prim =>
      unfold dR at h
      have a : Fs s (dNx s) := ⟨Nat.le_succ _, fun e => ⟨e, Nat.lt_succ_self _⟩⟩
      split at h
      · obtain ⟨rfl, rfl⟩ := rete h; exact .takes a (fun _ => by simp)
      split at h
      · obtain ⟨rfl, rfl⟩ := rete h; exact .takes a (fun _ => by simp)
      split at h
      · obtain ⟨rfl, rfl⟩ := rete h; exact .takes a (fun _ => by simp)
      · have g := ih _ _ _ _ _ _ h; exact .takes (g.fs rfl) (g.ne rfl)
    | about n =>
      unfold dR at h
      rcases ite_some h with ⟨hi, h⟩ | ⟨hnn, h⟩
      · obtain ⟨rfl, rfl⟩ := rete h; exact .takes (fs_nx s (is_e hi)) (fun _ => by simp)
      rcases ite_some h with ⟨hi, h⟩ | ⟨hnn, h⟩
      · obtain ⟨rfl, rfl⟩ := rete h; exact .takes (fs_nx s (is_e hi)) (fun _ => by simp)
      rcases ite_some h with ⟨hi, h⟩ | ⟨hnn, h⟩
      · obtain ⟨rfl, rfl⟩ := rete h; exact .takes (fs_nx s (is_e hi)) (fun _ => by simp)
      rcases ite_some h with ⟨hi, h⟩ | ⟨hnn, h⟩
      · skip
        have g := ih _ _ _ _ _ _ h
        exact .takes ((fs_nx s (is_e hi)).then g.fw) (g.ne rfl)
      rcases ite_some h with ⟨hi, h⟩ | ⟨hnn, h⟩
      · obtain ⟨⟨l1, k1, s1⟩, h1, h2⟩ := bnd h
        obtain ⟨rfl, rfl⟩ := rete h2
        have g1 := ih _ _ _ _ _ _ h1
        exact .takes ((fs_enter o s _).then (g1.fw.trans (fs_want _ _).fw)) (fun e => g1.ne rfl ((fs_want _ _).2 e).1)
      rcases ite_some h with ⟨hi, h⟩ | ⟨hnn, h⟩
      · have g := ih _ _ _ _ _ _ h; exact .takes (g.fs rfl) (g.ne rfl)
      rcases ite_some h with ⟨hi, h⟩ | ⟨hnn, h⟩
      · have g := ih _ _ _ _ _ _ h; exact .takes (g.fs rfl) (g.ne rfl)
      rcases ite_some h with ⟨hi, h⟩ | ⟨hnn, h⟩
      · simp only at h
        rcases ite_some h with ⟨hi, h⟩ | ⟨hnn, h⟩
        · have he := hi
          obtain ⟨rfl, rfl⟩ := rete h
          exact .takes (fs_enter o s _) (fun e => absurd e he)
        · obtain ⟨⟨l1, k1, s1⟩, h1, h2⟩ := bnd h
          have g1 := ih _ _ _ _ _ _ h1
          have a : Fw s1 (if s1.e = 0 ∧ dKd0 l1 ≠ 28 then dBad T s1 6 else s1) := by
            split
            · exact (fs_bad _ _ (by decide) (Fw.refl _)).fw
            · exact Fw.refl _
          have b := (fs_enter (T := T) o s ⟨#[115, 112, 97, 119, 110]⟩).then (g1.fw.trans a)
          simp only at h2
          rcases ite_some h2 with ⟨hi, h2⟩ | ⟨hnn, h2⟩
          · have he := hi
            obtain ⟨rfl, rfl⟩ := rete h2
            exact .takes b (fun e => absurd e he)
          · obtain ⟨rfl, rfl⟩ := rete h2
            exact .takes b (fun _ => by simp)
      · obtain ⟨rfl, rfl⟩ := rete h
        exact .takes (fs_bad s s (by decide) (Fw.refl s)) (fun _ => by simp)
    | several n rc =>
      unfold dR at h
      obtain ⟨⟨l1, k1, s1⟩, h1, h2⟩ := bnd h
      obtain ⟨rfl, rfl⟩ := rete h2
      exact .takes ((fs_enter o s _).then ((ih _ _ _ _ _ _ h1).fw.trans (fs_want _ _).fw)) (fun _ => dJoin_ne _ _ _)
    | severalL rc l0 k0 =>
      unfold dR at h
      replace h := (gde h).1
      rcases ite_some h with ⟨hi, h⟩ | ⟨hnn, h⟩
      · have a : Fw s (if 0 < k0 then dWant T s ⟨#[44]⟩ else s) := by split; exact (fs_want _ _).fw; exact Fw.refl _
        simp only at h
        rcases ite_some h with ⟨hj, h⟩ | ⟨hnn, h⟩
        · obtain ⟨⟨l1, k1, s1⟩, h1, h2⟩ := bnd h
          exact .loop (a.trans ((fs_name _).fw.trans ((fs_want _ _).fw.trans ((ih _ _ _ _ _ _ h1).fw.trans (ih _ _ _ _ _ _ h2).fw)))) rfl (fun e => by cases e)
        · obtain ⟨⟨l1, k1, s1⟩, h1, h2⟩ := bnd h
          exact .loop (a.trans ((ih _ _ _ _ _ _ h1).fw.trans (ih _ _ _ _ _ _ h2).fw)) rfl (fun e => by cases e)
      · obtain ⟨rfl, rfl, rfl⟩ := some3 h
        exact .loop (Fw.refl _) rfl (fun e => by cases e)

end

end Go.Proofs.YtekkjpecdflajaaDoor

set_option linter.unusedSimpArgs false
set_option linter.unusedVariables false
namespace Go.Proofs.YtekkjpecdflajaaDoor
open Go Go.RowKit

theorem lexF_nil (f at_ : Nat) (acc : List ATok) : lexF (f + 1) [] at_ acc = (acc ++ [(0, [], 0, (at_ : Int))], 0, at_) := rfl

theorem lexF_blank {c : Int} (h : isBl c = true) (f : Nat) (t : List Int) (at_ : Nat) (acc : List ATok) : lexF (f + 1) (c :: t) at_ acc = lexF f t (at_ + 1) acc := by
  simp [lexF, h]

theorem lexF_rem (f : Nat) (t : List Int) (at_ : Nat) (acc : List ATok) : lexF (f + 1) (35 :: t) at_ acc = lexF f (t.drop (twl (· != 10) t)) (at_ + 1 + twl (· != 10) t) acc := by
  simp [lexF, isBl]

theorem lexF_form {c : Int} (h : isBl c = false) (h1 : c ≠ 35) (h2 : begn c = false) (f : Nat) (t : List Int) (at_ : Nat) (acc : List ATok) : lexF (f + 1) (c :: t) at_ acc = ([], 6, at_) := by
  simp [lexF, h, h1, h2]

theorem lexF_full {c : Int} (h : isBl c = false) (h1 : c ≠ 35) (h2 : begn c = true) (f : Nat) (t : List Int) (at_ : Nat) (acc : List ATok) (ha : acc.length = 16384) : lexF (f + 1) (c :: t) at_ acc = ([], 3, at_) := by
  simp [lexF, h, h1, h2, ha]

theorem lexF_bad {c : Int} (h : isBl c = false) (h1 : c ≠ 35) (h2 : begn c = true) (f : Nat) (t : List Int) (at_ : Nat) (acc : List ATok) (ha : acc.length ≠ 16384) {e : Int} {off : Nat} (hc : cut (c :: t) = .bad e off) :
    lexF (f + 1) (c :: t) at_ acc = ([], e, at_ + off) := by
  simp [lexF, h, h1, h2, ha, hc]

theorem lexF_tok {c : Int} (h : isBl c = false) (h1 : c ≠ 35) (h2 : begn c = true) (f : Nat) (t : List Int) (at_ : Nat) (acc : List ATok) (ha : acc.length ≠ 16384) {k n : Int} {x : List Int} {len : Nat} (hc : cut (c :: t) = .tok k x n len) :
    lexF (f + 1) (c :: t) at_ acc = lexF f ((c :: t).drop len) (at_ + len) (acc ++ [(k, x, n, (at_ : Int))]) := by
  simp [lexF, h, h1, h2, ha, hc]

theorem twl_le (p : Int → Bool) (r : List Int) : twl p r ≤ r.length := by
  unfold twl
  exact (List.takeWhile_sublist p).length_le

theorem twl_cons (p : Int → Bool) (c : Int) (t : List Int) : twl p (c :: t) = if p c then twl p t + 1 else 0 := by
  unfold twl
  rw [List.takeWhile_cons]
  split <;> simp

theorem twl_nil (p : Int → Bool) : twl p [] = 0 := rfl

/-- What was gone through is no more than there is; one goes on, or stops just there. -/
theorem twl_go {p : Int → Bool} : ∀ {r : List Int} {k : Nat} (hk : k ≤ twl p r) (hl : k < r.length) (hp : p r[k] = true), k + 1 ≤ twl p r
  | [], k, _, hl, _ => by simp at hl
  | c :: t, 0, _, _, hp => by
    rw [twl_cons, if_pos (by simpa using hp)]; omega
  | c :: t, k + 1, hk, hl, hp => by
    rw [twl_cons] at hk ⊢
    split at hk
    · rename_i hc
      have hl' : k < t.length := by simpa using hl
      have := twl_go (p := p) (r := t) (k := k) (by omega) hl' (by simpa using hp)
      rw [if_pos hc]; omega
    · omega

theorem twl_no {p : Int → Bool} : ∀ {r : List Int} {k : Nat} (hk : k ≤ twl p r) (hl : k < r.length) (hp : p r[k] = false), twl p r = k
  | [], k, _, hl, _ => by simp at hl
  | c :: t, 0, _, _, hp => by
    rw [twl_cons, if_neg (by simpa using hp)]
  | c :: t, k + 1, hk, hl, hp => by
    rw [twl_cons] at hk ⊢
    split at hk
    · rename_i hc
      have hl' : k < t.length := by simpa using hl
      have := twl_no (p := p) (r := t) (k := k) (by omega) hl' (by simpa using hp)
      rw [if_pos hc]; omega
    · omega

theorem twl_end {p : Int → Bool} {r : List Int} {k : Nat} (hk : k ≤ twl p r) (hl : r.length ≤ k) : twl p r = k := by
  have := twl_le p r; omega

theorem takeWhile_twl (p : Int → Bool) (r : List Int) : r.takeWhile p = r.take (twl p r) := by
  unfold twl
  induction r with
  | nil => rfl
  | cons c t ih =>
    rw [List.takeWhile_cons]
    split
    · simp [← ih]
    · simp

/-- Cut behind a stop, what is at the head is the same. -/
theorem twl_stop {p : Int → Bool} (s : Int) (hs : p s = false) (b : List Int) : ∀ (t : List Int), (t ++ s :: b).takeWhile p = (t ++ [s]).takeWhile p ∧ twl p (t ++ s :: b) = twl p (t ++ [s]) ∧ twl p (t ++ [s]) ≤ t.length
  | [] => by simp [twl, List.takeWhile_cons, hs]
  | c :: t => by
    obtain ⟨h1, h2, h3⟩ := twl_stop s hs b t
    rw [List.cons_append, List.cons_append, List.takeWhile_cons, List.takeWhile_cons, twl_cons, twl_cons]
    cases hc : p c
    · simp
    · simp [h1, h2]; omega

theorem esc_bd {r : List Int} {x : Int} {m : Nat} (h : esc r = .inl (x, m)) : 2 ≤ m ∧ m ≤ r.length + 1 := by
  unfold esc at h
  repeat' split at h
  all_goals first | cases h | skip
  all_goals simp

theorem esc_bad {r : List Int} {m : Nat} (h : esc r = .inr m) : 1 ≤ m ∧ m ≤ r.length + 1 := by
  unfold esc at h
  repeat' split at h
  all_goals first | cases h | skip
  all_goals simp

theorem numOf_snoc (l : List Int) (d : Int) : numOf (l ++ [d]) = numStep (numOf l) d := by simp [numOf]

/-! ## numbers as they are shown -/

def decL : Nat → Nat → List Int
  | 0, _ => []
  | f + 1, n => if n < 10 then [48 + (n : Int)] else decL f (n / 10) ++ [48 + ((n % 10 : Nat) : Int)]

theorem decL_ok : ∀ (f n : Nat), n < f → (∀ c ∈ decL f n, isDg c = true) ∧ 0 < (decL f n).length ∧ ((decL f n).head? = some 48 → n = 0) ∧ (n = 0 → (decL f n).length = 1)
  | 0, n, h => by omega
  | f + 1, n, h => by
    unfold decL
    split
    · rename_i h0
      refine ⟨fun c hc => ?_, by simp, fun h => by simp at h; omega, fun _ => by simp⟩
      simp at hc
      subst hc
      simp [isDg]; omega
    · rename_i h0
      obtain ⟨h1, h2, h3, h4⟩ := decL_ok f (n / 10) (by omega)
      refine ⟨fun c hc => ?_, by simp, fun h => ?_, fun h => by omega⟩
      · simp only [List.mem_append, List.mem_singleton] at hc
        rcases hc with hc | hc
        · exact h1 c hc
        · subst hc
          simp [isDg]; omega
      · rw [List.head?_append] at h
        cases hd : (decL f (n / 10)).head? with
        | none => rw [List.head?_eq_none_iff] at hd; rw [hd] at h2; simp at h2
        | some c =>
          rw [hd] at h
          have := h3 (by rw [hd]; simpa using h)
          omega

theorem decL_num : ∀ (f n : Nat), n < f → ((n : Int) ≤ 2305843009213693951 → numOf (decL f n) = ((n : Int), false)) ∧ (2305843009213693951 < (n : Int) → (numOf (decL f n)).2 = true)
  | 0, n, h => by omega
  | f + 1, n, h => by
    unfold decL
    split
    · rename_i h0
      refine ⟨fun _ => ?_, fun h => by omega⟩
      have e : (2305843009213693951 - (48 + (n : Int) - 48)).tdiv 10 = (2305843009213693951 - (n : Int)) / 10 := by
        rw [Int.tdiv_eq_ediv_of_nonneg (by omega)]; congr 1; omega
      simp only [numOf, List.foldl_cons, List.foldl_nil, numStep, e]
      rw [if_neg (by omega)]
      congr 1; omega
    · rename_i h0
      obtain ⟨h1, h2⟩ := decL_num f (n / 10) (by omega)
      rw [numOf_snoc]
      have e : (2305843009213693951 - (48 + ((n % 10 : Nat) : Int) - 48)).tdiv 10 = (2305843009213693951 - ((n % 10 : Nat) : Int)) / 10 := by
        rw [Int.tdiv_eq_ediv_of_nonneg (by omega)]; congr 1; omega
      constructor
      · intro hn
        rw [h1 (by omega)]
        simp only [numStep, e]
        rw [if_neg (by omega)]
        congr 1; omega
      · intro hn
        by_cases hq : ((n / 10 : Nat) : Int) ≤ 2305843009213693951
        · rw [h1 hq]
          simp only [numStep, e]
          rw [if_pos (by omega)]
        · have := h2 (by omega)
          unfold numStep
          split
          · rfl
          · exact this

theorem takeWhile_all {p : Int → Bool} {l : List Int} (h : ∀ c ∈ l, p c = true) : l.takeWhile p = l := by
  induction l with
  | nil => rfl
  | cons c t ih => rw [List.takeWhile_cons, if_pos (h c (by simp)), ih (fun x hx => h x (by simp [hx]))]

theorem dg_facts {c : Int} (h : isDg c = true) : isBl c = false ∧ c ≠ 35 ∧ begn c = true ∧ isLt c = false := by
  simp [isDg] at h
  refine ⟨by simp [isBl]; omega, by omega, by simp [begn, isDg]; omega, by simp [isLt]; omega⟩

theorem cut_dec {l : List Int} (hd : ∀ c ∈ l, isDg c = true) (h0 : 0 < l.length) (hz : l.head? = some 48 → l.length = 1) :
    cut l = if (numOf l).2 then .bad 9 0 else .tok 3 [] (numOf l).1 l.length := by
  obtain ⟨c, t, rfl⟩ : ∃ c t, l = c :: t := by cases l with | nil => simp at h0 | cons c t => exact ⟨c, t, rfl⟩
  have hc := dg_facts (hd c (by simp))
  have ht : twl isDg (c :: t) = (c :: t).length := by unfold twl; rw [takeWhile_all hd]
  simp only [cut, hc.2.2.2, hd c (by simp), Bool.false_eq_true, if_false, if_true]
  unfold cNum
  rw [ht, takeWhile_all hd, if_neg (by rintro ⟨h1, h2⟩; have := hz h1; omega), if_neg (by simp)]

theorem lex_dec (n : Nat) (l : List Int) (hl : l = decL (n + 1) n) (hs : l.length ≤ 65536) :
    lexA l = if 2305843009213693951 < (n : Int) then ([], 9, 0) else ([(3, [], (n : Int), 0), (0, [], 0, (l.length : Int))], 0, l.length) := by
  obtain ⟨h1, h2, h3, h4⟩ := decL_ok (n + 1) n (by omega)
  obtain ⟨g1, g2⟩ := decL_num (n + 1) n (by omega)
  rw [← hl] at h1 h2 h3 h4 g1 g2
  have hcut := cut_dec h1 h2 (fun h => h4 (h3 h))
  clear hl
  obtain ⟨c, t, rfl⟩ : ∃ c t, l = c :: t := by cases l with | nil => simp at h2 | cons c t => exact ⟨c, t, rfl⟩
  have hc := dg_facts (h1 c (by simp))
  unfold lexA
  rw [if_neg (by omega)]
  by_cases hn : (n : Int) ≤ 2305843009213693951
  · rw [g1 hn] at hcut
    rw [if_neg (by omega), lexF_tok hc.1 hc.2.1 hc.2.2.1 _ _ _ _ (by simp) hcut]
    rw [List.drop_length, List.length_cons, lexF_nil]
    simp
  · rw [if_pos (g2 (by omega))] at hcut
    rw [if_pos (by omega), lexF_bad hc.1 hc.2.1 hc.2.2.1 _ _ _ _ (by simp) hcut]

/-! ## strings as they are shown -/

def hexD (n : Int) : Int := if n < 10 then 48 + n else 87 + n
def qOne (c : Int) : List Int :=
  if c = 10 then [92, 110] else if c = 9 then [92, 116] else if c = 34 ∨ c = 92 then [92, c]
  else if c < 32 ∨ c > 126 then [92, 120, hexD (c / 16), hexD (c % 16)] else [c]
def qAll (b : List Int) : List Int := b.flatMap qOne

theorem hexV_hexD (n : Int) (h0 : 0 ≤ n) (h1 : n < 16) : hexV (hexD n) = some n := by
  unfold hexD hexV
  split
  · rw [if_pos (by omega)]; congr 1; omega
  · rw [if_neg (by omega), if_pos (by omega)]; congr 1; omega

theorem cStr_quote (tail : List Int) : ∀ (b : List Int) (hb : ∀ c ∈ b, 0 ≤ c ∧ c ≤ 255) (f : Nat) (acc : List Int) (k : Nat), (qAll b ++ 34 :: tail).length < f → cStr f (qAll b ++ 34 :: tail) acc k = .tok 4 (acc ++ b) 0 (k + (qAll b).length + 1)
  | [], _, 0, _, _, h => by omega
  | [], _, f + 1, acc, k, h => by simp [qAll, cStr]
  | c :: t, hb, 0, _, _, h => by omega
  | c :: t, hb, f + 1, acc, k, h => by
    have hc := hb c (by simp)
    have ih := fun f acc k h => cStr_quote tail t (fun x hx => hb x (by simp [hx])) f acc k h
    have e : qAll (c :: t) = qOne c ++ qAll t := by simp [qAll]
    rw [e] at h ⊢
    generalize qAll t = q at ih h
    by_cases h1 : c = 10
    · subst h1
      rw [show qOne 10 = [92, 110] from rfl] at h ⊢
      have hh : (q ++ 34 :: tail).length < f := by simp at h ⊢; omega
      simp [cStr, esc, ih _ _ _ hh]; omega
    by_cases h2 : c = 9
    · subst h2
      rw [show qOne 9 = [92, 116] from rfl] at h ⊢
      have hh : (q ++ 34 :: tail).length < f := by simp at h ⊢; omega
      simp [cStr, esc, ih _ _ _ hh]; omega
    by_cases h3 : c = 34 ∨ c = 92
    · rw [show qOne c = [92, c] by simp [qOne, h1, h2, h3]] at h ⊢
      have hh : (q ++ 34 :: tail).length < f := by simp at h ⊢; omega
      simp [cStr, esc, h3, ih _ _ _ hh]; omega
    by_cases h4 : c < 32 ∨ c > 126
    · rw [show qOne c = [92, 120, hexD (c / 16), hexD (c % 16)] by simp only [qOne, if_neg h1, if_neg h2, if_neg h3, if_pos h4]] at h ⊢
      have hh : (q ++ 34 :: tail).length < f := by simp at h ⊢; omega
      have hv : 16 * (c / 16) + c % 16 = c := by omega
      simp [cStr, esc, hexV_hexD (c / 16) (by omega) (by omega), hexV_hexD (c % 16) (by omega) (by omega), hv, ih _ _ _ hh]; omega
    · rw [show qOne c = [c] by simp only [qOne, if_neg h1, if_neg h2, if_neg h3, if_neg h4]] at h ⊢
      have hh : (q ++ 34 :: tail).length < f := by simp at h ⊢; omega
      have n1 : c ≠ 34 := by omega
      have n2 : c ≠ 92 := by omega
      simp [cStr, h1, n1, n2, ih _ _ _ hh]; omega

theorem qOne_len (c : Int) : (qOne c).length ≤ 4 := by
  unfold qOne
  repeat' split
  all_goals simp
theorem qAll_len : ∀ b : List Int, (qAll b).length ≤ 4 * b.length
  | [] => by simp [qAll]
  | c :: t => by
    have := qAll_len t
    have := qOne_len c
    have e : qAll (c :: t) = qOne c ++ qAll t := by simp [qAll]
    rw [e, List.length_append, List.length_cons]; omega

theorem lex_quote (b : List Int) (hb : ∀ c ∈ b, 0 ≤ c ∧ c ≤ 255) (hl : b.length ≤ 3000) :
    lexA (34 :: (qAll b ++ [34])) = ([(4, b, 0, 0), (0, [], 0, ((qAll b).length : Int) + 2)], 0, (qAll b).length + 2) := by
  have hq := qAll_len b
  unfold lexA
  rw [if_neg (by simp; omega)]
  have hc := cStr_quote [] b hb ((qAll b ++ [34]).length + 1) [] 1 (by omega)
  have hcut : cut (34 :: (qAll b ++ [34])) = .tok 4 b 0 ((qAll b).length + 2) := by
    simp only [cut]
    rw [if_neg (by decide), if_neg (by decide), if_pos trivial, hc]
    simp; omega
  rw [lexF_tok (by decide) (by decide) (by decide) _ _ _ _ (by simp) hcut]
  have hd : (34 :: (qAll b ++ [34])).drop ((qAll b).length + 2) = [] := List.drop_eq_nil_of_le (by simp)
  rw [hd, show (34 :: (qAll b ++ [34])).length = (qAll b).length + 1 + 1 by simp, lexF_nil]
  simp

/-! ## as long as may be -/

theorem lex_blanks : ∀ (n f at_ : Nat) (acc : List ATok), n < f → lexF f (List.replicate n 32) at_ acc = (acc ++ [(0, [], 0, ((at_ + n : Nat) : Int))], 0, at_ + n)
  | n, 0, _, _, h => by omega
  | 0, f + 1, at_, acc, h => by simp [lexF]
  | n + 1, f + 1, at_, acc, h => by
    rw [List.replicate_succ]
    rw [lexF_blank (by decide), lex_blanks n f (at_ + 1) acc (by omega)]
    simp only [show at_ + 1 + n = at_ + (n + 1) by omega]

theorem cut_semi (t : List Int) (ht : t.head? ≠ some 61) : cut (59 :: t) = .tok 5 [59] 0 1 := by
  simp only [cut]
  rw [if_neg (by decide), if_neg (by decide), if_neg (by decide)]
  simp [cSign, ht, sg1]

theorem lex_semis : ∀ (n f at_ : Nat) (acc : List ATok), n < f → acc.length + n ≤ 16384 → ∃ l, lexF f (List.replicate n 59) at_ acc = (l, 0, at_ + n) ∧ l.length = acc.length + n + 1
  | n, 0, _, _, h, _ => by omega
  | 0, f + 1, at_, acc, h, _ => by simp [lexF]
  | n + 1, f + 1, at_, acc, h, hn => by
    rw [List.replicate_succ]
    rw [lexF_tok (by decide) (by decide) (by decide) _ _ _ _ (by omega) (cut_semi _ (by cases n <;> simp [List.replicate_succ]))]
    obtain ⟨l, h1, h2⟩ := lex_semis n f (at_ + 1) (acc ++ [(5, [59], 0, (at_ : Int))]) (by omega) (by simp; omega)
    refine ⟨l, ?_, by simp at h2; omega⟩
    simp only [List.drop_succ_cons, List.drop_zero, h1]
    congr 2; omega

theorem lex_many : ∀ (n f at_ : Nat) (acc : List ATok), n < f → acc.length ≤ 16384 → 16384 < acc.length + n → lexF f (List.replicate n 59) at_ acc = ([], 3, at_ + (16384 - acc.length))
  | n, 0, _, _, h, _, _ => by omega
  | 0, f + 1, at_, acc, h, h1, h2 => by omega
  | n + 1, f + 1, at_, acc, h, h1, h2 => by
    rw [List.replicate_succ]
    by_cases he : acc.length = 16384
    · rw [lexF_full (by decide) (by decide) (by decide) _ _ _ _ he, he]; simp
    · rw [lexF_tok (by decide) (by decide) (by decide) _ _ _ _ he (cut_semi _ (by cases n <;> simp [List.replicate_succ]))]
      simp only [List.drop_succ_cons, List.drop_zero]
      rw [lex_many n f (at_ + 1) _ (by omega) (by simp; omega) (by simp; omega)]
      simp only [List.length_append, List.length_cons, List.length_nil]
      congr 2; omega

end Go.Proofs.YtekkjpecdflajaaDoor

set_option linter.unusedSimpArgs false
set_option linter.unusedVariables false
namespace Go.Proofs.YtekkjpecdflajaaDoor
open Go Go.RowKit

/-- How many nodes are gone over, of those that come with so many parts each, till so many are whole. -/
def cns : List Nat → Nat → Option Nat
  | _, 0 => some 0
  | [], _ + 1 => none
  | k :: r, d + 1 => (cns r (d + k)).map (· + 1)

theorem cns_add : ∀ (l : List Nat) (a b : Nat), cns l (a + b) = (cns l a).bind fun m => (cns (l.drop m) b).map (m + ·)
  | l, 0, b => by
    cases l <;> simp [cns] <;> (cases h : cns _ b <;> simp)
  | [], a + 1, b => by
    rw [show a + 1 + b = (a + b) + 1 by omega]
    simp [cns]
  | k :: r, a + 1, b => by
    rw [show a + 1 + b = (a + b) + 1 by omega, cns, cns, show a + b + k = (a + k) + b by omega, cns_add r (a + k) b]
    cases h : cns r (a + k) with
    | none => simp
    | some m =>
      simp
      cases h2 : cns (r.drop m) b <;> simp <;> omega

theorem cns_le : ∀ (l : List Nat) (d m : Nat), cns l d = some m → d ≤ m ∧ m ≤ l.length
  | l, 0, m, h => by
    cases l <;> simp [cns] at h <;> subst h <;> simp
  | [], d + 1, m, h => by simp [cns] at h
  | k :: r, d + 1, m, h => by
    simp only [cns] at h
    cases h2 : cns r (d + k) with
    | none => rw [h2] at h; simp at h
    | some n =>
      rw [h2] at h
      simp at h
      have := cns_le r (d + k) n h2
      simp
      omega

/-- Nodes' numbers of parts; less than none counts as none. -/
def kidsN (L : List ANode) : List Nat := L.map fun n => n.2.1.toNat

/-- The place behind a node, or none. -/
def bhP (L : List ANode) (at_ : Nat) : Option Nat := (cns ((kidsN L).drop at_) 1).map (at_ + ·)

end Go.Proofs.YtekkjpecdflajaaDoor

set_option linter.unusedSimpArgs false
set_option linter.unusedVariables false
namespace Go.Proofs.YtekkjpecdflajaaDoor
open Go Go.RowKit

section
variable {T : List ATok}

/-- No list is longer. -/
theorem dR_len : ∀ {f : Nat} {q : Dq} {o : Int} {s s' : DS} {l : List ANode} {k : Int}, dR T f q o s = some (l, k, s') → l.length ≤ 1000000
  | 0, _, _, _, _, _, _, h => by cases h
  | f + 1, q, o, s, s', l, k, h => by
    cases q with
    | block => unfold dR at h; obtain ⟨x, h1, h2⟩ := bnd h; exact (rete3 h2).1 ▸ (rete3 h2).2.2
    | blockL l0 k0 =>
      unfold dR at h
      obtain ⟨h, hl, _⟩ := gde h
      rcases ite_some h with ⟨_, h⟩ | ⟨_, h⟩
      · obtain ⟨x, h1, h2⟩ := bnd h; exact dR_len h2
      · rw [(some3 h).1]; exact hl
    | func n => unfold dR at h; obtain ⟨x, h1, h2⟩ := bnd h; obtain ⟨y, h3, h4⟩ := bnd h2; exact (rete3 h4).1 ▸ (rete3 h4).2.2
    | funcL l0 k0 =>
      unfold dR at h
      obtain ⟨h, hl, _⟩ := gde h
      rcases ite_some h with ⟨_, h⟩ | ⟨_, h⟩
      · exact dR_len h
      · rw [(some3 h).1]; exact hl
    | choice =>
      unfold dR at h
      obtain ⟨x, h1, h2⟩ := bnd h; obtain ⟨y, h3, h4⟩ := bnd h2
      rcases ite_some h4 with ⟨_, h4⟩ | ⟨_, h4⟩
      · rcases ite_some h4 with ⟨_, h4⟩ | ⟨_, h4⟩
        · obtain ⟨z, h5, h6⟩ := bnd h4; exact (rete3 h6).1 ▸ (rete3 h6).2.2
        · obtain ⟨z, h5, h6⟩ := bnd h4; exact (rete3 h6).1 ▸ (rete3 h6).2.2
      · exact (rete3 h4).1 ▸ (rete3 h4).2.2
    | stmt =>
      unfold dR at h
      rcases ite_some h with ⟨_, h⟩ | ⟨_, h⟩
      · exact dR_len h
      rcases ite_some h with ⟨_, h⟩ | ⟨_, h⟩
      · exact dR_len h
      rcases ite_some h with ⟨_, h⟩ | ⟨_, h⟩
      · exact dR_len h
      rcases ite_some h with ⟨_, h⟩ | ⟨_, h⟩
      · obtain ⟨x, h1, h2⟩ := bnd h; exact (rete3 h2).1 ▸ (rete3 h2).2.2
      rcases ite_some h with ⟨_, h⟩ | ⟨_, h⟩
      · obtain ⟨x, h1, h2⟩ := bnd h; obtain ⟨y, h3, h4⟩ := bnd h2; exact (rete3 h4).1 ▸ (rete3 h4).2.2
      rcases ite_some h with ⟨_, h⟩ | ⟨_, h⟩
      · exact (rete3 h).1 ▸ (rete3 h).2.2
      rcases ite_some h with ⟨_, h⟩ | ⟨_, h⟩
      · exact (rete3 h).1 ▸ (rete3 h).2.2
      rcases ite_some h with ⟨_, h⟩ | ⟨_, h⟩
      · rcases ite_some h with ⟨_, h⟩ | ⟨_, h⟩
        · exact (rete3 h).1 ▸ (rete3 h).2.2
        · obtain ⟨x, h1, h2⟩ := bnd h; exact (rete3 h2).1 ▸ (rete3 h2).2.2
      rcases ite_some h with ⟨_, h⟩ | ⟨_, h⟩
      · obtain ⟨x, h1, h2⟩ := bnd h; exact (rete3 h2).1 ▸ (rete3 h2).2.2
      rcases ite_some h with ⟨_, h⟩ | ⟨_, h⟩
      · obtain ⟨x, h1, h2⟩ := bnd h; obtain ⟨y, h3, h4⟩ := bnd h2; exact (rete3 h4).1 ▸ (rete3 h4).2.2
      · exact dR_len h
    | plain =>
      unfold dR at h
      obtain ⟨x, h1, h2⟩ := bnd h
      rcases ite_some h2 with ⟨_, h2⟩ | ⟨_, h2⟩
      · exact (rete3 h2).1 ▸ (rete3 h2).2.2
      rcases ite_some h2 with ⟨_, h2⟩ | ⟨_, h2⟩
      · obtain ⟨y, h3, h4⟩ := bnd h2; exact (rete3 h4).1 ▸ (rete3 h4).2.2
      · exact (rete3 h2).1 ▸ (rete3 h2).2.2
    | ahead t k0 lev => unfold dR at h; obtain ⟨x, h1, h2⟩ := bnd h; exact (rete3 h2).1 ▸ (rete3 h2).2.2
    | expr lev =>
      unfold dR at h
      rcases ite_some h with ⟨_, h⟩ | ⟨_, h⟩
      · cases h
      rcases ite_some h with ⟨_, h⟩ | ⟨_, h⟩
      · exact (rete3 h).1 ▸ (rete3 h).2.2
      rcases ite_some h with ⟨_, h⟩ | ⟨_, h⟩
      · exact dR_len h
      rcases ite_some h with ⟨_, h⟩ | ⟨_, h⟩
      · rcases ite_some h with ⟨_, h⟩ | ⟨_, h⟩
        · exact dR_len h
        · exact dR_len h
      · obtain ⟨x, h1, h2⟩ := bnd h; exact dR_len h2
    | exprL lev x =>
      unfold dR at h
      obtain ⟨h, hl, _⟩ := gde h
      rcases ite_some h with ⟨_, h⟩ | ⟨_, h⟩
      · obtain ⟨x, h1, h2⟩ := bnd h
        rcases ite_some h2 with ⟨_, h2⟩ | ⟨_, h2⟩
        · exact (rete3 h2).1 ▸ (rete3 h2).2.2
        · exact dR_len h2
      · exact (rete3 h).1 ▸ (rete3 h).2.2
    | thing => unfold dR at h; obtain ⟨x, h1, h2⟩ := bnd h; exact dR_len h2
    | thingL x =>
      unfold dR at h
      obtain ⟨h, hl, _⟩ := gde h
      rcases ite_some h with ⟨_, h⟩ | ⟨_, h⟩
      · exact (rete3 h).1 ▸ (rete3 h).2.2
      rcases ite_some h with ⟨_, h⟩ | ⟨_, h⟩
      · obtain ⟨x, h1, h2⟩ := bnd h; exact dR_len h2
      rcases ite_some h with ⟨_, h⟩ | ⟨_, h⟩
      · obtain ⟨x, h1, h2⟩ := bnd h; exact dR_len h2
      rcases ite_some h with ⟨_, h⟩ | ⟨_, h⟩
      · exact dR_len h
      · exact (rete3 h).1 ▸ (rete3 h).2.2
    | args => unfold dR at h; obtain ⟨x, h1, h2⟩ := bnd h; rw [(some3 h2).1]; exact dR_len h1
    | argsL l0 k0 =>
      unfold dR at h
      obtain ⟨h, hl, _⟩ := gde h
      rcases ite_some h with ⟨_, h⟩ | ⟨_, h⟩
      · obtain ⟨x, h1, h2⟩ := bnd h; exact dR_len h2
      · rw [(some3 h).1]; exact hl
    | prim =>
      unfold dR at h
      rcases ite_some h with ⟨_, h⟩ | ⟨_, h⟩
      · exact (rete3 h).1 ▸ (rete3 h).2.2
      rcases ite_some h with ⟨_, h⟩ | ⟨_, h⟩
      · exact (rete3 h).1 ▸ (rete3 h).2.2
      rcases ite_some h with ⟨_, h⟩ | ⟨_, h⟩
      · exact (rete3 h).1 ▸ (rete3 h).2.2
      · exact dR_len h
    | about n =>
      unfold dR at h
      rcases ite_some h with ⟨_, h⟩ | ⟨_, h⟩
      · exact (rete3 h).1 ▸ (rete3 h).2.2
      rcases ite_some h with ⟨_, h⟩ | ⟨_, h⟩
      · exact (rete3 h).1 ▸ (rete3 h).2.2
      rcases ite_some h with ⟨_, h⟩ | ⟨_, h⟩
      · exact (rete3 h).1 ▸ (rete3 h).2.2
      rcases ite_some h with ⟨_, h⟩ | ⟨_, h⟩
      · exact dR_len h
      rcases ite_some h with ⟨_, h⟩ | ⟨_, h⟩
      · obtain ⟨x, h1, h2⟩ := bnd h; exact (rete3 h2).1 ▸ (rete3 h2).2.2
      rcases ite_some h with ⟨_, h⟩ | ⟨_, h⟩
      · exact dR_len h
      rcases ite_some h with ⟨_, h⟩ | ⟨_, h⟩
      · exact dR_len h
      rcases ite_some h with ⟨_, h⟩ | ⟨_, h⟩
      · rcases ite_some h with ⟨_, h⟩ | ⟨_, h⟩
        · exact (rete3 h).1 ▸ (rete3 h).2.2
        · obtain ⟨x, h1, h2⟩ := bnd h
          rcases ite_some h2 with ⟨_, h2⟩ | ⟨_, h2⟩
          · exact (rete3 h2).1 ▸ (rete3 h2).2.2
          · exact (rete3 h2).1 ▸ (rete3 h2).2.2
      · exact (rete3 h).1 ▸ (rete3 h).2.2
    | several n rc => unfold dR at h; obtain ⟨x, h1, h2⟩ := bnd h; exact (rete3 h2).1 ▸ (rete3 h2).2.2
    | severalL rc l0 k0 =>
      unfold dR at h
      obtain ⟨h, hl, _⟩ := gde h
      rcases ite_some h with ⟨_, h⟩ | ⟨_, h⟩
      · rcases ite_some h with ⟨_, h⟩ | ⟨_, h⟩
        · obtain ⟨x, h1, h2⟩ := bnd h; exact dR_len h2
        · obtain ⟨x, h1, h2⟩ := bnd h; exact dR_len h2
      · rw [(some3 h).1]; exact hl


end

end Go.Proofs.YtekkjpecdflajaaDoor

set_option linter.unusedVariables false
namespace Go.Proofs.YtekkjpecdflajaaDoor
open Go Go.RowKit

/-- The node that expr's loop makes of its list x at the token of s. -/
def exN (T : List ATok) (lev : Int) (x : List ANode) (s : DS) : ANode := if lev < 2 then (25 - lev, 0, [], 0, dAt0 x) else (23, 0, (dtk T s.i).2.1, 0, dAt0 x)

theorem exprL_inv {T : List ATok} {f : Nat} {lev o : Int} {x l : List ANode} {k : Int} {s s' : DS} (h : dR T f (.exprL lev x) o s = some (l, k, s')) : ∃ g, f = g + 1 ∧ x.length ≤ 1000000 ∧
    ((s.e = 0 ∧ lev ≠ 2 ∧ dLev (dtk T s.i) = lev ∧ ∃ l1 k1 s1, dR T g (.expr (lev + 1)) o (dNx s) = some (l1, k1, s1) ∧
      ((lev = 3 ∧ l = dJoin (exN T lev x s) 2 (x ++ l1) ∧ s' = s1 ∧ l.length ≤ 1000000) ∨ (lev ≠ 3 ∧ dR T g (.exprL lev (dJoin (exN T lev x s) 2 (x ++ l1))) o s1 = some (l, k, s'))))
    ∨ (¬ (s.e = 0 ∧ lev ≠ 2 ∧ dLev (dtk T s.i) = lev) ∧ l = x ∧ s' = s)) := by
  cases f with
  | zero => cases h
  | succ g =>
    unfold dR at h
    obtain ⟨h, h1, _⟩ := gde h
    refine ⟨g, rfl, h1, ?_⟩
    rcases ite_some h with ⟨hi, h⟩ | ⟨hn, h⟩
    · obtain ⟨⟨l1, k1, s1⟩, h3, h4⟩ := bnd h
      refine .inl ⟨hi.1, hi.2.1, hi.2.2, l1, k1, s1, h3, ?_⟩
      rcases ite_some h4 with ⟨h5, h4⟩ | ⟨h5, h4⟩
      · exact .inl ⟨h5, (rete3 h4).1, (rete3 h4).2.1, (rete3 h4).1 ▸ (rete3 h4).2.2⟩
      · exact .inr ⟨h5, h4⟩
    · exact .inr ⟨hn, (rete3 h).1, (rete3 h).2.1⟩

end Go.Proofs.YtekkjpecdflajaaDoor

