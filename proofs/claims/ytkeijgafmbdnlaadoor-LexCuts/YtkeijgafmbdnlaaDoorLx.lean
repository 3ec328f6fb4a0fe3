/- How a text is cut into tokens, as plain data: bytes as numbers, what is behind a place as a list. Nothing of the program is in it. -/
import Derived.RowKit
import Derived.Laws.BytesArg
set_option linter.unusedSimpArgs false
set_option linter.unusedVariables false
namespace Go.Proofs.YtkeijgafmbdnlaaDoor
open Go Go.RowKit

def isBl (c : Int) : Bool := c == 32 || c == 9 || c == 10 || c == 13
def isDg (c : Int) : Bool := decide (48 ≤ c) && decide (c ≤ 57)
def isLt (c : Int) : Bool := (decide (97 ≤ c) && decide (c ≤ 122)) || (decide (65 ≤ c) && decide (c ≤ 90)) || c == 95
def isNm (c : Int) : Bool := isLt c || isDg c
def sg1 : List Int := [43, 45, 42, 47, 37, 60, 62, 61, 40, 41, 91, 93, 123, 125, 44, 59, 58, 46]
def isSg (c : Int) : Bool := c == 33 || sg1.contains c
def begn (c : Int) : Bool := isLt c || isDg c || c == 34 || isSg c
def hexV (c : Int) : Option Int :=
  if 48 ≤ c ∧ c ≤ 57 then some (c - 48) else if 97 ≤ c ∧ c ≤ 102 then some (c - 97 + 10) else if 65 ≤ c ∧ c ≤ 70 then some (c - 65 + 10) else none
def words : List (List Int) :=
  [[118, 97, 114], [102, 110], [105, 102], [101, 108, 115, 101], [119, 104, 105, 108, 101], [98, 114, 101, 97, 107], [99, 111, 110, 116, 105, 110, 117, 101], [114, 101, 116, 117, 114, 110], [116, 104, 114, 111, 119], [116, 114, 121], [99, 97, 116, 99, 104], [115, 112, 97, 119, 110], [116, 114, 117, 101], [102, 97, 108, 115, 101], [110, 105, 108], [97, 110, 100], [111, 114], [110, 111, 116]]
def isWord (l : List Int) : Bool := decide (l ∈ words)

/-- How many at the head are so? -/
def twl (p : Int → Bool) (r : List Int) : Nat := (r.takeWhile p).length

/-- A token: kind, text, number, place. -/
abbrev ATok := Int × List Int × Int × Int
def tkV (t : ATok) : List Value := [.int .i64 t.1, .string (strOfNums t.2.1), .int .i64 t.2.2.1, .int .i64 t.2.2.2]

/-- What is cut at a place: kind, text, number, how many bytes; or the error, and how far behind the place. -/
inductive Cut where
  | tok (kind : Int) (text : List Int) (num : Int) (len : Nat)
  | bad (e : Int) (off : Nat)
deriving DecidableEq, Inhabited

def cName (r : List Int) : Cut := .tok (if isWord (r.takeWhile isNm) then 2 else 1) (r.takeWhile isNm) 0 (twl isNm r)

def numStep (s : Int × Bool) (d : Int) : Int × Bool := if s.1 > (2305843009213693951 - (d - 48)).tdiv 10 then (s.1, true) else (10 * s.1 + (d - 48), s.2)
def numOf (l : List Int) : Int × Bool := l.foldl numStep (0, false)

def cNum (r : List Int) : Cut :=
  if r.head? = some 48 ∧ 1 < twl isDg r then .bad 6 1
  else if (r[twl isDg r]?.map isLt) = some true then .bad 6 (twl isDg r)
  else if (numOf (r.takeWhile isDg)).2 then .bad 9 0
  else .tok 3 [] (numOf (r.takeWhile isDg)).1 (twl isDg r)

/-- What a \ and what is behind it say: the byte and how many bytes are behind the \; or how far the fault is behind the \. -/
def esc (r : List Int) : (Int × Nat) ⊕ Nat :=
  match r with
  | [] => .inr 1
  | c :: t =>
    if c = 34 ∨ c = 92 then .inl (c, 2) else if c = 110 then .inl (10, 2) else if c = 116 then .inl (9, 2)
    else if c = 120 then
      match t with
      | [] => .inr 2
      | x :: u =>
        match hexV x with
        | none => .inr 2
        | some i =>
          match u with
          | [] => .inr 3
          | y :: _ =>
            match hexV y with
            | none => .inr 3
            | some j => .inl (16 * i + j, 4)
    else .inr 1

/-- The rest of a string; k: how many bytes of it are behind. -/
def cStr : Nat → List Int → List Int → Nat → Cut
  | 0, _, _, k => .bad 6 k
  | f + 1, r, acc, k =>
    match r with
    | [] => .bad 6 k
    | c :: t =>
      if c = 34 then .tok 4 acc 0 (k + 1)
      else if c = 10 then .bad 6 k
      else if c = 92 then
        match esc t with
        | .inr m => .bad 6 (k + m)
        | .inl (x, m) => cStr f (r.drop m) (acc ++ [x]) (k + m)
      else cStr f t (acc ++ [c]) (k + 1)

def cSign (r : List Int) : Cut :=
  match r with
  | [] => .bad 6 1
  | c :: t =>
    if t.head? = some 61 ∧ (c = 61 ∨ c = 33 ∨ c = 60 ∨ c = 62) then .tok 5 [c, 61] 0 2
    else if sg1.contains c then .tok 5 [c] 0 1
    else .bad 6 1

def cut (r : List Int) : Cut :=
  match r with
  | [] => .bad 6 1
  | c :: t => if isLt c then cName r else if isDg c then cNum r else if c = 34 then cStr (t.length + 1) t [] 1 else cSign r

/-- All tokens from a place on, those ahead being there; or the error and its place. -/
def lexF : Nat → List Int → Nat → List ATok → List ATok × Int × Nat
  | 0, _, at_, acc => (acc, 0, at_)
  | f + 1, r, at_, acc =>
    match r with
    | [] => (acc ++ [(0, [], 0, (at_ : Int))], 0, at_)
    | c :: t =>
      if isBl c then lexF f t (at_ + 1) acc
      else if c = 35 then lexF f (t.drop (twl (· != 10) t)) (at_ + 1 + twl (· != 10) t) acc
      else if begn c = false then ([], 6, at_)
      else if acc.length = 16384 then ([], 3, at_)
      else match cut r with
        | .bad e off => ([], e, at_ + off)
        | .tok k x n len => lexF f (r.drop len) (at_ + len) (acc ++ [(k, x, n, (at_ : Int))])

def lexA (b : List Int) : List ATok × Int × Nat := if 65536 < b.length then ([], 2, 0) else lexF (b.length + 1) b 0 []

end Go.Proofs.YtkeijgafmbdnlaaDoor
