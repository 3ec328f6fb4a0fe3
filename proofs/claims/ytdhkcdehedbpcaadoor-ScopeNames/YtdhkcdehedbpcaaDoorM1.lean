/- How a text is cut into tokens, as plain data: bytes as numbers, what is behind a place as a list. Nothing of the program is in it. · What follows of how a text is cut: strings as they are shown, numbers as they are shown, parts one behind the other. Nothing of the program is in it. -/
import Derived.RowKit
import Derived.Laws.BytesArg
set_option linter.unusedSimpArgs false
set_option linter.unusedVariables false
namespace Go.Proofs.YtdhkcdehedbpcaaDoor
open Go Go.RowKit

def isBl (c : Int) : Bool := c == 32 || c == 9 || c == 10 || c == 13
def isDg (c : Int) : Bool := decide (48 ≤ c) && decide (c ≤ 57)
def isLt (c : Int) : Bool := (decide (97 ≤ c) && decide (c ≤ 122)) || (decide (65 ≤ c) && decide (c ≤ 90)) || c == 95
def isNm (c : Int) : Bool := isLt c || isDg c
def sg1 : List Int := [43, 45, 42, 47, 37, 60, 62, 61, 40, 41, 91, 93, 123, 125, 44, 59, 58, 46]
def isSg (c : Int) : Bool := c == 33 || sg1.contains c
def begn (c : Int) : Bool := isLt c || isDg c || c == 34 || isSg c
def hexV (c : Int) : Option Int :=
 if 48 ≤ c ∧ c ≤ 57 then some (c - 48) else if 97 ≤ c ∧ c ≤ 102 then some (c - 97 + 10) else if 65 ≤ c ∧ c ≤ 70 then some (c - 65 + 10) else none
def words : List (List Int) :=
 [[118, 97, 114], [102, 110], [105, 102], [101, 108, 115, 101], [119, 104, 105, 108, 101], [98, 114, 101, 97, 107], [99, 111, 110, 116, 105, 110, 117, 101], [114, 101, 116, 117, 114, 110], [116, 104, 114, 111, 119], [116, 114, 121], [99, 97, 116, 99, 104], [115, 112, 97, 119, 110], [116, 114, 117, 101], [102, 97, 108, 115, 101], [110, 105, 108], [97, 110, 100], [111, 114], [110, 111, 116]]
def isWord (l : List Int) : Bool := decide (l ∈ words)

def twl (p : Int → Bool) (r : List Int) : Nat := (r.takeWhile p).length

abbrev ATok := Int × List Int × Int × Int
def tkV (t : ATok) : List Value := [.int .i64 t.1, .string (strOfNums t.2.1), .int .i64 t.2.2.1, .int .i64 t.2.2.2]

inductive Cut where
 | tok (kind : Int) (text : List Int) (num : Int) (len : Nat)
 | bad (e : Int) (off : Nat)
deriving DecidableEq, Inhabited

def cName (r : List Int) : Cut := .tok (if isWord (r.takeWhile isNm) then 2 else 1) (r.takeWhile isNm) 0 (twl isNm r)

def numStep (s : Int × Bool) (d : Int) : Int × Bool := if s.1 > (2305843009213693951 - (d - 48)).tdiv 10 then (s.1, true) else (10 * s.1 + (d - 48), s.2)
def numOf (l : List Int) : Int × Bool := l.foldl numStep (0, false)

def cNum (r : List Int) : Cut :=
 if r.head? = some 48 ∧ 1 < twl isDg r then .bad 6 1
 else if (r[twl isDg r]?.map isLt) = some true then .bad 6 (twl isDg r)
 else if (numOf (r.takeWhile isDg)).2 then .bad 9 0
 else .tok 3 [] (numOf (r.takeWhile isDg)).1 (twl isDg r)

def esc (r : List Int) : (Int × Nat) ⊕ Nat :=
 match r with
 | [] => .inr 1
 | c :: t =>
  if c = 34 ∨ c = 92 then .inl (c, 2) else if c = 110 then .inl (10, 2) else if c = 116 then .inl (9, 2)
  else if c = 120 then
   match t with
   | [] => .inr 2
   | x :: u =>
    match hexV x with
    | none => .inr 2
    | some i =>
     match u with
     | [] => .inr 3
     | y :: _ =>
      match hexV y with
      | none => .inr 3
      | some j => .inl (16 * i + j, 4)
  else .inr 1

def cStr : Nat → List Int → List Int → Nat → Cut
 | 0, _, _, k => .bad 6 k
 | f + 1, r, acc, k =>
  match r with
  | [] => .bad 6 k
  | c :: t =>
   if c = 34 then .tok 4 acc 0 (k + 1)
   else if c = 10 then .bad 6 k
   else if c = 92 then
    match esc t with
    | .inr m => .bad 6 (k + m)
    | .inl (x, m) => cStr f (r.drop m) (acc ++ [x]) (k + m)
   else cStr f t (acc ++ [c]) (k + 1)

def cSign (r : List Int) : Cut :=
 match r with
 | [] => .bad 6 1
 | c :: t =>
  if t.head? = some 61 ∧ (c = 61 ∨ c = 33 ∨ c = 60 ∨ c = 62) then .tok 5 [c, 61] 0 2
  else if sg1.contains c then .tok 5 [c] 0 1
  else .bad 6 1

def cut (r : List Int) : Cut :=
 match r with
 | [] => .bad 6 1
 | c :: t => if isLt c then cName r else if isDg c then cNum r else if c = 34 then cStr (t.length + 1) t [] 1 else cSign r

def lexF : Nat → List Int → Nat → List ATok → List ATok × Int × Nat
 | 0, _, at_, acc => (acc, 0, at_)
 | f + 1, r, at_, acc =>
  match r with
  | [] => (acc ++ [(0, [], 0, (at_ : Int))], 0, at_)
  | c :: t =>
   if isBl c then lexF f t (at_ + 1) acc
   else if c = 35 then lexF f (t.drop (twl (· != 10) t)) (at_ + 1 + twl (· != 10) t) acc
   else if begn c = false then ([], 6, at_)
   else if acc.length = 16384 then ([], 3, at_)
   else match cut r with
    | .bad e off => ([], e, at_ + off)
    | .tok k x n len => lexF f (r.drop len) (at_ + len) (acc ++ [(k, x, n, (at_ : Int))])

def lexA (b : List Int) : List ATok × Int × Nat := if 65536 < b.length then ([], 2, 0) else lexF (b.length + 1) b 0 []

end Go.Proofs.YtdhkcdehedbpcaaDoor

namespace Go.Proofs.YtdhkcdehedbpcaaDoor
open Go Go.RowKit

theorem lexF_nil (f at_ : Nat) (acc : List ATok) : lexF (f + 1) [] at_ acc = (acc ++ [(0, [], 0, (at_ : Int))], 0, at_) := rfl

theorem lexF_blank {c : Int} (h : isBl c = true) (f : Nat) (t : List Int) (at_ : Nat) (acc : List ATok) : lexF (f + 1) (c :: t) at_ acc = lexF f t (at_ + 1) acc := by
 simp [lexF, h]

theorem lexF_rem (f : Nat) (t : List Int) (at_ : Nat) (acc : List ATok) : lexF (f + 1) (35 :: t) at_ acc = lexF f (t.drop (twl (· != 10) t)) (at_ + 1 + twl (· != 10) t) acc := by
 simp [lexF, isBl]

theorem lexF_form {c : Int} (h : isBl c = false) (h1 : c ≠ 35) (h2 : begn c = false) (f : Nat) (t : List Int) (at_ : Nat) (acc : List ATok) : lexF (f + 1) (c :: t) at_ acc = ([], 6, at_) := by
 simp [lexF, h, h1, h2]

theorem lexF_bad {c : Int} (h : isBl c = false) (h1 : c ≠ 35) (h2 : begn c = true) (f : Nat) (t : List Int) (at_ : Nat) (acc : List ATok) (ha : acc.length ≠ 16384) {e : Int} {off : Nat} (hc : cut (c :: t) = .bad e off) :
  lexF (f + 1) (c :: t) at_ acc = ([], e, at_ + off) := by
 simp [lexF, h, h1, h2, ha, hc]

theorem lexF_tok {c : Int} (h : isBl c = false) (h1 : c ≠ 35) (h2 : begn c = true) (f : Nat) (t : List Int) (at_ : Nat) (acc : List ATok) (ha : acc.length ≠ 16384) {k n : Int} {x : List Int} {len : Nat} (hc : cut (c :: t) = .tok k x n len) :
  lexF (f + 1) (c :: t) at_ acc = lexF f ((c :: t).drop len) (at_ + len) (acc ++ [(k, x, n, (at_ : Int))]) := by
 simp [lexF, h, h1, h2, ha, hc]

theorem twl_le (p : Int → Bool) (r : List Int) : twl p r ≤ r.length := by
 unfold twl
 exact (List.takeWhile_sublist p).length_le

theorem twl_cons (p : Int → Bool) (c : Int) (t : List Int) : twl p (c :: t) = if p c then twl p t + 1 else 0 := by
 unfold twl
 rw [List.takeWhile_cons]
 split <;> simp

theorem twl_go {p : Int → Bool} : ∀ {r : List Int} {k : Nat} (hk : k ≤ twl p r) (hl : k < r.length) (hp : p r[k] = true), k + 1 ≤ twl p r
 | [], k, _, hl, _ => by simp at hl
 | c :: t, 0, _, _, hp => by
  rw [twl_cons, if_pos (by simpa using hp)]; omega
 | c :: t, k + 1, hk, hl, hp => by
  rw [twl_cons] at hk ⊢
  split at hk
  ·rename_i hc
   have hl' : k < t.length := by simpa using hl
   have := twl_go (p := p) (r := t) (k := k) (by omega) hl' (by simpa using hp)
   rw [if_pos hc]; omega
  ·omega

theorem twl_no {p : Int → Bool} : ∀ {r : List Int} {k : Nat} (hk : k ≤ twl p r) (hl : k < r.length) (hp : p r[k] = false), twl p r = k
 | [], k, _, hl, _ => by simp at hl
 | c :: t, 0, _, _, hp => by
  rw [twl_cons, if_neg (by simpa using hp)]
 | c :: t, k + 1, hk, hl, hp => by
  rw [twl_cons] at hk ⊢
  split at hk
  ·rename_i hc
   have hl' : k < t.length := by simpa using hl
   have := twl_no (p := p) (r := t) (k := k) (by omega) hl' (by simpa using hp)
   rw [if_pos hc]; omega
  ·omega

theorem twl_end {p : Int → Bool} {r : List Int} {k : Nat} (hk : k ≤ twl p r) (hl : r.length ≤ k) : twl p r = k := by
 have := twl_le p r; omega

theorem takeWhile_twl (p : Int → Bool) (r : List Int) : r.takeWhile p = r.take (twl p r) := by
 unfold twl
 induction r with
 | nil => rfl
 | cons c t ih =>
  rw [List.takeWhile_cons]
  split
  ·simp [← ih]
  ·simp

theorem esc_bd {r : List Int} {x : Int} {m : Nat} (h : esc r = .inl (x, m)) : 2 ≤ m ∧ m ≤ r.length + 1 := by
 unfold esc at h
 repeat' split at h
 all_goals first | cases h | skip
 all_goals simp

theorem esc_bad {r : List Int} {m : Nat} (h : esc r = .inr m) : 1 ≤ m ∧ m ≤ r.length + 1 := by
 unfold esc at h
 repeat' split at h
 all_goals first | cases h | skip
 all_goals simp

theorem numOf_snoc (l : List Int) (d : Int) : numOf (l ++ [d]) = numStep (numOf l) d := by simp [numOf]

def decL : Nat → Nat → List Int
 | 0, _ => []
 | f + 1, n => if n < 10 then [48 + (n : Int)] else decL f (n / 10) ++ [48 + ((n % 10 : Nat) : Int)]

def hexD (n : Int) : Int := if n < 10 then 48 + n else 87 + n
def qOne (c : Int) : List Int :=
 if c = 10 then [92, 110] else if c = 9 then [92, 116] else if c = 34 ∨ c = 92 then [92, c]
 else if c < 32 ∨ c > 126 then [92, 120, hexD (c / 16), hexD (c % 16)] else [c]
def qAll (b : List Int) : List Int := b.flatMap qOne

end Go.Proofs.YtdhkcdehedbpcaaDoor

