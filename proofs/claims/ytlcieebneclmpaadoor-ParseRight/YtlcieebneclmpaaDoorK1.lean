/- How a text is cut into tokens, as plain data: bytes as numbers, what is behind a place as a list. Nothing of the program is in it. · What follows of how a text is cut: strings as they are shown, numbers as they are shown, parts one behind the other. Nothing of the program is in it. -/
import Derived.RowKit
import Derived.Laws.BytesArg
set_option linter.unusedSimpArgs false
set_option linter.unusedVariables false
namespace Go.Proofs.YtlcieebneclmpaaDoor
open Go Go.RowKit

def isBl (c : Int) : Bool := c == 32 || c == 9 || c == 10 || c == 13
def isDg (c : Int) : Bool := decide (48 ≤ c) && decide (c ≤ 57)
def isLt (c : Int) : Bool := (decide (97 ≤ c) && decide (c ≤ 122)) || (decide (65 ≤ c) && decide (c ≤ 90)) || c == 95
def isNm (c : Int) : Bool := isLt c || isDg c
def sg1 : List Int := [43, 45, 42, 47, 37, 60, 62, 61, 40, 41, 91, 93, 123, 125, 44, 59, 58, 46]
def isSg (c : Int) : Bool := c == 33 || sg1.contains c
def begn (c : Int) : Bool := isLt c || isDg c || c == 34 || isSg c
def hexV (c : Int) : Option Int :=
  if 48 ≤ c ∧ c ≤ 57 then some (c - 48) else if 97 ≤ c ∧ c ≤ 102 then some (c - 97 + 10) else if 65 ≤ c ∧ c ≤ 70 then some (c - 65 + 10) else none
def words : List (List Int) :=
  [[118, 97, 114], [102, 110], [105, 102], [101, 108, 115, 101], [119, 104, 105, 108, 101], [98, 114, 101, 97, 107], [99, 111, 110, 116, 105, 110, 117, 101], [114, 101, 116, 117, 114, 110], [116, 104, 114, 111, 119], [116, 114, 121], [99, 97, 116, 99, 104], [115, 112, 97, 119, 110], [116, 114, 117, 101], [102, 97, 108, 115, 101], [110, 105, 108], [97, 110, 100], [111, 114], [110, 111, 116]]
def isWord (l : List Int) : Bool := decide (l ∈ words)

/-- How many at the head are so? -/
def twl (p : Int → Bool) (r : List Int) : Nat := (r.takeWhile p).length

/-- A token: kind, text, number, place. -/
abbrev ATok := Int × List Int × Int × Int
def tkV (t : ATok) : List Value := [.int .i64 t.1, .string (strOfNums t.2.1), .int .i64 t.2.2.1, .int .i64 t.2.2.2]

/-- What is cut at a place: kind, text, number, how many bytes; or the error, and how far behind the place. -/
inductive Cut where
  | tok (kind : Int) (text : List Int) (num : Int) (len : Nat)
  | bad (e : Int) (off : Nat)
deriving DecidableEq, Inhabited

def cName (r : List Int) : Cut := .tok (if isWord (r.takeWhile isNm) then 2 else 1) (r.takeWhile isNm) 0 (twl isNm r)

def numStep (s : Int × Bool) (d : Int) : Int × Bool := if s.1 > (2305843009213693951 - (d - 48)).tdiv 10 then (s.1, true) else (10 * s.1 + (d - 48), s.2)
def numOf (l : List Int) : Int × Bool := l.foldl numStep (0, false)

def cNum (r : List Int) : Cut :=
  if r.head? = some 48 ∧ 1 < twl isDg r then .bad 6 1
  else if (r[twl isDg r]?.map isLt) = some true then .bad 6 (twl isDg r)
  else if (numOf (r.takeWhile isDg)).2 then .bad 9 0
  else .tok 3 [] (numOf (r.takeWhile isDg)).1 (twl isDg r)

/-- What a \ and what is behind it say: the byte and how many bytes are behind the \; or how far the fault is behind the \. -/
def esc (r : List Int) : (Int × Nat) ⊕ Nat :=
  match r with
  | [] => .inr 1
  | c :: t =>
    if c = 34 ∨ c = 92 then .inl (c, 2) else if c = 110 then .inl (10, 2) else if c = 116 then .inl (9, 2)
    else if c = 120 then
      match t with
      | [] => .inr 2
      | x :: u =>
        match hexV x with
        | none => .inr 2
        | some i =>
          match u with
          | [] => .inr 3
          | y :: _ =>
            match hexV y with
            | none => .inr 3
            | some j => .inl (16 * i + j, 4)
    else .inr 1

/-- The rest of a string; k: how many bytes of it are behind. -/
def cStr : Nat → List Int → List Int → Nat → Cut
  | 0, _, _, k => .bad 6 k
  | f + 1, r, acc, k =>
    match r with
    | [] => .bad 6 k
    | c :: t =>
      if c = 34 then .tok 4 acc 0 (k + 1)
      else if c = 10 then .bad 6 k
      else if c = 92 then
        match esc t with
        | .inr m => .bad 6 (k + m)
        | .inl (x, m) => cStr f (r.drop m) (acc ++ [x]) (k + m)
      else cStr f t (acc ++ [c]) (k + 1)

def cSign (r : List Int) : Cut :=
  match r with
  | [] => .bad 6 1
  | c :: t =>
    if t.head? = some 61 ∧ (c = 61 ∨ c = 33 ∨ c = 60 ∨ c = 62) then .tok 5 [c, 61] 0 2
    else if sg1.contains c then .tok 5 [c] 0 1
    else .bad 6 1

def cut (r : List Int) : Cut :=
  match r with
  | [] => .bad 6 1
  | c :: t => if isLt c then cName r else if isDg c then cNum r else if c = 34 then cStr (t.length + 1) t [] 1 else cSign r

/-- All tokens from a place on, those ahead being there; or the error and its place. -/
def lexF : Nat → List Int → Nat → List ATok → List ATok × Int × Nat
  | 0, _, at_, acc => (acc, 0, at_)
  | f + 1, r, at_, acc =>
    match r with
    | [] => (acc ++ [(0, [], 0, (at_ : Int))], 0, at_)
    | c :: t =>
      if isBl c then lexF f t (at_ + 1) acc
      else if c = 35 then lexF f (t.drop (twl (· != 10) t)) (at_ + 1 + twl (· != 10) t) acc
      else if begn c = false then ([], 6, at_)
      else if acc.length = 16384 then ([], 3, at_)
      else match cut r with
        | .bad e off => ([], e, at_ + off)
        | .tok k x n len => lexF f (r.drop len) (at_ + len) (acc ++ [(k, x, n, (at_ : Int))])

def lexA (b : List Int) : List ATok × Int × Nat := if 65536 < b.length then ([], 2, 0) else lexF (b.length + 1) b 0 []

end Go.Proofs.YtlcieebneclmpaaDoor

set_option linter.unusedSimpArgs false
set_option linter.unusedVariables false
namespace Go.Proofs.YtlcieebneclmpaaDoor
open Go Go.RowKit

theorem lexF_nil (f at_ : Nat) (acc : List ATok) : lexF (f + 1) [] at_ acc = (acc ++ [(0, [], 0, (at_ : Int))], 0, at_) := rfl

theorem lexF_blank {c : Int} (h : isBl c = true) (f : Nat) (t : List Int) (at_ : Nat) (acc : List ATok) : lexF (f + 1) (c :: t) at_ acc = lexF f t (at_ + 1) acc := by
  simp [lexF, h]

theorem lexF_rem (f : Nat) (t : List Int) (at_ : Nat) (acc : List ATok) : lexF (f + 1) (35 :: t) at_ acc = lexF f (t.drop (twl (· != 10) t)) (at_ + 1 + twl (· != 10) t) acc := by
  simp [lexF, isBl]

theorem lexF_form {c : Int} (h : isBl c = false) (h1 : c ≠ 35) (h2 : begn c = false) (f : Nat) (t : List Int) (at_ : Nat) (acc : List ATok) : lexF (f + 1) (c :: t) at_ acc = ([], 6, at_) := by
  simp [lexF, h, h1, h2]

theorem lexF_full {c : Int} (h : isBl c = false) (h1 : c ≠ 35) (h2 : begn c = true) (f : Nat) (t : List Int) (at_ : Nat) (acc : List ATok) (ha : acc.length = 16384) : lexF (f + 1) (c :: t) at_ acc = ([], 3, at_) := by
  simp [lexF, h, h1, h2, ha]

theorem lexF_bad {c : Int} (h : isBl c = false) (h1 : c ≠ 35) (h2 : begn c = true) (f : Nat) (t : List Int) (at_ : Nat) (acc : List ATok) (ha : acc.length ≠ 16384) {e : Int} {off : Nat} (hc : cut (c :: t) = .bad e off) :
    lexF (f + 1) (c :: t) at_ acc = ([], e, at_ + off) := by
  simp [lexF, h, h1, h2, ha, hc]

theorem lexF_tok {c : Int} (h : isBl c = false) (h1 : c ≠ 35) (h2 : begn c = true) (f : Nat) (t : List Int) (at_ : Nat) (acc : List ATok) (ha : acc.length ≠ 16384) {k n : Int} {x : List Int} {len : Nat} (hc : cut (c :: t) = .tok k x n len) :
    lexF (f + 1) (c :: t) at_ acc = lexF f ((c :: t).drop len) (at_ + len) (acc ++ [(k, x, n, (at_ : Int))]) := by
  simp [lexF, h, h1, h2, ha, hc]

theorem twl_le (p : Int → Bool) (r : List Int) : twl p r ≤ r.length := by
  unfold twl
  exact (List.takeWhile_sublist p).length_le

theorem twl_cons (p : Int → Bool) (c : Int) (t : List Int) : twl p (c :: t) = if p c then twl p t + 1 else 0 := by
  unfold twl
  rw [List.takeWhile_cons]
  split <;> simp

theorem twl_nil (p : Int → Bool) : twl p [] = 0 := rfl

/-- What was gone through is no more than there is; one goes on, or stops just there. -/
theorem twl_go {p : Int → Bool} : ∀ {r : List Int} {k : Nat} (hk : k ≤ twl p r) (hl : k < r.length) (hp : p r[k] = true), k + 1 ≤ twl p r
  | [], k, _, hl, _ => by simp at hl
  | c :: t, 0, _, _, hp => by
    rw [twl_cons, if_pos (by simpa using hp)]; omega
  | c :: t, k + 1, hk, hl, hp => by
    rw [twl_cons] at hk ⊢
    split at hk
    · rename_i hc
      have hl' : k < t.length := by simpa using hl
      have := twl_go (p := p) (r := t) (k := k) (by omega) hl' (by simpa using hp)
      rw [if_pos hc]; omega
    · omega

theorem twl_no {p : Int → Bool} : ∀ {r : List Int} {k : Nat} (hk : k ≤ twl p r) (hl : k < r.length) (hp : p r[k] = false), twl p r = k
  | [], k, _, hl, _ => by simp at hl
  | c :: t, 0, _, _, hp => by
    rw [twl_cons, if_neg (by simpa using hp)]
  | c :: t, k + 1, hk, hl, hp => by
    rw [twl_cons] at hk ⊢
    split at hk
    · rename_i hc
      have hl' : k < t.length := by simpa using hl
      have := twl_no (p := p) (r := t) (k := k) (by omega) hl' (by simpa using hp)
      rw [if_pos hc]; omega
    · omega

theorem twl_end {p : Int → Bool} {r : List Int} {k : Nat} (hk : k ≤ twl p r) (hl : r.length ≤ k) : twl p r = k := by
  have := twl_le p r; omega

theorem takeWhile_twl (p : Int → Bool) (r : List Int) : r.takeWhile p = r.take (twl p r) := by
  unfold twl
  induction r with
  | nil => rfl
  | cons c t ih =>
    rw [List.takeWhile_cons]
    split
    · simp [← ih]
    · simp

/-- Cut behind a stop, what is at the head is the same. -/
theorem twl_stop {p : Int → Bool} (s : Int) (hs : p s = false) (b : List Int) : ∀ (t : List Int), (t ++ s :: b).takeWhile p = (t ++ [s]).takeWhile p ∧ twl p (t ++ s :: b) = twl p (t ++ [s]) ∧ twl p (t ++ [s]) ≤ t.length
  | [] => by simp [twl, List.takeWhile_cons, hs]
  | c :: t => by
    obtain ⟨h1, h2, h3⟩ := twl_stop s hs b t
    rw [List.cons_append, List.cons_append, List.takeWhile_cons, List.takeWhile_cons, twl_cons, twl_cons]
    cases hc : p c
    · simp
    · simp [h1, h2]; omega

theorem esc_bd {r : List Int} {x : Int} {m : Nat} (h : esc r = .inl (x, m)) : 2 ≤ m ∧ m ≤ r.length + 1 := by
  unfold esc at h
  repeat' split at h
  all_goals first | cases h | skip
  all_goals simp

theorem esc_bad {r : List Int} {m : Nat} (h : esc r = .inr m) : 1 ≤ m ∧ m ≤ r.length + 1 := by
  unfold esc at h
  repeat' split at h
  all_goals first | cases h | skip
  all_goals simp

theorem numOf_snoc (l : List Int) (d : Int) : numOf (l ++ [d]) = numStep (numOf l) d := by simp [numOf]

/-! ## numbers as they are shown -/

def decL : Nat → Nat → List Int
  | 0, _ => []
  | f + 1, n => if n < 10 then [48 + (n : Int)] else decL f (n / 10) ++ [48 + ((n % 10 : Nat) : Int)]

theorem decL_ok : ∀ (f n : Nat), n < f → (∀ c ∈ decL f n, isDg c = true) ∧ 0 < (decL f n).length ∧ ((decL f n).head? = some 48 → n = 0) ∧ (n = 0 → (decL f n).length = 1)
  | 0, n, h => by omega
  | f + 1, n, h => by
    unfold decL
    split
    · rename_i h0
      refine ⟨fun c hc => ?_, by simp, fun h => by simp at h; omega, fun _ => by simp⟩
      simp at hc
      subst hc
      simp [isDg]; omega
    · rename_i h0
      obtain ⟨h1, h2, h3, h4⟩ := decL_ok f (n / 10) (by omega)
      refine ⟨fun c hc => ?_, by simp, fun h => ?_, fun h => by omega⟩
      · simp only [List.mem_append, List.mem_singleton] at hc
        rcases hc with hc | hc
        · exact h1 c hc
        · subst hc
          simp [isDg]; omega
      · rw [List.head?_append] at h
        cases hd : (decL f (n / 10)).head? with
        | none => rw [List.head?_eq_none_iff] at hd; rw [hd] at h2; simp at h2
        | some c =>
          rw [hd] at h
          have := h3 (by rw [hd]; simpa using h)
          omega

theorem decL_num : ∀ (f n : Nat), n < f → ((n : Int) ≤ 2305843009213693951 → numOf (decL f n) = ((n : Int), false)) ∧ (2305843009213693951 < (n : Int) → (numOf (decL f n)).2 = true)
  | 0, n, h => by omega
  | f + 1, n, h => by
    unfold decL
    split
    · rename_i h0
      refine ⟨fun _ => ?_, fun h => by omega⟩
      have e : (2305843009213693951 - (48 + (n : Int) - 48)).tdiv 10 = (2305843009213693951 - (n : Int)) / 10 := by
        rw [Int.tdiv_eq_ediv_of_nonneg (by omega)]; congr 1; omega
      simp only [numOf, List.foldl_cons, List.foldl_nil, numStep, e]
      rw [if_neg (by omega)]
      congr 1; omega
    · rename_i h0
      obtain ⟨h1, h2⟩ := decL_num f (n / 10) (by omega)
      rw [numOf_snoc]
      have e : (2305843009213693951 - (48 + ((n % 10 : Nat) : Int) - 48)).tdiv 10 = (2305843009213693951 - ((n % 10 : Nat) : Int)) / 10 := by
        rw [Int.tdiv_eq_ediv_of_nonneg (by omega)]; congr 1; omega
      constructor
      · intro hn
        rw [h1 (by omega)]
        simp only [numStep, e]
        rw [if_neg (by omega)]
        congr 1; omega
      · intro hn
        by_cases hq : ((n / 10 : Nat) : Int) ≤ 2305843009213693951
        · rw [h1 hq]
          simp only [numStep, e]
          rw [if_pos (by omega)]
        · have := h2 (by omega)
          unfold numStep
          split
          · rfl
          · exact this

theorem takeWhile_all {p : Int → Bool} {l : List Int} (h : ∀ c ∈ l, p c = true) : l.takeWhile p = l := by
  induction l with
  | nil => rfl
  | cons c t ih => rw [List.takeWhile_cons, if_pos (h c (by simp)), ih (fun x hx => h x (by simp [hx]))]

theorem dg_facts {c : Int} (h : isDg c = true) : isBl c = false ∧ c ≠ 35 ∧ begn c = true ∧ isLt c = false := by
  simp [isDg] at h
  refine ⟨by simp [isBl]; omega, by omega, by simp [begn, isDg]; omega, by simp [isLt]; omega⟩

theorem cut_dec {l : List Int} (hd : ∀ c ∈ l, isDg c = true) (h0 : 0 < l.length) (hz : l.head? = some 48 → l.length = 1) :
    cut l = if (numOf l).2 then .bad 9 0 else .tok 3 [] (numOf l).1 l.length := by
  obtain ⟨c, t, rfl⟩ : ∃ c t, l = c :: t := by cases l with | nil => simp at h0 | cons c t => exact ⟨c, t, rfl⟩
  have hc := dg_facts (hd c (by simp))
  have ht : twl isDg (c :: t) = (c :: t).length := by unfold twl; rw [takeWhile_all hd]
  simp only [cut, hc.2.2.2, hd c (by simp), Bool.false_eq_true, if_false, if_true]
  unfold cNum
  rw [ht, takeWhile_all hd, if_neg (by rintro ⟨h1, h2⟩; have := hz h1; omega), if_neg (by simp)]

theorem lex_dec (n : Nat) (l : List Int) (hl : l = decL (n + 1) n) (hs : l.length ≤ 65536) :
    lexA l = if 2305843009213693951 < (n : Int) then ([], 9, 0) else ([(3, [], (n : Int), 0), (0, [], 0, (l.length : Int))], 0, l.length) := by
  obtain ⟨h1, h2, h3, h4⟩ := decL_ok (n + 1) n (by omega)
  obtain ⟨g1, g2⟩ := decL_num (n + 1) n (by omega)
  rw [← hl] at h1 h2 h3 h4 g1 g2
  have hcut := cut_dec h1 h2 (fun h => h4 (h3 h))
  clear hl
  obtain ⟨c, t, rfl⟩ : ∃ c t, l = c :: t := by cases l with | nil => simp at h2 | cons c t => exact ⟨c, t, rfl⟩
  have hc := dg_facts (h1 c (by simp))
  unfold lexA
  rw [if_neg (by omega)]
  by_cases hn : (n : Int) ≤ 2305843009213693951
  · rw [g1 hn] at hcut
    rw [if_neg (by omega), lexF_tok hc.1 hc.2.1 hc.2.2.1 _ _ _ _ (by simp) hcut]
    rw [List.drop_length, List.length_cons, lexF_nil]
    simp
  · rw [if_pos (g2 (by omega))] at hcut
    rw [if_pos (by omega), lexF_bad hc.1 hc.2.1 hc.2.2.1 _ _ _ _ (by simp) hcut]

/-! ## strings as they are shown -/

def hexD (n : Int) : Int := if n < 10 then 48 + n else 87 + n
def qOne (c : Int) : List Int :=
  if c = 10 then [92, 110] else if c = 9 then [92, 116] else if c = 34 ∨ c = 92 then [92, c]
  else if c < 32 ∨ c > 126 then [92, 120, hexD (c / 16), hexD (c % 16)] else [c]
def qAll (b : List Int) : List Int := b.flatMap qOne

theorem hexV_hexD (n : Int) (h0 : 0 ≤ n) (h1 : n < 16) : hexV (hexD n) = some n := by
  unfold hexD hexV
  split
  · rw [if_pos (by omega)]; congr 1; omega
  · rw [if_neg (by omega), if_pos (by omega)]; congr 1; omega

theorem cStr_quote (tail : List Int) : ∀ (b : List Int) (hb : ∀ c ∈ b, 0 ≤ c ∧ c ≤ 255) (f : Nat) (acc : List Int) (k : Nat), (qAll b ++ 34 :: tail).length < f → cStr f (qAll b ++ 34 :: tail) acc k = .tok 4 (acc ++ b) 0 (k + (qAll b).length + 1)
  | [], _, 0, _, _, h => by omega
  | [], _, f + 1, acc, k, h => by simp [qAll, cStr]
  | c :: t, hb, 0, _, _, h => by omega
  | c :: t, hb, f + 1, acc, k, h => by
    have hc := hb c (by simp)
    have ih := fun f acc k h => cStr_quote tail t (fun x hx => hb x (by simp [hx])) f acc k h
    have e : qAll (c :: t) = qOne c ++ qAll t := by simp [qAll]
    rw [e] at h ⊢
    generalize qAll t = q at ih h
    by_cases h1 : c = 10
    · subst h1
      rw [show qOne 10 = [92, 110] from rfl] at h ⊢
      have hh : (q ++ 34 :: tail).length < f := by simp at h ⊢; omega
      simp [cStr, esc, ih _ _ _ hh]; omega
    by_cases h2 : c = 9
    · subst h2
      rw [show qOne 9 = [92, 116] from rfl] at h ⊢
      have hh : (q ++ 34 :: tail).length < f := by simp at h ⊢; omega
      simp [cStr, esc, ih _ _ _ hh]; omega
    by_cases h3 : c = 34 ∨ c = 92
    · rw [show qOne c = [92, c] by simp [qOne, h1, h2, h3]] at h ⊢
      have hh : (q ++ 34 :: tail).length < f := by simp at h ⊢; omega
      simp [cStr, esc, h3, ih _ _ _ hh]; omega
    by_cases h4 : c < 32 ∨ c > 126
    · rw [show qOne c = [92, 120, hexD (c / 16), hexD (c % 16)] by simp only [qOne, if_neg h1, if_neg h2, if_neg h3, if_pos h4]] at h ⊢
      have hh : (q ++ 34 :: tail).length < f := by simp at h ⊢; omega
      have hv : 16 * (c / 16) + c % 16 = c := by omega
      simp [cStr, esc, hexV_hexD (c / 16) (by omega) (by omega), hexV_hexD (c % 16) (by omega) (by omega), hv, ih _ _ _ hh]; omega
    · rw [show qOne c = [c] by simp only [qOne, if_neg h1, if_neg h2, if_neg h3, if_neg h4]] at h ⊢
      have hh : (q ++ 34 :: tail).length < f := by simp at h ⊢; omega
      have n1 : c ≠ 34 := by omega
      have n2 : c ≠ 92 := by omega
      simp [cStr, h1, n1, n2, ih _ _ _ hh]; omega

theorem qOne_len (c : Int) : (qOne c).length ≤ 4 := by
  unfold qOne
  repeat' split
  all_goals simp
theorem qAll_len : ∀ b : List Int, (qAll b).length ≤ 4 * b.length
  | [] => by simp [qAll]
  | c :: t => by
    have := qAll_len t
    have := qOne_len c
    have e : qAll (c :: t) = qOne c ++ qAll t := by simp [qAll]
    rw [e, List.length_append, List.length_cons]; omega

theorem lex_quote (b : List Int) (hb : ∀ c ∈ b, 0 ≤ c ∧ c ≤ 255) (hl : b.length ≤ 3000) :
    lexA (34 :: (qAll b ++ [34])) = ([(4, b, 0, 0), (0, [], 0, ((qAll b).length : Int) + 2)], 0, (qAll b).length + 2) := by
  have hq := qAll_len b
  unfold lexA
  rw [if_neg (by simp; omega)]
  have hc := cStr_quote [] b hb ((qAll b ++ [34]).length + 1) [] 1 (by omega)
  have hcut : cut (34 :: (qAll b ++ [34])) = .tok 4 b 0 ((qAll b).length + 2) := by
    simp only [cut]
    rw [if_neg (by decide), if_neg (by decide), if_pos trivial, hc]
    simp; omega
  rw [lexF_tok (by decide) (by decide) (by decide) _ _ _ _ (by simp) hcut]
  have hd : (34 :: (qAll b ++ [34])).drop ((qAll b).length + 2) = [] := List.drop_eq_nil_of_le (by simp)
  rw [hd, show (34 :: (qAll b ++ [34])).length = (qAll b).length + 1 + 1 by simp, lexF_nil]
  simp

/-! ## as long as may be -/

theorem lex_blanks : ∀ (n f at_ : Nat) (acc : List ATok), n < f → lexF f (List.replicate n 32) at_ acc = (acc ++ [(0, [], 0, ((at_ + n : Nat) : Int))], 0, at_ + n)
  | n, 0, _, _, h => by omega
  | 0, f + 1, at_, acc, h => by simp [lexF]
  | n + 1, f + 1, at_, acc, h => by
    rw [List.replicate_succ]
    rw [lexF_blank (by decide), lex_blanks n f (at_ + 1) acc (by omega)]
    simp only [show at_ + 1 + n = at_ + (n + 1) by omega]

theorem cut_semi (t : List Int) (ht : t.head? ≠ some 61) : cut (59 :: t) = .tok 5 [59] 0 1 := by
  simp only [cut]
  rw [if_neg (by decide), if_neg (by decide), if_neg (by decide)]
  simp [cSign, ht, sg1]

theorem lex_semis : ∀ (n f at_ : Nat) (acc : List ATok), n < f → acc.length + n ≤ 16384 → ∃ l, lexF f (List.replicate n 59) at_ acc = (l, 0, at_ + n) ∧ l.length = acc.length + n + 1
  | n, 0, _, _, h, _ => by omega
  | 0, f + 1, at_, acc, h, _ => by simp [lexF]
  | n + 1, f + 1, at_, acc, h, hn => by
    rw [List.replicate_succ]
    rw [lexF_tok (by decide) (by decide) (by decide) _ _ _ _ (by omega) (cut_semi _ (by cases n <;> simp [List.replicate_succ]))]
    obtain ⟨l, h1, h2⟩ := lex_semis n f (at_ + 1) (acc ++ [(5, [59], 0, (at_ : Int))]) (by omega) (by simp; omega)
    refine ⟨l, ?_, by simp at h2; omega⟩
    simp only [List.drop_succ_cons, List.drop_zero, h1]
    congr 2; omega

theorem lex_many : ∀ (n f at_ : Nat) (acc : List ATok), n < f → acc.length ≤ 16384 → 16384 < acc.length + n → lexF f (List.replicate n 59) at_ acc = ([], 3, at_ + (16384 - acc.length))
  | n, 0, _, _, h, _, _ => by omega
  | 0, f + 1, at_, acc, h, h1, h2 => by omega
  | n + 1, f + 1, at_, acc, h, h1, h2 => by
    rw [List.replicate_succ]
    by_cases he : acc.length = 16384
    · rw [lexF_full (by decide) (by decide) (by decide) _ _ _ _ he, he]; simp
    · rw [lexF_tok (by decide) (by decide) (by decide) _ _ _ _ he (cut_semi _ (by cases n <;> simp [List.replicate_succ]))]
      simp only [List.drop_succ_cons, List.drop_zero]
      rw [lex_many n f (at_ + 1) _ (by omega) (by simp; omega) (by simp; omega)]
      simp only [List.length_append, List.length_cons, List.length_nil]
      congr 2; omega

end Go.Proofs.YtlcieebneclmpaaDoor

