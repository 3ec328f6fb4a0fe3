/- What the document's Lex takes of the texts that walk the program's: no function of the program. · Which lists of nodes are programs: plain data. The program's way (a row of unfinished nodes) and the document's (node within node) come to the same. · fits, isBinary, wellMade, step, checkEnd: contracts. · How the statements' frames are opened: the table of signs out of the condition; lists of bytes; texts. -/
import Derived.Test.YtekkjpecdflajaaDoorM2
import Derived.Deep.MidRow
import Derived.Laws.BitsAllLaws
import Derived.WalkMore
import Derived.Lib.SlBytesConst
import Derived.Test.YtekkjpecdflajaaDoorM1
import Derived.Test.YtekkjpecdflajaaDoorM3
import Derived.Test.YtekkjpecdflajaaDoorTie
import Derived.Test.YtekkjpecdflajaaDoorCards
import Derived.ProofKit
import Derived.LaidMore
import Derived.OpenShut
import Derived.ShutString
import Derived.ChangeOld
import Derived.Below
import Derived.SevenTiedAt
set_option linter.unusedSimpArgs false
set_option linter.unusedVariables false
namespace Go.Proofs.YtekkjpecdflajaaDoor
open Go Go.RowKit

theorem strOf_toList (l : List Int) : (strOfNums l).toList = l.map fun n => UInt8.ofNat n.toNat := by
  rw [ByteArray.toList_eq, strOfNums_data]

theorem strOf_inj {l k : List Int} (hl : ∀ c ∈ l, 0 ≤ c ∧ c ≤ 255) (hk : ∀ c ∈ k, 0 ≤ c ∧ c ≤ 255) (h : strOfNums l = strOfNums k) : l = k := by
  have h1 : (l.map fun n => UInt8.ofNat n.toNat) = k.map fun n => UInt8.ofNat n.toNat := by rw [← strOf_toList, ← strOf_toList, h]
  clear h
  induction l generalizing k with
  | nil => cases k with | nil => rfl | cons c t => simp at h1
  | cons c t ih =>
    cases k with
    | nil => simp at h1
    | cons d u =>
      simp only [List.map_cons, List.cons.injEq] at h1
      have hc := hl c (by simp)
      have hd := hk d (by simp)
      have e : c = d := by
        have := congrArg UInt8.toNat h1.1
        simp at this
        omega
      rw [e, ih (fun x hx => hl x (by simp [hx])) (fun x hx => hk x (by simp [hx])) h1.2]

theorem strOf_ne {l k : List Int} (hl : ∀ c ∈ l, 0 ≤ c ∧ c ≤ 255) (hk : ∀ c ∈ k, 0 ≤ c ∧ c ≤ 255) (h : l ≠ k) : ((strOfNums l).toList == (strOfNums k).toList) = false :=
  str_ne (fun e => h (strOf_inj hl hk e))

def isName (l : List Int) : Bool := match l with | [] => false | c :: t => !isDg c && l.all isNm && !isWord l

/-- The byte at a place. -/
def nth (l : List Int) (i : Nat) : Int := l.getD i 0

theorem nth_eq {l : List Int} {i : Nat} (h : i < l.length) : nth l i = l[i] := by
  unfold nth; rw [List.getD_eq_getElem?_getD, List.getElem?_eq_getElem h]; rfl

theorem strOf_get {l : List Int} (hb : ∀ c ∈ l, 0 ≤ c ∧ c ≤ 255) (i : Nat) (h : i < (strOfNums l).size) : (((strOfNums l)[i]'h).toNat : Int) = nth l i := by
  have hl : i < l.length := by rw [strOfNums_size] at h; exact h
  have := hb _ (List.getElem_mem hl)
  have e : (strOfNums l)[i]'h = UInt8.ofNat (l[i]).toNat := by
    show (strOfNums l).data[i] = _
    simp [strOfNums]
  rw [e, nth_eq hl]
  simp
  omega

theorem all_take_succ (p : Int → Bool) (l : List Int) (k : Nat) (h : k < l.length) : (l.take (k + 1)).all p = ((l.take k).all p && p (nth l k)) := by
  rw [List.take_succ_eq_append_getElem h, List.all_append, nth_eq h]
  simp

theorem all_false_of (p : Int → Bool) (l : List Int) (k : Nat) (h : k < l.length) (hp : p (nth l k) = false) : l.all p = false := by
  rw [List.all_eq_false]
  exact ⟨l[k], List.getElem_mem h, by rw [← nth_eq h, hp]; simp⟩

theorem under9 : Tryd.prog.underlying 9 = some .string := by kernel_rfl

theorem all_take_get {α : Type} (p : α → Bool) {l : List α} {k : Nat} {s : α} (h : l[k]? = some s) : (l.take (k + 1)).all p = ((l.take k).all p && p s) := by
  obtain ⟨hk, rfl⟩ := List.getElem?_eq_some_iff.1 h
  rw [List.take_succ_eq_append_getElem hk, List.all_append]
  simp

theorem strOf_nil : strOfNums [] = ⟨#[]⟩ := rfl

theorem By.parts {w : World} {v : Value} {b : List Int} {k : Nat} (h : By w v b) (hk : k < b.length) :
    ∃ g o cap, v = .slice (some ⟨g, o, none⟩) b.length cap ∧ b.length ≤ cap ∧ g < w.heap.size ∧ ∀ i (hi : i < b.length), w.cell? ⟨g, o + i, none⟩ = some (.int .u8 b[i]) := by
  obtain ⟨hl, a, cap, rfl, hn, hc⟩ := h.1
  rcases hc with hc | ⟨g, o, rfl, hg, _, hc⟩
  · omega
  · exact ⟨g, o, cap, rfl, hn.1, hg, fun i hi => by rw [hc i (by omega)]; simp [hi]⟩

theorem under22 : Tryd.prog.underlying 35 = some (.slice 5) := by kernel_rfl

theorem under5 : Tryd.prog.underlying 5 = some (.int .u8) := by kernel_rfl

/-- A part of the bytes as a string. -/
theorem By.conv {w : World} {g o cap : Nat} {b : List Int} (h : By w (.slice (some ⟨g, o, none⟩) b.length cap) b) (k m c : Nat) (hk : k + m ≤ b.length) :
    (convert 35 9 (.slice (some ⟨g, o + k, none⟩) m c)).run Tryd.prog w = .ok (.string (strOfNums ((b.drop k).take m))) w := by
  refine run_convert_bytes_arg w 35 5 under22 under5 g (o + k) m c ((b.drop k).take m) (by simp; omega) (fun i hi => ?_) 9 under9
  have hi' : k + i < b.length := by omega
  obtain ⟨g', o', cap', e, _, _, hc⟩ := h.parts hi'
  cases e
  rw [Nat.add_assoc, hc _ hi']
  congr 2
  rw [List.getD_eq_getElem?_getD, List.getElem?_take, if_pos hi, List.getElem?_drop, List.getElem?_eq_getElem hi']
  rfl

/-- The result's block as it begins. -/
abbrev tk0 : Obj := .cells #[.int .i64 0, .string ByteArray.empty, .int .i64 0, .int .i64 0] 56

theorem numOf_take_succ {r : List Int} {m : Nat} (h : m < r.length) : numOf (r.take (m + 1)) = numStep (numOf (r.take m)) r[m] := by
  rw [List.take_succ_eq_append_getElem h, numOf_snoc]

theorem numStep_bd {s : Int × Bool} {d : Int} (h0 : 0 ≤ s.1) (h1 : s.1 ≤ 2305843009213693951) (hd : isDg d = true) : 0 ≤ (numStep s d).1 ∧ (numStep s d).1 ≤ 2305843009213693951 := by
  simp [isDg] at hd
  unfold numStep
  have e : (2305843009213693951 - (d - 48)).tdiv 10 = (2305843009213693951 - (d - 48)) / 10 := Int.tdiv_eq_ediv_of_nonneg (by omega)
  rw [e]
  split
  · exact ⟨h0, h1⟩
  · simp only; omega

/-- What two digits say: the byte; or how far the fault is. -/
def hex2 (r : List Int) : Int ⊕ Nat :=
  match r with
  | [] => .inr 0
  | x :: u =>
    match hexV x with
    | none => .inr 0
    | some i =>
      match u with
      | [] => .inr 1
      | y :: _ =>
        match hexV y with
        | none => .inr 1
        | some j => .inl (16 * i + j)

theorem hexV_bd {c i : Int} (h : hexV c = some i) : 0 ≤ i ∧ i ≤ 15 := by
  unfold hexV at h
  repeat' split at h
  all_goals simp at h
  all_goals omega

/-- How far it is with the two digits. -/
def St (r : List Int) (i : Nat) (x : Int) : Prop :=
  (i = 0 ∧ x = 0) ∨ (i = 1 ∧ ∃ c t, r = c :: t ∧ hexV c = some x) ∨ (i = 2 ∧ ∃ c d t p q, r = c :: d :: t ∧ hexV c = some p ∧ hexV d = some q ∧ x = 16 * p + q)

theorem St.end {r : List Int} {x : Int} (h : St r 2 x) : hex2 r = .inl x := by
  rcases h with ⟨h, _⟩ | ⟨h, _⟩ | ⟨_, c, d, t, p, q, rfl, h1, h2, rfl⟩
  · omega
  · omega
  · simp [hex2, h1, h2]

theorem St.short {r : List Int} {i : Nat} {x : Int} (h : St r i x) (hi : i < 2) (hr : r.length = i) : hex2 r = .inr i := by
  rcases h with ⟨rfl, _⟩ | ⟨rfl, c, t, rfl, h1⟩ | ⟨h, _⟩
  · rw [List.eq_nil_of_length_eq_zero hr]; rfl
  · have : t = [] := List.eq_nil_of_length_eq_zero (by simpa using hr)
    subst this
    simp [hex2, h1]
  · omega

theorem St.bad {r : List Int} {i : Nat} {x c : Int} (h : St r i x) (hi : i < 2) (hr : r[i]? = some c) (hc : hexV c = none) : hex2 r = .inr i := by
  rcases h with ⟨rfl, _⟩ | ⟨rfl, d, t, rfl, h1⟩ | ⟨h, _⟩
  · cases r with
    | nil => simp at hr
    | cons d t => simp at hr; subst hr; simp [hex2, hc]
  · cases t with
    | nil => simp at hr
    | cons e u => simp at hr; subst hr; simp [hex2, h1, hc]
  · omega

theorem or16 (x y : Int) (h0 : 0 ≤ x) (h1 : x ≤ 15) (g0 : 0 ≤ y) (g1 : y ≤ 15) : bits .or .u8 (x * 16) y = 16 * x + y := by
  rw [u8_or (x * 16) y (by omega) (by omega) (by omega) (by omega)]
  have h := Nat.two_pow_add_eq_or_of_lt (i := 4) (b := y.toNat) (by omega) x.toNat
  rw [show (x * 16).toNat = 2 ^ 4 * x.toNat by omega, ← h]; omega

theorem St.next {r : List Int} {i : Nat} {x c d : Int} (h : St r i x) (hi : i < 2) (hr : r[i]? = some c) (hc : hexV c = some d) : ∃ y, bits .or .u8 (x * 16 % 256) d = y ∧ bits .or .u8 (x * 16) d = y ∧ St r (i + 1) y ∧ 0 ≤ x ∧ x ≤ 15 := by
  have hd := hexV_bd hc
  rcases h with ⟨rfl, rfl⟩ | ⟨rfl, e, t, rfl, h1⟩ | ⟨h, _⟩
  · have := or16 0 d (by omega) (by omega) hd.1 hd.2
    simp at this
    refine ⟨d, by simpa using this, by simpa using this, .inr (.inl ⟨rfl, ?_⟩), by omega, by omega⟩
    cases r with
    | nil => simp at hr
    | cons f u => simp at hr; subst hr; exact ⟨f, u, rfl, hc⟩
  · have he := hexV_bd h1
    have := or16 x d he.1 he.2 hd.1 hd.2
    refine ⟨16 * x + d, by rw [show x * 16 % 256 = x * 16 by omega]; exact this, this, .inr (.inr ⟨rfl, ?_⟩), he.1, he.2⟩
    cases t with
    | nil => simp at hr
    | cons f u => simp at hr; subst hr; exact ⟨e, f, u, x, d, rfl, h1, hc, rfl⟩
  · omega

theorem esc_hex (t : List Int) : esc (120 :: t) = match hex2 t with | .inl x => .inl (x, 4) | .inr m => .inr (2 + m) := by
  cases t with
  | nil => simp [esc, hex2]
  | cons x u =>
    cases hx : hexV x with
    | none => simp [esc, hex2, hx]
    | some i =>
      cases u with
      | nil => simp [esc, hex2, hx]
      | cons y z => cases hy : hexV y <;> simp [esc, hex2, hx, hy]

theorem own_conv {w : World} {base n : Nat} {v : Value} {l : List Int} (h : w.ownsRow base 5 1 v n (l.map (Value.int .u8))) :
    (convert 35 9 v).run Tryd.prog w = .ok (.string (strOfNums l)) w := by
  have hl : l.length = n := by have := h.1; simpa using this
  rcases h.2 with ⟨rfl, rfl⟩ | ⟨g, cap, cur, rfl, hb, hg, hnc, hmx, hsz, htake⟩
  · have : l = [] := List.eq_nil_of_length_eq_zero hl
    subst this
    exact run_convert_bytes_nil w 35 5 under22 under5 0 0 9 under9
  · refine run_convert_bytes_arg w 35 5 under22 under5 g 0 n cap l hl (fun i hi => ?_) 9 under9
    rw [Nat.zero_add, cell_of_row w g i cur 5 (0, 0) hg]
    have e : cur.toList[i]? = (l.map (Value.int .u8))[i]? := by rw [← htake, List.getElem?_take, if_pos (by omega)]
    have : cur[i]? = cur.toList[i]? := by simp
    rw [this, e, List.getElem?_map, List.getElem?_eq_getElem (by omega), List.getD_eq_getElem?_getD, List.getElem?_eq_getElem (by omega)]
    rfl

theorem map_snoc8 (l : List Int) (c : Int) : l.map (Value.int .u8) ++ [.int .u8 c] = (l ++ [c]).map (Value.int .u8) := by simp

theorem underT : Tryd.prog.underlying 49 = some (.slice 56) := by kernel_rfl

theorem tk_snoc (l : List ATok) (t : ATok) : l.flatMap tkV ++ tkV t = (l ++ [t]).flatMap tkV := by simp

theorem Tk.bw {w w' : World} {base : Nat} {v : Value} {l : List ATok} (h : Tk w base v l) (hb : Bw w w') : Tk w' base v l :=
  h.kept (row := none) ⟨hb.os, hb.tape, hb.output, hb.size, fun k hk _ => hb.block k hk⟩ (by cases v.ownBlock <;> simp)

theorem Tk.form {w : World} {base : Nat} {v : Value} {l : List ATok} (h : Tk w base v l) : ∃ a cap, v = .slice a l.length cap := own_form h

theorem flat_get : ∀ (l : List ATok) (i : Nat) (hi : i < l.length) (j : Nat) (hj : j < 4), (l.flatMap tkV)[i * 4 + j]? = (tkV l[i])[j]?
  | [], i, hi, _, _ => by simp at hi
  | t :: u, 0, _, j, hj => by
    rw [List.flatMap_cons, Nat.zero_mul, Nat.zero_add, List.getElem?_append_left (by simp [tkV]; omega)]
    rfl
  | t :: u, i + 1, hi, j, hj => by
    have hi' : i < u.length := by simpa using hi
    rw [List.flatMap_cons, List.getElem?_append_right (by simp [tkV]; omega)]
    have e : (i + 1) * 4 + j - (tkV t).length = i * 4 + j := by simp [tkV]; omega
    rw [e, flat_get u i hi' j hj]
    simp

theorem Tk.at {w : World} {base : Nat} {v : Value} {l : List ATok} (h : Tk w base v l) (hl : 0 < l.length) :
    ∃ g cap, v = .slice (some ⟨g, 0, none⟩) l.length cap ∧ base ≤ g ∧ g < w.heap.size ∧ l.length ≤ cap ∧ ∀ i (hi : i < l.length), w.cell? ⟨g, i * 4, none⟩ = some (.int .i64 l[i].1) ∧ w.cell? ⟨g, i * 4 + 1, none⟩ = some (.string (strOfNums l[i].2.1)) ∧ w.cell? ⟨g, i * 4 + 2, none⟩ = some (.int .i64 l[i].2.2.1) ∧ w.cell? ⟨g, i * 4 + 3, none⟩ = some (.int .i64 l[i].2.2.2) := by
  rcases h.2 with ⟨_, h0⟩ | ⟨g, cap, cur, rfl, hb, hg, hnc, hmx, hsz, htake⟩
  · omega
  · refine ⟨g, cap, rfl, hb, (Array.getElem?_eq_some_iff.1 hg).1, hnc, fun i hi => ?_⟩
    have key : ∀ j, j < 4 → w.cell? ⟨g, i * 4 + j, none⟩ = (tkV l[i])[j]? := by
      intro j hj
      rw [cell_of_row w g (i * 4 + j) cur _ (0, 0) hg, ← flat_get l i hi j hj, ← htake, List.getElem?_take, if_pos (by omega)]
      simp
    have k0 := key 0 (by omega)
    have k1 := key 1 (by omega)
    have k2 := key 2 (by omega)
    have k3 := key 3 (by omega)
    exact ⟨k0, k1, k2, k3⟩

theorem cell_bw {w w' : World} {b i : Nat} (h : Bw w w') (hb : b < w.heap.size) : w'.cell? ⟨b, i, none⟩ = w.cell? ⟨b, i, none⟩ :=
  World.cell?_of_block (w := w) (w' := w') (a := ⟨b, i, none⟩) (h.block b hb)

end Go.Proofs.YtekkjpecdflajaaDoor

set_option linter.unusedSimpArgs false
set_option linter.unusedVariables false
namespace Go.Proofs.YtekkjpecdflajaaDoor
open Go Go.RowKit

/-- What kinds of nodes have: what they stand as, the fewest and the most parts, whether they are named. -/
def shpT : List (Int × Int × Int × Int) := [(0, 0, 0, 0), (1, 0, 9223372036854775807, 0), (2, 0, 9223372036854775807, 0), (2, 1, 1, 1), (2, 2, 2, 0), (2, 2, 3, 0), (2, 2, 2, 0), (2, 0, 0, 0), (2, 0, 0, 0), (2, 0, 1, 0), (2, 1, 1, 0), (2, 2, 2, 1), (2, 1, 17, 1), (2, 1, 1, 0), (3, 0, 0, 0), (3, 0, 0, 0), (3, 0, 0, 0), (3, 0, 0, 0), (3, 0, 0, 0), (3, 0, 0, 1), (3, 0, 9223372036854775807, 0), (3, 0, 9223372036854775807, 0), (4, 1, 1, 1), (3, 2, 2, 0), (3, 2, 2, 0), (3, 2, 2, 0), (3, 1, 1, 0), (3, 1, 1, 0), (3, 1, 17, 0), (3, 2, 2, 0), (3, 1, 1, 1), (3, 1, 17, 0), (3, 1, 17, 0)]

def shpA (k : Int) : Int × Int × Int × Int := shpT.getD k.toNat (0, 0, 0, 0)

/-- May a kind stand where this is asked for? -/
def ftP (k a : Int) : Bool :=
  if k ≤ 0 ∨ 33 ≤ k then false else if a = 5 then k == 19 else if a = 6 then k == 2 else if a = 7 then k == 2 || k == 5 else if a = 8 then k == 19 || k == 29 || k == 30 else (shpA k).1 == a

/-- One of the signs between two? -/
def binP (t : List Int) : Bool := [[43], [45], [42], [47], [37], [61, 61], [33, 61], [60], [60, 61], [62], [62, 61]].any fun s => decide (strOfNums t = strOfNums s)

/-- Are a node's fields such as its kind has? -/
def wmP (n : ANode) : Bool :=
  if n.2.1 < (shpA n.1).2.1 ∨ (shpA n.1).2.2.1 < n.2.1 ∨ ((shpA n.1).2.2.2 = 1 ∧ isName n.2.2.1 = false) then false
  else if n.1 = 14 then decide (0 ≤ n.2.2.2.1) && decide (n.2.2.2.1 ≤ 2305843009213693951)
  else if n.1 = 23 then binP n.2.2.1
  else if n.1 = 12 ∨ n.1 = 31 then n.2.2.2.1 == n.2.1 - 1
  else true

/-- What is asked for as the i-th thing that a node is made of. -/
def stP (n : ANode) (i : Int) : Int :=
  if n.1 = 1 ∨ n.1 = 2 then 2 else if n.1 = 11 then 6 else if n.1 = 21 then 4 else if n.1 = 4 then (if i = 0 then 8 else 3)
  else if n.1 = 5 ∨ n.1 = 6 then (if i = 0 then 3 else if i = 1 then 6 else 7)
  else if n.1 = 12 ∨ n.1 = 31 then (if i < n.2.2.2.1 then 5 else 6) else 3

/-- What is whole is left out, from the innermost on (which stands first here). -/
def wof : List (ANode × Int) → List (ANode × Int)
  | [] => []
  | (n, c) :: st => if c = n.2.1 then wof st else (n, c) :: st

/-- The program's way. -/
def ckI : List ANode → Nat → List (ANode × Int) → Int → Int × Int
  | [], i, _, _ => ((i : Int), 6)
  | n :: r, i, st, a =>
    if ftP n.1 a = false then ((i : Int), 8) else if wmP n = false then ((i : Int), 1) else
    match wof ((n, 0) :: st) with
    | [] => if r = [] then (0, 0) else (((i + 1 : Nat) : Int), 6)
    | (m, c) :: st' => ckI r (i + 1) ((m, c + 1) :: st') (stP m c)

def ckP (l : List ANode) : Int × Int := if l = [] then (0, 6) else ckI l 0 [] 1

/-- What comes of the document's way: what is left and its place; or the fault's place and error. -/
inductive CR where
  | ok (r : List ANode) (at_ : Nat)
  | bad (p : Nat) (e : Int)

def kd (ck : List ANode → Nat → Int → CR) (n : ANode) : Nat → Int → List ANode → Nat → CR
  | 0, _, r, at_ => .ok r at_
  | k + 1, i, r, at_ => match ck r at_ (stP n i) with | .bad p e => .bad p e | .ok r' at' => kd ck n k (i + 1) r' at'

/-- The document's way. -/
def ckR : Nat → List ANode → Nat → Int → CR
  | 0, _, at_, _ => .bad at_ 0
  | f + 1, [], at_, _ => .bad at_ 6
  | f + 1, n :: r, at_, a => if ftP n.1 a = false then .bad at_ 8 else if wmP n = false then .bad at_ 1 else kd (ckR f) n n.2.1.toNat 0 r (at_ + 1)

def ckD (l : List ANode) : Int × Int :=
  if l = [] then (0, 6) else match ckR (l.length + 1) l 0 1 with | .bad p e => ((p : Int), e) | .ok r p => if r = [] then (0, 0) else ((p : Int), 6)

def CR.len (c : CR) (n at0 : Nat) : Prop := match c with | .ok r at_ => r.length + at_ = n + at0 ∧ at0 ≤ at_ | _ => True

theorem kd_len {ck : List ANode → Nat → Int → CR} (h : ∀ r at_ a, (ck r at_ a).len r.length at_) (n : ANode) : ∀ (k : Nat) (i : Int) (r : List ANode) (at_ : Nat), (kd ck n k i r at_).len r.length at_
  | 0, i, r, at_ => ⟨rfl, Nat.le_refl _⟩
  | k + 1, i, r, at_ => by
    unfold kd
    cases hc : ck r at_ (stP n i) with
    | bad p e => trivial
    | ok r' at' =>
      have h1 := h r at_ (stP n i)
      rw [hc] at h1
      have h2 := kd_len h n k (i + 1) r' at'
      dsimp only
      cases hk : kd ck n k (i + 1) r' at' with
      | bad p e => trivial
      | ok r'' at'' =>
        rw [hk] at h2
        exact ⟨h2.1.trans h1.1, Nat.le_trans h1.2 h2.2⟩

theorem ckR_len : ∀ (f : Nat) (r : List ANode) (at_ : Nat) (a : Int), (ckR f r at_ a).len r.length at_
  | 0, _, _, _ => trivial
  | f + 1, [], _, _ => trivial
  | f + 1, n :: r, at_, a => by
    unfold ckR
    split
    · trivial
    split
    · trivial
    have h := kd_len (ckR_len f) n n.2.1.toNat 0 r (at_ + 1)
    cases hk : kd (ckR f) n n.2.1.toNat 0 r (at_ + 1) with
    | bad p e => trivial
    | ok r' at' =>
      rw [hk] at h
      have := h.1
      have := h.2
      refine ⟨?_, by omega⟩
      simp
      omega

/-- What comes behind what is whole. -/
def aft (r : List ANode) (at_ : Nat) (st : List (ANode × Int)) : Int × Int :=
  match wof st with
  | [] => if r = [] then (0, 0) else ((at_ : Int), 6)
  | (m, c) :: st' => ckI r at_ ((m, c + 1) :: st') (stP m c)

def fin (c : CR) (st : List (ANode × Int)) : Int × Int := match c with | .bad p e => ((p : Int), e) | .ok r at_ => aft r at_ st

theorem kd_ok (f : Nat) (H : ∀ r at_ a st, r.length < f → ckI r at_ st a = fin (ckR f r at_ a) st) (n : ANode) (st : List (ANode × Int)) : ∀ (k : Nat) (i : Nat) (r : List ANode) (at_ : Nat), (i : Int) + k = n.2.1 → r.length < f → aft r at_ ((n, (i : Int)) :: st) = fin (kd (ckR f) n k i r at_) st
  | 0, i, r, at_, hk, hr => by
    have e : (i : Int) = n.2.1 := by omega
    unfold kd fin aft
    rw [wof, if_pos e]
  | k + 1, i, r, at_, hk, hr => by
    have e : ¬ (i : Int) = n.2.1 := by omega
    unfold aft
    rw [wof, if_neg e]
    dsimp only
    rw [H r at_ _ _ hr]
    unfold kd
    cases hc : ckR f r at_ (stP n i) with
    | bad p e => rfl
    | ok r' at' =>
      have hl := ckR_len f r at_ (stP n i)
      rw [hc] at hl
      have := hl.1
      have := hl.2
      show aft r' at' ((n, (i : Int) + 1) :: st) = _
      have ih := kd_ok f H n st k (i + 1) r' at' (by omega) (by omega)
      rw [show ((i + 1 : Nat) : Int) = (i : Int) + 1 by omega] at ih
      exact ih

theorem wm_nonneg {n : ANode} {a : Int} (hf : ftP n.1 a = true) (h : wmP n = true) : 0 ≤ n.2.1 := by
  have hk : 0 < n.1 ∧ n.1 < 33 := by
    unfold ftP at hf
    split at hf
    · cases hf
    · omega
  have hs : 0 ≤ (shpA n.1).2.1 := by
    unfold shpA
    have : ∀ i, i < 33 → 0 ≤ (shpT.getD i (0, 0, 0, 0)).2.1 := by decide
    exact this n.1.toNat (by omega)
  unfold wmP at h
  split at h
  · cases h
  · omega

theorem ckI_ok : ∀ (f : Nat) (r : List ANode) (at_ : Nat) (a : Int) (st : List (ANode × Int)), r.length < f → ckI r at_ st a = fin (ckR f r at_ a) st
  | 0, _, _, _, _, h => by omega
  | f + 1, [], at_, a, st, _ => rfl
  | f + 1, n :: r, at_, a, st, h => by
    have hr : r.length < f := by simpa using h
    unfold ckI ckR
    by_cases hf : ftP n.1 a = false
    · rw [if_pos hf, if_pos hf]; rfl
    · rw [if_neg hf, if_neg hf]
      by_cases hw : wmP n = false
      · rw [if_pos hw, if_pos hw]; rfl
      · rw [if_neg hw, if_neg hw]
        have hn := wm_nonneg (by simpa using hf) (by simpa using hw)
        have := kd_ok f (fun r at_ a st hr => ckI_ok f r at_ a st hr) n st n.2.1.toNat 0 r (at_ + 1) (by omega) hr
        exact this

theorem ck_same (l : List ANode) : ckP l = ckD l := by
  unfold ckP ckD
  by_cases hl : l = []
  · rw [if_pos hl, if_pos hl]
  · rw [if_neg hl, if_neg hl, ckI_ok (l.length + 1) l 0 1 [] (by omega)]
    cases hc : ckR (l.length + 1) l 0 1 with
    | bad p e => rfl
    | ok r p => rfl

end Go.Proofs.YtekkjpecdflajaaDoor

set_option linter.unusedSimpArgs false
set_option linter.unusedVariables false
namespace Go.Proofs.YtekkjpecdflajaaDoor
open Go Go.RowKit

/-- The table of kinds in memory. -/
structure Sh (w : World) : Prop where
  lt : 1 < w.heap.size
  c0 : ∀ k, k < 33 → w.cell? ⟨1, k * 4, none⟩ = some (.int .i64 (shpA k).1)
  c1 : ∀ k, k < 33 → w.cell? ⟨1, k * 4 + 1, none⟩ = some (.int .i64 (shpA k).2.1)
  c2 : ∀ k, k < 33 → w.cell? ⟨1, k * 4 + 2, none⟩ = some (.int .i64 (shpA k).2.2.1)
  c3 : ∀ k, k < 33 → w.cell? ⟨1, k * 4 + 3, none⟩ = some (.int .i64 (shpA k).2.2.2)

theorem Sh.bw {w w' : World} (h : Sh w) (hb : Bw w w') : Sh w' := by
  have e : ∀ j, w'.cell? ⟨1, j, none⟩ = w.cell? ⟨1, j, none⟩ := fun j => World.cell?_of_block (a := ⟨1, j, none⟩) (hb.block _ h.lt)
  exact ⟨Nat.lt_of_lt_of_le h.lt hb.size, fun k hk => (e _).trans (h.c0 k hk), fun k hk => (e _).trans (h.c1 k hk), fun k hk => (e _).trans (h.c2 k hk), fun k hk => (e _).trans (h.c3 k hk)⟩

set_option maxRecDepth 100000 in
set_option maxHeartbeats 4000000 in
theorem fits_any (k a : Int) (w : World) (hh : Sh w) :
    Calls Tryd.prog 38 #[.int .i64 k, .int .i64 a] w fun e w' => e = .returned (.bool (ftP k a)) ∧ w' = w := by
  by_cases h1 : k ≤ 0
  · have e : ftP k a = false := by unfold ftP; rw [if_pos (.inl h1)]
    rw [e]
    clear e hh
    go_enter Tryd.func38, Tryd.ntmps38
    go_wp2
    all_goals go_ret
    all_goals exact ⟨rfl, rfl⟩
  · by_cases h2 : 33 ≤ k
    · have e : ftP k a = false := by unfold ftP; rw [if_pos (.inr h2)]
      rw [e]
      clear e hh
      go_enter Tryd.func38, Tryd.ntmps38
      go_wp2
      all_goals go_ret
      all_goals exact ⟨rfl, rfl⟩
    · obtain ⟨n, rfl⟩ : ∃ n : Nat, k = (n : Int) := ⟨k.toNat, by omega⟩
      have c0 := hh.c0 n (by omega)
      have gl := hh.lt
      have i1 : (0 : Int) ≤ (n : Int) := by omega
      have i2 : (n : Int) < 33 := by omega
      have e : ftP (n : Int) a = if a = 5 then (n : Int) == 19 else if a = 6 then (n : Int) == 2 else if a = 7 then (n : Int) == 2 || (n : Int) == 5 else if a = 8 then (n : Int) == 19 || (n : Int) == 29 || (n : Int) == 30 else (shpA n).1 == a := by
        unfold ftP
        rw [if_neg (by omega)]
      rw [e]
      have d1 : ¬ n = 0 := by omega
      have d2 : decide ((33 : Int) ≤ (n : Int)) = false := decide_eq_false (by omega)
      clear e hh h1 h2
      generalize (shpA n).1 = s at *
      by_cases h5 : a = 5
      · subst h5
        go_enter Tryd.func38, Tryd.ntmps38
        go_wp2
        all_goals go_ret
        all_goals exact ⟨rfl, rfl⟩
      by_cases h6 : a = 6
      · subst h6
        go_enter Tryd.func38, Tryd.ntmps38
        go_wp2
        all_goals go_ret
        all_goals exact ⟨rfl, rfl⟩
      by_cases h7 : a = 7
      · subst h7
        go_enter Tryd.func38, Tryd.ntmps38
        go_wp2
        all_goals go_ret
        all_goals exact ⟨by simp [*], rfl⟩
      by_cases h8 : a = 8
      · subst h8
        go_enter Tryd.func38, Tryd.ntmps38
        go_wp2
        all_goals go_ret
        all_goals exact ⟨by simp [*], rfl⟩
      · rw [if_neg h5, if_neg h6, if_neg h7, if_neg h8]
        go_enter Tryd.func38, Tryd.ntmps38
        go_wp2
        all_goals go_ret
        all_goals exact ⟨rfl, rfl⟩

set_option maxRecDepth 100000 in
set_option maxHeartbeats 4000000 in
theorem isBinary_any (t : List Int) (w : World) :
    Calls Tryd.prog 53 #[.string (strOfNums t)] w fun e w' => e = .returned (.bool (binP t)) ∧ w' = w := by
  have q : ∀ l : List Int, ∀ u : List UInt8, (strOfNums l).toList = u → decide (strOfNums t = strOfNums l) = ((strOfNums t).toList == u) := by
    intro l u hu
    by_cases h : strOfNums t = strOfNums l
    · rw [decide_eq_true h, h, hu]; simp
    · rw [decide_eq_false h]
      symm
      rw [beq_eq_false_iff_ne]
      exact fun k => h (str_inj (k.trans hu.symm))
  have e : binP t = (((strOfNums t).toList == [43]) || ((strOfNums t).toList == [45]) || ((strOfNums t).toList == [42]) || ((strOfNums t).toList == [47]) || ((strOfNums t).toList == [37]) || ((strOfNums t).toList == [61, 61]) || ((strOfNums t).toList == [33, 61]) || ((strOfNums t).toList == [60]) || ((strOfNums t).toList == [60, 61]) || ((strOfNums t).toList == [62]) || ((strOfNums t).toList == [62, 61])) := by
    unfold binP
    simp only [List.any_cons, List.any_nil, Bool.or_false, Bool.or_assoc]
    rw [q [43] [43] (by rw [ByteArray.toList_eq]; rfl), q [45] [45] (by rw [ByteArray.toList_eq]; rfl), q [42] [42] (by rw [ByteArray.toList_eq]; rfl), q [47] [47] (by rw [ByteArray.toList_eq]; rfl), q [37] [37] (by rw [ByteArray.toList_eq]; rfl), q [61, 61] [61, 61] (by rw [ByteArray.toList_eq]; rfl), q [33, 61] [33, 61] (by rw [ByteArray.toList_eq]; rfl), q [60] [60] (by rw [ByteArray.toList_eq]; rfl), q [60, 61] [60, 61] (by rw [ByteArray.toList_eq]; rfl), q [62] [62] (by rw [ByteArray.toList_eq]; rfl), q [62, 61] [62, 61] (by rw [ByteArray.toList_eq]; rfl)]
  rw [e]
  clear e q
  generalize strOfNums t = s
  go_enter Tryd.func53, Tryd.ntmps53
  go_wp2
  all_goals go_ret
  all_goals exact ⟨by first | (simp [*]; done) | simp_all, by first | rfl | simp_all⟩

set_option maxRecDepth 100000 in
set_option maxHeartbeats 4000000 in
theorem checkEnd_any (a : Option Addr) (n cap : Nat) (e : Nat) (he : e ≤ 10000) (w : World) :
    Calls Tryd.prog 41 #[.slice a n cap, .int .i64 (e : Int)] w fun r w' => r = .returned (.tuple #[.int .i64 (if e < n then (e : Int) else 0), .int .i64 (if e < n then 6 else 0)]) ∧ w' = w := by
  by_cases h : e < n
  · have h' : (e : Int) < (n : Int) := by omega
    rw [if_pos h, if_pos h]
    go_enter Tryd.func41, Tryd.ntmps41
    go_wp2
    all_goals go_ret2
    all_goals exact ⟨rfl, rfl⟩
  · have h' : ¬ (e : Int) < (n : Int) := by omega
    rw [if_neg h, if_neg h]
    go_enter Tryd.func41, Tryd.ntmps41
    go_wp2
    all_goals go_ret2
    all_goals exact ⟨rfl, rfl⟩

end Go.Proofs.YtekkjpecdflajaaDoor

set_option linter.unusedVariables false
set_option linter.unusedSimpArgs false
namespace Go.Proofs.YtekkjpecdflajaaDoor
open Go.ChangeShapes Go.WideShapes Go.ChangeAt Go.RowKit

set_option maxRecDepth 100000 in
theorem ownK : ownKnob Tryd.prog.godebug = none := by kernel_rfl
set_option maxRecDepth 100000 in
theorem laidOut : laidOutB Tryd.prog = true := by kernel_rfl

abbrev laidS : List (String × DataW Unit) := [("jacquard/parse.shapes", Rows.laid_jacquard_parse_shapes), ("jacquard/scope.primitives", Rows.laid_jacquard_scope_primitives)]

set_option maxRecDepth 100000 in
theorem gSigns : Tryd.prog.globalNamed "jacquard/scope.primitives" = some 0 := by kernel_rfl
set_option maxRecDepth 100000 in
theorem tSigns : (Tryd.prog.globals[0]?).map (·.type) = some 31 := by kernel_rfl
set_option maxRecDepth 100000 in
theorem cells9 : Tryd.prog.cellsOf 9 = 1 := by kernel_rfl

set_option maxRecDepth 100000 in
/-- The door's own heap meets the condition. -/
theorem door_met (os : Os) (args : Array Value) : laidMetH Tryd.prog laidS ((World.doorLaid Tryd.prog 400 os).forCall (fun _ _ => 0) ⟨#[], args, []⟩).memory :=
  laidMetH_of_parts3 (fuel := 8) (laidMet_of_run' 8 (by kernel_rfl) (by kernel_rfl)) (by kernel_rfl) (by kernel_rfl)

set_option maxRecDepth 100000 in
/-- The bytes of the signs, as the table's datum has them. -/
theorem sgs_datum : (Rows.laid_jacquard_scope_primitives : DataW Unit) = .agg (prs.map fun s => .lit (.string s.data.toList)) := by
  simp [Rows.laid_jacquard_scope_primitives, prs]

set_option maxRecDepth 100000 in
/-- What the condition gives: the primitives. -/
theorem pr_of_laid {W : World} (h : laidMetH Tryd.prog laidS W) : PrM W := by
  rw [MakeChecks.laidMetH_plain _ _ _ (by kernel_rfl)] at h
  obtain ⟨ps, ⟨g1, t1, cs1, f1, p1, q1, hg1, ht1, hv1, hd1, ⟨g0, t0, cs0, f0, p0, q0, hg0, ht0, hv0, hd0, _, _⟩, _⟩, _⟩ := h
  obtain rfl := Option.some.inj (gSigns.symm.trans hg0)
  obtain rfl := Option.some.inj (tSigns.symm.trans ht0)
  obtain ⟨xs, m1, rfl, hx1, hlen, hn, hel⟩ := DataW.trod_array Tryd.underlying31 hd0
  rw [cells9] at hel
  simp only [Prod.mk.injEq] at hx1
  rw [sgs_datum] at hx1
  have hxs : (prs.map fun s => (DataW.lit (.string s.data.toList) : DataW Unit)) = xs.map (·.1) := by simpa using hx1.1
  have key : ∀ i s, prs[i]? = some s → W.cell? ⟨0, i, none⟩ = some (.string s) := by
    intro i s hs
    have hi : i < 30 := (List.getElem?_eq_some_iff.1 hs).1
    have h1 := hel i hi
    have hxi : i < xs.length := by omega
    rw [List.getElem?_eq_getElem hxi] at h1
    obtain ⟨z, e1, e2, _⟩ := DataW.trod_string Tryd.underlying9 h1
    have h2 : (prs.map fun s => (DataW.lit (.string s.data.toList) : DataW Unit))[i]? = (xs.map (·.1))[i]? := by rw [hxs]
    rw [List.getElem?_map, hs, List.getElem?_map, List.getElem?_eq_getElem hxi, e2] at h2
    simp only [Option.map_some, Option.some.injEq, DataW.lit.injEq, Lit.string.injEq] at h2
    have hz : z = s := by
      cases z
      cases s
      congr 1
      exact Array.toList_inj.1 h2.symm
    rw [World.var?_cell hg0 hv0 i, ← hz]
    have e3 := congrArg (·[0]?) e1
    simpa [List.getElem?_take, List.getElem?_drop] using e3
  have h0 := key 0 ⟨#[112, 114, 105, 110, 116]⟩ rfl
  exact ⟨World.block_lt_of_cell? W _ h0, key⟩

theorem cells3 : Tryd.prog.cellsOf 3 = 1 := by kernel_rfl
theorem under3' : Tryd.prog.underlying 3 = some (.int .i64) := by kernel_rfl
set_option maxRecDepth 100000 in
theorem gShapes : Tryd.prog.globalNamed "jacquard/parse.shapes" = some 1 := by kernel_rfl
set_option maxRecDepth 100000 in
theorem tShapes : (Tryd.prog.globals[1]?).map (·.type) = some 107 := by kernel_rfl
set_option maxRecDepth 100000 in
theorem cellsShp : Tryd.prog.cellsOf 106 = 4 := by kernel_rfl
set_option maxRecDepth 100000 in
theorem shp_datum : (Rows.laid_jacquard_parse_shapes : DataW Unit) = .agg (shpT.map fun r => .agg [.lit (.int .i64 r.1), .lit (.int .i64 r.2.1), .lit (.int .i64 r.2.2.1), .lit (.int .i64 r.2.2.2)]) := by
  simp [Rows.laid_jacquard_parse_shapes, shpT]

set_option maxRecDepth 100000 in
theorem sh_of_laid {W : World} (h : laidMetH Tryd.prog laidS W) : Sh W := by
  rw [MakeChecks.laidMetH_plain _ _ _ (by kernel_rfl)] at h
  obtain ⟨ps, ⟨g1, t1, cs1, f1, p1, q1, hg1, ht1, hv1, hd1, _, _⟩, _⟩ := h
  obtain rfl := Option.some.inj (gShapes.symm.trans hg1)
  obtain rfl := Option.some.inj (tShapes.symm.trans ht1)
  obtain ⟨xs, m1, rfl, hx1, hlen, hn, hel⟩ := DataW.trod_array Tryd.underlying107 hd1
  rw [cellsShp] at hel
  simp only [Prod.mk.injEq] at hx1
  rw [shp_datum] at hx1
  have hxs : (shpT.map fun r => (DataW.agg [.lit (.int .i64 r.1), .lit (.int .i64 r.2.1), .lit (.int .i64 r.2.2.1), .lit (.int .i64 r.2.2.2)] : DataW Unit)) = xs.map (·.1) := by simpa using hx1.1
  have key : ∀ k : Nat, k < 33 → ∃ c0 c1 c2 c3 : Int, (c0, c1, c2, c3) = shpA k ∧ W.cell? ⟨1, k * 4, none⟩ = some (.int .i64 c0) ∧ W.cell? ⟨1, k * 4 + 1, none⟩ = some (.int .i64 c1) ∧ W.cell? ⟨1, k * 4 + 2, none⟩ = some (.int .i64 c2) ∧ W.cell? ⟨1, k * 4 + 3, none⟩ = some (.int .i64 c3) := by
    intro k hk
    have h1 := hel k hk
    have hxi : k < xs.length := by omega
    rw [List.getElem?_eq_getElem hxi] at h1
    obtain ⟨ys, n, _, hy, hl, hlen2, hf⟩ := DataW.trod_struct Tryd.underlying106 h1
    have hl4 : ys.length = 4 := hlen2
    match ys, hl4 with
    | [y0, y1, y2, y3], _ =>
    obtain ⟨a0, e0, d0, _⟩ := DataW.trod_int under3' (hf 0 _ rfl)
    obtain ⟨a1, e1, d1, _⟩ := DataW.trod_int under3' (hf 1 _ rfl)
    obtain ⟨a2, e2, d2, _⟩ := DataW.trod_int under3' (hf 2 _ rfl)
    obtain ⟨a3, e3, d3, _⟩ := DataW.trod_int under3' (hf 3 _ rfl)
    have hsk : shpT[k]? = some (shpA k) := by
      unfold shpA
      rw [show ((k : Nat) : Int).toNat = k from rfl, List.getD_eq_getElem?_getD, List.getElem?_eq_getElem (show k < shpT.length from hk)]
      rfl
    have h2 : (shpT.map fun r => (DataW.agg [.lit (.int .i64 r.1), .lit (.int .i64 r.2.1), .lit (.int .i64 r.2.2.1), .lit (.int .i64 r.2.2.2)] : DataW Unit))[k]? = (xs.map (·.1))[k]? := by rw [hxs]
    rw [List.getElem?_map, hsk, List.getElem?_map, List.getElem?_eq_getElem hxi, hy] at h2
    rw [d0, d1, d2, d3] at h2
    simp only [Option.map_some, Option.some.injEq, List.map_cons, List.map_nil, DataW.agg.injEq, List.cons.injEq, DataW.lit.injEq, Lit.int.injEq, true_and, and_true] at h2
    obtain ⟨r0, r1, r2, r3⟩ := h2
    replace e0 : List.take 1 (List.drop 0 (List.take 4 (List.drop (k * 4) cs1.toList))) = [Value.int .i64 a0] := by
      have q : List.take (Tryd.prog.cellsOf 3) (List.drop 0 (List.take 4 (List.drop (k * 4) cs1.toList))) = [Value.int .i64 a0] := e0
      rw [cells3] at q
      exact q
    replace e1 : List.take 1 (List.drop 1 (List.take 4 (List.drop (k * 4) cs1.toList))) = [Value.int .i64 a1] := by
      have q : List.take (Tryd.prog.cellsOf 3) (List.drop 1 (List.take 4 (List.drop (k * 4) cs1.toList))) = [Value.int .i64 a1] := e1
      rw [cells3] at q
      exact q
    replace e2 : List.take 1 (List.drop 2 (List.take 4 (List.drop (k * 4) cs1.toList))) = [Value.int .i64 a2] := by
      have q : List.take (Tryd.prog.cellsOf 3) (List.drop 2 (List.take 4 (List.drop (k * 4) cs1.toList))) = [Value.int .i64 a2] := e2
      rw [cells3] at q
      exact q
    replace e3 : List.take 1 (List.drop 3 (List.take 4 (List.drop (k * 4) cs1.toList))) = [Value.int .i64 a3] := by
      have q : List.take (Tryd.prog.cellsOf 3) (List.drop 3 (List.take 4 (List.drop (k * 4) cs1.toList))) = [Value.int .i64 a3] := e3
      rw [cells3] at q
      exact q
    have f0 := congrArg (·[0]?) e0
    have f1 := congrArg (·[0]?) e1
    have f2 := congrArg (·[0]?) e2
    have f3 := congrArg (·[0]?) e3
    refine ⟨a0, a1, a2, a3, ?_, ?_, ?_, ?_, ?_⟩
    · rw [← r0, ← r1, ← r2, ← r3]
    · rw [World.var?_cell hg1 hv1]; simpa [List.getElem?_take, List.getElem?_drop] using f0
    · rw [World.var?_cell hg1 hv1]; simpa [List.getElem?_take, List.getElem?_drop] using f1
    · rw [World.var?_cell hg1 hv1]; simpa [List.getElem?_take, List.getElem?_drop] using f2
    · rw [World.var?_cell hg1 hv1]; simpa [List.getElem?_take, List.getElem?_drop] using f3
  obtain ⟨z0, z1, z2, z3, _, hz, _⟩ := key 0 (by decide)
  refine ⟨World.block_lt_of_cell? W _ hz, fun k hk => ?_, fun k hk => ?_, fun k hk => ?_, fun k hk => ?_⟩
  · obtain ⟨c0, c1, c2, c3, e, h0, h1, h2, h3⟩ := key k hk
    rw [← e]; exact h0
  · obtain ⟨c0, c1, c2, c3, e, h0, h1, h2, h3⟩ := key k hk
    rw [← e]; exact h1
  · obtain ⟨c0, c1, c2, c3, e, h0, h1, h2, h3⟩ := key k hk
    rw [← e]; exact h2
  · obtain ⟨c0, c1, c2, c3, e, h0, h1, h2, h3⟩ := key k hk
    rw [← e]; exact h3

set_option maxRecDepth 100000 in
theorem cells_one {w : World} {a : Addr} {v : Value} (h : w.cells? 0 a 1 = some [v]) : w.cell? a = some v := by
  unfold World.cells? at h
  rw [if_pos (Nat.zero_le _), show List.range 1 = [0] from rfl] at h
  have ea : a.add 0 = a := by simp [Addr.add]
  cases h0 : w.cell? (a.add 0) with
  | none => simp [h0] at h
  | some u =>
    simp [h0] at h
    rw [ea, h] at h0
    exact h0

set_option maxRecDepth 100000 in
theorem list_of {α : Type} (q : Nat → α → Prop) : ∀ (n : Nat), (∀ i, i < n → ∃ a, q i a) → ∃ l : List α, l.length = n ∧ ∀ i (hi : i < l.length), q i l[i]
  | 0, _ => ⟨[], rfl, fun i hi => by simp at hi⟩
  | n + 1, h => by
    obtain ⟨l, hl, hq⟩ := list_of q n (fun i hi => h i (by omega))
    obtain ⟨a, ha⟩ := h n (by omega)
    refine ⟨l ++ [a], by simp [hl], fun i hi => ?_⟩
    by_cases hi2 : i < l.length
    · rw [List.getElem_append_left hi2]; exact hq i hi2
    · have : i = l.length := by simp at hi; omega
      subst this
      rw [List.getElem_append_right (Nat.le_refl _)]
      simpa [hl] using ha

set_option maxRecDepth 100000 in
theorem trod_list {α H : Type} {enc : TypeId × Value → H} {w : World} {T E : TypeId} {fuel : Nat} {cs : List Value} {x : DataW H × List MemPlace} (mk : α → Value) (ok : α → Prop)
    (ht : Tryd.prog.underlying T = some (.slice E)) (hc : Tryd.prog.cellsOf E = 1)
    (hel : ∀ n cs x, DataW.trod enc Tryd.prog w 0 (fun _ => true) true n E cs = some x → ∃ a, cs = [mk a] ∧ ok a)
    (h : DataW.trod enc Tryd.prog w 0 (fun _ => true) true fuel T cs = some x) :
    ∃ (v : Value) (l : List α), cs = [v] ∧ Sl w (fun _ => True) v l.length 1 (l.map mk) ∧ (∀ a ∈ l, ok a) ∧ l.length ≤ maxLen := by
  rcases DataW.trod_slice ht h with ⟨rfl, _⟩ | ⟨ad, len, cap, elems, rest, n, _, rfl, _, _, hl, hm, hlen, he, _, _⟩
  · exact ⟨_, [], rfl, Sl.nil _ _ 1, fun a ha => by simp at ha, Nat.zero_le _⟩
  · rw [hc] at he
    have key : ∀ i, i < len → ∃ a, w.cell? (ad.add (i * 1)) = some (mk a) ∧ ok a := by
      intro i hi
      have h1 := he i hi
      obtain ⟨y, hy⟩ : ∃ y, elems[i]? = some y := ⟨_, List.getElem?_eq_getElem (by omega)⟩
      rw [hy, Option.bind_eq_some_iff] at h1
      obtain ⟨cs', hcs, htr⟩ := h1
      obtain ⟨a, rfl, hok⟩ := hel _ _ _ htr
      exact ⟨a, cells_one hcs, hok⟩
    obtain ⟨l, hll, hq⟩ := list_of _ len key
    refine ⟨_, l, rfl, ⟨by simp, some ad, cap, by rw [hll], ⟨by omega, fun h => by cases h⟩, ?_⟩, fun a ha => ?_, by omega⟩
    · by_cases h0 : len = 0
      · exact .inl (by omega)
      · have hc0 := (hq 0 (by omega)).1
        obtain ⟨b, off, spot⟩ := ad
        have hspot : spot = none := by simpa [Addr.add] using World.cell?_spot hc0
        subst hspot
        have hlt : b < w.heap.size := by simpa [Addr.add] using World.block_lt_of_cell? w _ hc0
        refine .inr ⟨b, off, rfl, hlt, trivial, fun i hi => ?_⟩
        have hil : i < l.length := by omega
        have := (hq i hil).1
        have e1 : (⟨b, off, none⟩ : Addr).add (i * 1) = ⟨b, off + i, none⟩ := by
          rw [Nat.mul_one]
          unfold Addr.add
          split
          · rename_i h0; subst h0; rfl
          · rfl
        rw [e1] at this
        rw [this]; simp [hil]
    · obtain ⟨i, hi, rfl⟩ := List.getElem_of_mem ha
      exact (hq i hi).2

set_option maxRecDepth 100000 in
theorem cells5 : Tryd.prog.cellsOf 5 = 1 := by kernel_rfl

set_option maxRecDepth 100000 in
theorem open_bytes {H : Type} {enc : TypeId × Value → H} {W : World} {base : Nat} {v : Value} {d : DataW H} {ps : List MemPlace}
    (hval : Value.okWide Tryd.prog W .any base 35 v) (h : DataW.Trod enc Tryd.prog W 0 (fun _ => true) true 35 v d ps) :
    ∃ l : List Int, By W v l := by
  obtain ⟨a, len, cap, rfl⟩ := okWide_slice under22 hval
  obtain ⟨fuel, hf⟩ := h
  obtain ⟨v, l, e, h1, h2, h3⟩ := trod_list (Value.int .u8) (fun c => 0 ≤ c ∧ c ≤ 255) under22 cells5 (fun n cs x h => by
    obtain ⟨a, rfl, _, wa⟩ := DataW.trod_int under5 h
    have := bounds_u8 wa
    exact ⟨a, rfl, by omega⟩) hf
  simp [Value.cells] at e
  subst e
  exact ⟨l, h1, h2, by unfold maxLen at h3; omega⟩

set_option maxRecDepth 100000 in
theorem open_text {H : Type} {enc : TypeId × Value → H} {W : World} {base : Nat} {v : Value} {d : DataW H} {ps : List MemPlace}
    (hval : Value.okWide Tryd.prog W .any base 9 v) (h : DataW.Trod enc Tryd.prog W 0 (fun _ => true) true 9 v d ps) :
    ∃ l : List Int, v = .string (strOfNums l) ∧ (∀ c ∈ l, 0 ≤ c ∧ c ≤ 255) ∧ l.length ≤ maxLen := by
  obtain ⟨s, rfl, _, _, hm⟩ := Go.ChangeMaps.open_string under9 hval h
  refine ⟨s.data.toList.map fun u => (u.toNat : Int), ?_, ?_, by rw [List.length_map, Array.length_toList]; exact hm⟩
  · congr 1
    cases s
    simp [strOfNums, List.map_map, Function.comp_def]
  · intro c hc
    obtain ⟨u, _, rfl⟩ := List.mem_map.1 hc
    have := u.toNat_lt
    omega

end Go.Proofs.YtekkjpecdflajaaDoor

