/- Which lists of nodes are programs: plain data. The program's way (a row of unfinished nodes) and the document's (node within node) come to the same. · What follows of the document's way of checking: plain data. -/
import Derived.Test.YtlcieebneclmpaaDoorPgnk
import Derived.Test.YtlcieebneclmpaaDoorK2
set_option linter.unusedSimpArgs false
set_option linter.unusedVariables false
namespace Go.Proofs.YtlcieebneclmpaaDoor
open Go Go.RowKit

/-- What kinds of nodes have: what they stand as, the fewest and the most parts, whether they are named. -/
def shpT : List (Int × Int × Int × Int) := [(0, 0, 0, 0), (1, 0, 9223372036854775807, 0), (2, 0, 9223372036854775807, 0), (2, 1, 1, 1), (2, 2, 2, 0), (2, 2, 3, 0), (2, 2, 2, 0), (2, 0, 0, 0), (2, 0, 0, 0), (2, 0, 1, 0), (2, 1, 1, 0), (2, 2, 2, 1), (2, 1, 17, 1), (2, 1, 1, 0), (3, 0, 0, 0), (3, 0, 0, 0), (3, 0, 0, 0), (3, 0, 0, 0), (3, 0, 0, 0), (3, 0, 0, 1), (3, 0, 9223372036854775807, 0), (3, 0, 9223372036854775807, 0), (4, 1, 1, 1), (3, 2, 2, 0), (3, 2, 2, 0), (3, 2, 2, 0), (3, 1, 1, 0), (3, 1, 1, 0), (3, 1, 17, 0), (3, 2, 2, 0), (3, 1, 1, 1), (3, 1, 17, 0), (3, 1, 17, 0)]

def shpA (k : Int) : Int × Int × Int × Int := shpT.getD k.toNat (0, 0, 0, 0)

/-- May a kind stand where this is asked for? -/
def ftP (k a : Int) : Bool :=
  if k ≤ 0 ∨ 33 ≤ k then false else if a = 5 then k == 19 else if a = 6 then k == 2 else if a = 7 then k == 2 || k == 5 else if a = 8 then k == 19 || k == 29 || k == 30 else (shpA k).1 == a

/-- One of the signs between two? -/
def binP (t : List Int) : Bool := [[43], [45], [42], [47], [37], [61, 61], [33, 61], [60], [60, 61], [62], [62, 61]].any fun s => decide (strOfNums t = strOfNums s)

/-- Are a node's fields such as its kind has? -/
def wmP (n : ANode) : Bool :=
  if n.2.1 < (shpA n.1).2.1 ∨ (shpA n.1).2.2.1 < n.2.1 ∨ ((shpA n.1).2.2.2 = 1 ∧ isName n.2.2.1 = false) then false
  else if n.1 = 14 then decide (0 ≤ n.2.2.2.1) && decide (n.2.2.2.1 ≤ 2305843009213693951)
  else if n.1 = 23 then binP n.2.2.1
  else if n.1 = 12 ∨ n.1 = 31 then n.2.2.2.1 == n.2.1 - 1
  else true

/-- What is asked for as the i-th thing that a node is made of. -/
def stP (n : ANode) (i : Int) : Int :=
  if n.1 = 1 ∨ n.1 = 2 then 2 else if n.1 = 11 then 6 else if n.1 = 21 then 4 else if n.1 = 4 then (if i = 0 then 8 else 3)
  else if n.1 = 5 ∨ n.1 = 6 then (if i = 0 then 3 else if i = 1 then 6 else 7)
  else if n.1 = 12 ∨ n.1 = 31 then (if i < n.2.2.2.1 then 5 else 6) else 3

/-- What is whole is left out, from the innermost on (which stands first here). -/
def wof : List (ANode × Int) → List (ANode × Int)
  | [] => []
  | (n, c) :: st => if c = n.2.1 then wof st else (n, c) :: st

/-- The program's way. -/
def ckI : List ANode → Nat → List (ANode × Int) → Int → Int × Int
  | [], i, _, _ => ((i : Int), 6)
  | n :: r, i, st, a =>
    if ftP n.1 a = false then ((i : Int), 8) else if wmP n = false then ((i : Int), 1) else
    match wof ((n, 0) :: st) with
    | [] => if r = [] then (0, 0) else (((i + 1 : Nat) : Int), 6)
    | (m, c) :: st' => ckI r (i + 1) ((m, c + 1) :: st') (stP m c)

def ckP (l : List ANode) : Int × Int := if l = [] then (0, 6) else ckI l 0 [] 1

/-- What comes of the document's way: what is left and its place; or the fault's place and error. -/
inductive CR where
  | ok (r : List ANode) (at_ : Nat)
  | bad (p : Nat) (e : Int)

def kd (ck : List ANode → Nat → Int → CR) (n : ANode) : Nat → Int → List ANode → Nat → CR
  | 0, _, r, at_ => .ok r at_
  | k + 1, i, r, at_ => match ck r at_ (stP n i) with | .bad p e => .bad p e | .ok r' at' => kd ck n k (i + 1) r' at'

/-- The document's way. -/
def ckR : Nat → List ANode → Nat → Int → CR
  | 0, _, at_, _ => .bad at_ 0
  | f + 1, [], at_, _ => .bad at_ 6
  | f + 1, n :: r, at_, a => if ftP n.1 a = false then .bad at_ 8 else if wmP n = false then .bad at_ 1 else kd (ckR f) n n.2.1.toNat 0 r (at_ + 1)

def ckD (l : List ANode) : Int × Int :=
  if l = [] then (0, 6) else match ckR (l.length + 1) l 0 1 with | .bad p e => ((p : Int), e) | .ok r p => if r = [] then (0, 0) else ((p : Int), 6)

def CR.len (c : CR) (n at0 : Nat) : Prop := match c with | .ok r at_ => r.length + at_ = n + at0 ∧ at0 ≤ at_ | _ => True

theorem kd_len {ck : List ANode → Nat → Int → CR} (h : ∀ r at_ a, (ck r at_ a).len r.length at_) (n : ANode) : ∀ (k : Nat) (i : Int) (r : List ANode) (at_ : Nat), (kd ck n k i r at_).len r.length at_
  | 0, i, r, at_ => ⟨rfl, Nat.le_refl _⟩
  | k + 1, i, r, at_ => by
    unfold kd
    cases hc : ck r at_ (stP n i) with
    | bad p e => trivial
    | ok r' at' =>
      have h1 := h r at_ (stP n i)
      rw [hc] at h1
      have h2 := kd_len h n k (i + 1) r' at'
      dsimp only
      cases hk : kd ck n k (i + 1) r' at' with
      | bad p e => trivial
      | ok r'' at'' =>
        rw [hk] at h2
        exact ⟨h2.1.trans h1.1, Nat.le_trans h1.2 h2.2⟩

theorem ckR_len : ∀ (f : Nat) (r : List ANode) (at_ : Nat) (a : Int), (ckR f r at_ a).len r.length at_
  | 0, _, _, _ => trivial
  | f + 1, [], _, _ => trivial
  | f + 1, n :: r, at_, a => by
    unfold ckR
    split
    · trivial
    split
    · trivial
    have h := kd_len (ckR_len f) n n.2.1.toNat 0 r (at_ + 1)
    cases hk : kd (ckR f) n n.2.1.toNat 0 r (at_ + 1) with
    | bad p e => trivial
    | ok r' at' =>
      rw [hk] at h
      have := h.1
      have := h.2
      refine ⟨?_, by omega⟩
      simp
      omega

/-- What comes behind what is whole. -/
def aft (r : List ANode) (at_ : Nat) (st : List (ANode × Int)) : Int × Int :=
  match wof st with
  | [] => if r = [] then (0, 0) else ((at_ : Int), 6)
  | (m, c) :: st' => ckI r at_ ((m, c + 1) :: st') (stP m c)

def fin (c : CR) (st : List (ANode × Int)) : Int × Int := match c with | .bad p e => ((p : Int), e) | .ok r at_ => aft r at_ st

theorem kd_ok (f : Nat) (H : ∀ r at_ a st, r.length < f → ckI r at_ st a = fin (ckR f r at_ a) st) (n : ANode) (st : List (ANode × Int)) : ∀ (k : Nat) (i : Nat) (r : List ANode) (at_ : Nat), (i : Int) + k = n.2.1 → r.length < f → aft r at_ ((n, (i : Int)) :: st) = fin (kd (ckR f) n k i r at_) st
  | 0, i, r, at_, hk, hr => by
    have e : (i : Int) = n.2.1 := by omega
    unfold kd fin aft
    rw [wof, if_pos e]
  | k + 1, i, r, at_, hk, hr => by
    have e : ¬ (i : Int) = n.2.1 := by omega
    unfold aft
    rw [wof, if_neg e]
    dsimp only
    rw [H r at_ _ _ hr]
    unfold kd
    cases hc : ckR f r at_ (stP n i) with
    | bad p e => rfl
    | ok r' at' =>
      have hl := ckR_len f r at_ (stP n i)
      rw [hc] at hl
      have := hl.1
      have := hl.2
      show aft r' at' ((n, (i : Int) + 1) :: st) = _
      have ih := kd_ok f H n st k (i + 1) r' at' (by omega) (by omega)
      rw [show ((i + 1 : Nat) : Int) = (i : Int) + 1 by omega] at ih
      exact ih

theorem wm_nonneg {n : ANode} {a : Int} (hf : ftP n.1 a = true) (h : wmP n = true) : 0 ≤ n.2.1 := by
  have hk : 0 < n.1 ∧ n.1 < 33 := by
    unfold ftP at hf
    split at hf
    · cases hf
    · omega
  have hs : 0 ≤ (shpA n.1).2.1 := by
    unfold shpA
    have : ∀ i, i < 33 → 0 ≤ (shpT.getD i (0, 0, 0, 0)).2.1 := by decide
    exact this n.1.toNat (by omega)
  unfold wmP at h
  split at h
  · cases h
  · omega

theorem ckI_ok : ∀ (f : Nat) (r : List ANode) (at_ : Nat) (a : Int) (st : List (ANode × Int)), r.length < f → ckI r at_ st a = fin (ckR f r at_ a) st
  | 0, _, _, _, _, h => by omega
  | f + 1, [], at_, a, st, _ => rfl
  | f + 1, n :: r, at_, a, st, h => by
    have hr : r.length < f := by simpa using h
    unfold ckI ckR
    by_cases hf : ftP n.1 a = false
    · rw [if_pos hf, if_pos hf]; rfl
    · rw [if_neg hf, if_neg hf]
      by_cases hw : wmP n = false
      · rw [if_pos hw, if_pos hw]; rfl
      · rw [if_neg hw, if_neg hw]
        have hn := wm_nonneg (by simpa using hf) (by simpa using hw)
        have := kd_ok f (fun r at_ a st hr => ckI_ok f r at_ a st hr) n st n.2.1.toNat 0 r (at_ + 1) (by omega) hr
        exact this

theorem ck_same (l : List ANode) : ckP l = ckD l := by
  unfold ckP ckD
  by_cases hl : l = []
  · rw [if_pos hl, if_pos hl]
  · rw [if_neg hl, if_neg hl, ckI_ok (l.length + 1) l 0 1 [] (by omega)]
    cases hc : ckR (l.length + 1) l 0 1 with
    | bad p e => rfl
    | ok r p => rfl

end Go.Proofs.YtlcieebneclmpaaDoor

set_option linter.unusedSimpArgs false
set_option linter.unusedVariables false
namespace Go.Proofs.YtlcieebneclmpaaDoor
open Go Go.RowKit

theorem stP_range (n : ANode) (i : Int) : 1 ≤ stP n i ∧ stP n i ≤ 8 := by
  unfold stP
  repeat (first | split | omega)

def CR.suf (c : CR) (r : List ANode) (at0 : Nat) : Prop := match c with | .ok r' at_ => r' = r.drop (at_ - at0) ∧ at0 ≤ at_ | _ => True

theorem kd_suf {ck : List ANode → Nat → Int → CR} (h : ∀ r at_ a, (ck r at_ a).suf r at_) (n : ANode) : ∀ (k : Nat) (i : Int) (r : List ANode) (at_ : Nat), (kd ck n k i r at_).suf r at_
  | 0, i, r, at_ => ⟨by simp, Nat.le_refl _⟩
  | k + 1, i, r, at_ => by
    unfold kd
    cases hc : ck r at_ (stP n i) with
    | bad p e => trivial
    | ok r' at' =>
      have h1 := h r at_ (stP n i)
      rw [hc] at h1
      have h2 := kd_suf h n k (i + 1) r' at'
      dsimp only
      cases hk : kd ck n k (i + 1) r' at' with
      | bad p e => trivial
      | ok r'' at'' =>
        rw [hk] at h2
        obtain ⟨h1a, h1b⟩ := h1
        obtain ⟨h2a, h2b⟩ := h2
        refine ⟨?_, by omega⟩
        rw [h2a, h1a, List.drop_drop]
        congr 1
        omega

theorem ckR_suf : ∀ (f : Nat) (r : List ANode) (at_ : Nat) (a : Int), (ckR f r at_ a).suf r at_
  | 0, _, _, _ => trivial
  | f + 1, [], _, _ => trivial
  | f + 1, n :: r, at_, a => by
    unfold ckR
    split
    · trivial
    split
    · trivial
    have h := kd_suf (ckR_suf f) n n.2.1.toNat 0 r (at_ + 1)
    cases hk : kd (ckR f) n n.2.1.toNat 0 r (at_ + 1) with
    | bad p e => trivial
    | ok r' at' =>
      rw [hk] at h
      obtain ⟨h1, h2⟩ := h
      refine ⟨?_, by omega⟩
      rw [h1, show at' - at_ = (at' - (at_ + 1)) + 1 by omega, List.drop_succ_cons]

def CR.err (c : CR) : Prop := match c with | .bad p e => e = 1 ∨ e = 6 ∨ e = 8 | _ => True

theorem kd_err (f : Nat) (h : ∀ r at_ a, r.length < f → (ckR f r at_ a).err) (n : ANode) : ∀ (k : Nat) (i : Int) (r : List ANode) (at_ : Nat), r.length < f → (kd (ckR f) n k i r at_).err
  | 0, i, r, at_, _ => trivial
  | k + 1, i, r, at_, hr => by
    unfold kd
    cases hc : ckR f r at_ (stP n i) with
    | bad p e =>
      have h1 := h r at_ (stP n i) hr
      rw [hc] at h1
      exact h1
    | ok r' at' =>
      have hl := ckR_len f r at_ (stP n i)
      rw [hc] at hl
      obtain ⟨hl1, hl2⟩ := hl
      exact kd_err f h n k (i + 1) r' at' (by omega)

theorem ckR_err : ∀ (f : Nat) (r : List ANode) (at_ : Nat) (a : Int), r.length < f → (ckR f r at_ a).err
  | 0, _, _, _, h => by omega
  | f + 1, [], _, _, _ => .inr (.inl rfl)
  | f + 1, n :: r, at_, a, h => by
    have hr : r.length < f := by simpa using h
    unfold ckR
    split
    · exact .inr (.inr rfl)
    split
    · exact .inl rfl
    exact kd_err f (fun r at_ a h => ckR_err f r at_ a h) n n.2.1.toNat 0 r (at_ + 1) hr

theorem wm_facts {n : ANode} (h : wmP n = true) : (n.1 = 4 → n.2.1 ≤ 2) ∧ (n.1 = 5 → n.2.1 ≤ 3) ∧ (n.1 = 6 → n.2.1 ≤ 2) ∧ (n.1 = 12 ∨ n.1 = 31 → n.2.2.2.1 = n.2.1 - 1 ∧ n.2.1 ≤ 17) := by
  unfold wmP at h
  split at h
  · cases h
  · rename_i hh
    have h2 : n.2.1 ≤ (shpA n.1).2.2.1 := by omega
    refine ⟨fun e => ?_, fun e => ?_, fun e => ?_, fun e => ?_⟩
    · rw [e] at h2; exact h2
    · rw [e] at h2; exact h2
    · rw [e] at h2; exact h2
    · rw [if_neg (by omega), if_neg (by omega), if_pos e] at h
      refine ⟨by simpa using h, ?_⟩
      rcases e with e | e
      · rw [e] at h2; exact h2
      · rw [e] at h2; exact h2

end Go.Proofs.YtlcieebneclmpaaDoor

