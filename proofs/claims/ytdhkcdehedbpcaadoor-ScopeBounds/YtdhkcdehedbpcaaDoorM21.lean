/- The place behind a node: the program's and the document's calls. · Which lists of nodes are programs: plain data. The program's way (a row of unfinished nodes) and the document's (node within node) come to the same. · The tree of a list that is a program: plain data. Nothing of the program's functions is in it. -/
import Derived.Test.YtdhkcdehedbpcaaDoorM1
import Derived.Test.YtdhkcdehedbpcaaDoorM5
import Derived.Test.YtdhkcdehedbpcaaDoorM2
import Derived.Test.YtdhkcdehedbpcaaDoorM20
set_option linter.unusedSimpArgs false
set_option linter.unusedVariables false
namespace Go.Proofs.YtdhkcdehedbpcaaDoor
open Go Go.RowKit

/-- A list of nodes that was handed in: what its nodes are made of can be read. -/
structure NM (w : World) (g off : Nat) (L : List ANode) : Prop where
  lt : g < w.heap.size
  c : ∀ i (hi : i < L.length), w.cell? ⟨g, off + i * 5 + 1, none⟩ = some (.int .i64 L[i].2.1)
  b : ∀ i (hi : i < L.length), -9223372036854775808 ≤ L[i].2.1 ∧ L[i].2.1 ≤ 9223372036854775807

/-- What both answer. -/
def bhV (L : List ANode) (at_ : Int) : Int × Int :=
  if at_ < 0 ∨ (L.length : Int) ≤ at_ then (0, 1) else match bhP L at_.toNat with | some k => ((k : Int), 0) | none => (0, 6)

theorem kids_drop {L : List ANode} {a : Nat} (h : a < L.length) : (kidsN L).drop a = L[a].2.1.toNat :: (kidsN L).drop (a + 1) := by
  unfold kidsN
  rw [List.drop_eq_getElem_cons (by simpa using h)]
  simp

set_option maxRecDepth 100000 in
set_option maxHeartbeats 4000000 in
theorem behind_any (g off cap : Nat) (L : List ANode) (hl : L.length ≤ 1000) (at_ : Int) (ha : -9223372036854775808 ≤ at_ ∧ at_ ≤ 9223372036854775807) (w : World) (h : L.length = 0 ∨ NM w g off L) :
    Calls Tryd.prog 75 #[.slice (some ⟨g, off, none⟩) L.length cap, .int .i64 at_] w fun e w' => e = .returned (.tuple #[.int .i64 (bhV L at_).1, .int .i64 (bhV L at_).2]) ∧ w' = w := by
  by_cases h0 : at_ < 0 ∨ (L.length : Int) ≤ at_
  · rw [show bhV L at_ = (0, 1) from if_pos h0]
    by_cases h1 : at_ < 0
    · clear h h0 ha hl
      go_enter Tryd.func75, Tryd.ntmps75
      go_wp2
      all_goals go_ret2
      all_goals exact ⟨rfl, rfl⟩
    · have h2 : (L.length : Int) ≤ at_ := by omega
      clear h h0 ha hl
      go_enter Tryd.func75, Tryd.ntmps75
      go_wp2
      all_goals go_ret2
      all_goals exact ⟨rfl, rfl⟩
  · obtain ⟨a0, rfl⟩ : ∃ a : Nat, at_ = (a : Int) := ⟨at_.toNat, by omega⟩
    have hv : bhV L (a0 : Int) = match (cns ((kidsN L).drop a0) 1).map (a0 + ·) with | some k => ((k : Int), 0) | none => (0, 6) := by
      unfold bhV
      rw [if_neg h0]
      simp [bhP]
    rw [hv]
    generalize hR : (cns ((kidsN L).drop a0) 1).map (a0 + ·) = R
    have HR := hid hR
    have hlt0 : a0 < L.length := by omega
    have HN := hid (h.resolve_left (by omega))
    have ha1 : (0 : Int) ≤ (a0 : Int) := by omega
    have ha2 : (a0 : Int) < (L.length : Int) := by omega
    clear hv h h0 ha hR
    go_enter Tryd.func75, Tryd.ntmps75
    go_wp2
    go_loopw [1, 6] (fun u v wr => ∃ a d : Nat, u = .int .i64 (a : Int) ∧ v = .int .i64 (d : Int) ∧ a + d ≤ L.length ∧ (cns ((kidsN L).drop a) d).map (a + ·) = R ∧ wr = w) (fun u _ _ => L.length - (intOf u).toNat)
    case atStart => exact ⟨a0, 1, rfl, rfl, by omega, HR.out, rfl⟩
    case round =>
      clear HR ha1 ha2 hlt0
      obtain ⟨a, d, rfl, rfl, hle, hr, hwr⟩ := hrel
      subst hwr
      have HR := hid hr
      clear hr
      cases d with
      | zero =>
        have e : R = some a := by rw [← HR.out]; cases (kidsN L).drop a <;> simp [cns]
        subst e
        go_wp2
        all_goals go_ret2
        all_goals exact ⟨rfl, rfl⟩
      | succ d =>
        have hlt : a < L.length := by omega
        have b1 : (0 : Int) ≤ (a : Int) := by omega
        have b2 : (a : Int) < (L.length : Int) := by omega
        have c1 := HN.out.c a hlt
        have c2 := HN.out.lt
        have c3 := HN.out.b a hlt
        have hk := kids_drop hlt
        have HRk := HR.out
        rw [hk, cns] at HRk
        have HB := hid (cns_le ((kidsN L).drop (a + 1)) (d + L[a].2.1.toNat))
        have hdl : ((kidsN L).drop (a + 1)).length = L.length - (a + 1) := by simp [kidsN]
        have HDL := hid hdl
        have HRK := hid HRk
        clear hk HRk hdl
        generalize hN : L[a].2.1 = N at c1 c3 HB HRK
        clear hN
        by_cases hgt : (L.length : Int) - (a : Int) - ((d : Int) + 1) < N
        · have e : R = none := by
            rw [← HRK.out]
            cases hc : cns ((kidsN L).drop (a + 1)) (d + N.toNat) with
            | none => rfl
            | some m =>
              have q := HB.out m hc
              have q2 := HDL.out
              omega
          subst e
          clear HRK HB HDL HR
          go_wp2
          all_goals go_ret2
          all_goals exact ⟨rfl, rfl⟩
        · have hle2 : N ≤ (L.length : Int) - (a : Int) - ((d : Int) + 1) := by omega
          clear hgt HB HDL HR
          go_wp2
          case roundEnd =>
            refine ⟨⟨a + 1, d + N.toNat, by rw [Int.natCast_add]; rfl, ?_, by omega, ?_, trivial⟩, ?_⟩
            · congr 1
              split <;> omega
            · rw [← HRK.out]
              cases cns ((kidsN L).drop (a + 1)) (d + N.toNat) <;> simp <;> omega
            · simp only [intOf]
              omega

end Go.Proofs.YtdhkcdehedbpcaaDoor

set_option linter.unusedSimpArgs false
set_option linter.unusedVariables false
namespace Go.Proofs.YtdhkcdehedbpcaaDoor
open Go Go.RowKit

/-- What kinds of nodes have: what they stand as, the fewest and the most parts, whether they are named. -/
def shpT : List (Int × Int × Int × Int) := [(0, 0, 0, 0), (1, 0, 9223372036854775807, 0), (2, 0, 9223372036854775807, 0), (2, 1, 1, 1), (2, 2, 2, 0), (2, 2, 3, 0), (2, 2, 2, 0), (2, 0, 0, 0), (2, 0, 0, 0), (2, 0, 1, 0), (2, 1, 1, 0), (2, 2, 2, 1), (2, 1, 17, 1), (2, 1, 1, 0), (3, 0, 0, 0), (3, 0, 0, 0), (3, 0, 0, 0), (3, 0, 0, 0), (3, 0, 0, 0), (3, 0, 0, 1), (3, 0, 9223372036854775807, 0), (3, 0, 9223372036854775807, 0), (4, 1, 1, 1), (3, 2, 2, 0), (3, 2, 2, 0), (3, 2, 2, 0), (3, 1, 1, 0), (3, 1, 1, 0), (3, 1, 17, 0), (3, 2, 2, 0), (3, 1, 1, 1), (3, 1, 17, 0), (3, 1, 17, 0)]

def shpA (k : Int) : Int × Int × Int × Int := shpT.getD k.toNat (0, 0, 0, 0)

/-- May a kind stand where this is asked for? -/
def ftP (k a : Int) : Bool :=
  if k ≤ 0 ∨ 33 ≤ k then false else if a = 5 then k == 19 else if a = 6 then k == 2 else if a = 7 then k == 2 || k == 5 else if a = 8 then k == 19 || k == 29 || k == 30 else (shpA k).1 == a

/-- One of the signs between two? -/
def binP (t : List Int) : Bool := [[43], [45], [42], [47], [37], [61, 61], [33, 61], [60], [60, 61], [62], [62, 61]].any fun s => decide (strOfNums t = strOfNums s)

/-- Are a node's fields such as its kind has? -/
def wmP (n : ANode) : Bool :=
  if n.2.1 < (shpA n.1).2.1 ∨ (shpA n.1).2.2.1 < n.2.1 ∨ ((shpA n.1).2.2.2 = 1 ∧ isName n.2.2.1 = false) then false
  else if n.1 = 14 then decide (0 ≤ n.2.2.2.1) && decide (n.2.2.2.1 ≤ 2305843009213693951)
  else if n.1 = 23 then binP n.2.2.1
  else if n.1 = 12 ∨ n.1 = 31 then n.2.2.2.1 == n.2.1 - 1
  else true

/-- What is asked for as the i-th thing that a node is made of. -/
def stP (n : ANode) (i : Int) : Int :=
  if n.1 = 1 ∨ n.1 = 2 then 2 else if n.1 = 11 then 6 else if n.1 = 21 then 4 else if n.1 = 4 then (if i = 0 then 8 else 3)
  else if n.1 = 5 ∨ n.1 = 6 then (if i = 0 then 3 else if i = 1 then 6 else 7)
  else if n.1 = 12 ∨ n.1 = 31 then (if i < n.2.2.2.1 then 5 else 6) else 3

/-- What is whole is left out, from the innermost on (which stands first here). -/
def wof : List (ANode × Int) → List (ANode × Int)
  | [] => []
  | (n, c) :: st => if c = n.2.1 then wof st else (n, c) :: st

/-- The program's way. -/
def ckI : List ANode → Nat → List (ANode × Int) → Int → Int × Int
  | [], i, _, _ => ((i : Int), 6)
  | n :: r, i, st, a =>
    if ftP n.1 a = false then ((i : Int), 8) else if wmP n = false then ((i : Int), 1) else
    match wof ((n, 0) :: st) with
    | [] => if r = [] then (0, 0) else (((i + 1 : Nat) : Int), 6)
    | (m, c) :: st' => ckI r (i + 1) ((m, c + 1) :: st') (stP m c)

def ckP (l : List ANode) : Int × Int := if l = [] then (0, 6) else ckI l 0 [] 1

/-- What comes of the document's way: what is left and its place; or the fault's place and error. -/
inductive CR where
  | ok (r : List ANode) (at_ : Nat)
  | bad (p : Nat) (e : Int)

def kd (ck : List ANode → Nat → Int → CR) (n : ANode) : Nat → Int → List ANode → Nat → CR
  | 0, _, r, at_ => .ok r at_
  | k + 1, i, r, at_ => match ck r at_ (stP n i) with | .bad p e => .bad p e | .ok r' at' => kd ck n k (i + 1) r' at'

/-- The document's way. -/
def ckR : Nat → List ANode → Nat → Int → CR
  | 0, _, at_, _ => .bad at_ 0
  | f + 1, [], at_, _ => .bad at_ 6
  | f + 1, n :: r, at_, a => if ftP n.1 a = false then .bad at_ 8 else if wmP n = false then .bad at_ 1 else kd (ckR f) n n.2.1.toNat 0 r (at_ + 1)

def ckD (l : List ANode) : Int × Int :=
  if l = [] then (0, 6) else match ckR (l.length + 1) l 0 1 with | .bad p e => ((p : Int), e) | .ok r p => if r = [] then (0, 0) else ((p : Int), 6)

def CR.len (c : CR) (n at0 : Nat) : Prop := match c with | .ok r at_ => r.length + at_ = n + at0 ∧ at0 ≤ at_ | _ => True

theorem kd_len {ck : List ANode → Nat → Int → CR} (h : ∀ r at_ a, (ck r at_ a).len r.length at_) (n : ANode) : ∀ (k : Nat) (i : Int) (r : List ANode) (at_ : Nat), (kd ck n k i r at_).len r.length at_
  | 0, i, r, at_ => ⟨rfl, Nat.le_refl _⟩
  | k + 1, i, r, at_ => by
    unfold kd
    cases hc : ck r at_ (stP n i) with
    | bad p e => trivial
    | ok r' at' =>
      have h1 := h r at_ (stP n i)
      rw [hc] at h1
      have h2 := kd_len h n k (i + 1) r' at'
      dsimp only
      cases hk : kd ck n k (i + 1) r' at' with
      | bad p e => trivial
      | ok r'' at'' =>
        rw [hk] at h2
        exact ⟨h2.1.trans h1.1, Nat.le_trans h1.2 h2.2⟩

theorem ckR_len : ∀ (f : Nat) (r : List ANode) (at_ : Nat) (a : Int), (ckR f r at_ a).len r.length at_
  | 0, _, _, _ => trivial
  | f + 1, [], _, _ => trivial
  | f + 1, n :: r, at_, a => by
    unfold ckR
    split
    · trivial
    split
    · trivial
    have h := kd_len (ckR_len f) n n.2.1.toNat 0 r (at_ + 1)
    cases hk : kd (ckR f) n n.2.1.toNat 0 r (at_ + 1) with
    | bad p e => trivial
    | ok r' at' =>
      rw [hk] at h
      have := h.1
      have := h.2
      refine ⟨?_, by omega⟩
      simp
      omega

/-- What comes behind what is whole. -/
def aft (r : List ANode) (at_ : Nat) (st : List (ANode × Int)) : Int × Int :=
  match wof st with
  | [] => if r = [] then (0, 0) else ((at_ : Int), 6)
  | (m, c) :: st' => ckI r at_ ((m, c + 1) :: st') (stP m c)

def fin (c : CR) (st : List (ANode × Int)) : Int × Int := match c with | .bad p e => ((p : Int), e) | .ok r at_ => aft r at_ st

theorem kd_ok (f : Nat) (H : ∀ r at_ a st, r.length < f → ckI r at_ st a = fin (ckR f r at_ a) st) (n : ANode) (st : List (ANode × Int)) : ∀ (k : Nat) (i : Nat) (r : List ANode) (at_ : Nat), (i : Int) + k = n.2.1 → r.length < f → aft r at_ ((n, (i : Int)) :: st) = fin (kd (ckR f) n k i r at_) st
  | 0, i, r, at_, hk, hr => by
    have e : (i : Int) = n.2.1 := by omega
    unfold kd fin aft
    rw [wof, if_pos e]
  | k + 1, i, r, at_, hk, hr => by
    have e : ¬ (i : Int) = n.2.1 := by omega
    unfold aft
    rw [wof, if_neg e]
    dsimp only
    rw [H r at_ _ _ hr]
    unfold kd
    cases hc : ckR f r at_ (stP n i) with
    | bad p e => rfl
    | ok r' at' =>
      have hl := ckR_len f r at_ (stP n i)
      rw [hc] at hl
      have := hl.1
      have := hl.2
      show aft r' at' ((n, (i : Int) + 1) :: st) = _
      have ih := kd_ok f H n st k (i + 1) r' at' (by omega) (by omega)
      rw [show ((i + 1 : Nat) : Int) = (i : Int) + 1 by omega] at ih
      exact ih

theorem wm_nonneg {n : ANode} {a : Int} (hf : ftP n.1 a = true) (h : wmP n = true) : 0 ≤ n.2.1 := by
  have hk : 0 < n.1 ∧ n.1 < 33 := by
    unfold ftP at hf
    split at hf
    · cases hf
    · omega
  have hs : 0 ≤ (shpA n.1).2.1 := by
    unfold shpA
    have : ∀ i, i < 33 → 0 ≤ (shpT.getD i (0, 0, 0, 0)).2.1 := by decide
    exact this n.1.toNat (by omega)
  unfold wmP at h
  split at h
  · cases h
  · omega

theorem ckI_ok : ∀ (f : Nat) (r : List ANode) (at_ : Nat) (a : Int) (st : List (ANode × Int)), r.length < f → ckI r at_ st a = fin (ckR f r at_ a) st
  | 0, _, _, _, _, h => by omega
  | f + 1, [], at_, a, st, _ => rfl
  | f + 1, n :: r, at_, a, st, h => by
    have hr : r.length < f := by simpa using h
    unfold ckI ckR
    by_cases hf : ftP n.1 a = false
    · rw [if_pos hf, if_pos hf]; rfl
    · rw [if_neg hf, if_neg hf]
      by_cases hw : wmP n = false
      · rw [if_pos hw, if_pos hw]; rfl
      · rw [if_neg hw, if_neg hw]
        have hn := wm_nonneg (by simpa using hf) (by simpa using hw)
        have := kd_ok f (fun r at_ a st hr => ckI_ok f r at_ a st hr) n st n.2.1.toNat 0 r (at_ + 1) (by omega) hr
        exact this

theorem ck_same (l : List ANode) : ckP l = ckD l := by
  unfold ckP ckD
  by_cases hl : l = []
  · rw [if_pos hl, if_pos hl]
  · rw [if_neg hl, if_neg hl, ckI_ok (l.length + 1) l 0 1 [] (by omega)]
    cases hc : ckR (l.length + 1) l 0 1 with
    | bad p e => rfl
    | ok r p => rfl

end Go.Proofs.YtdhkcdehedbpcaaDoor

set_option linter.unusedSimpArgs false
set_option linter.unusedVariables false
namespace Go.Proofs.YtdhkcdehedbpcaaDoor
open Go Go.RowKit

section
variable (L : List ANode)

def kb (g : Int → Nat → Option Nat) (n : ANode) : Nat → Int → Nat → Option Nat
  | 0, _, p => some p
  | k + 1, x, p => (g (stP n x) p).bind fun q => kb g n k (x + 1) q
/-- The place behind what stands at a place, if it is what is asked for. -/
def sb : Nat → Int → Nat → Option Nat
  | 0, _, _ => none
  | f + 1, a, i => if i < L.length ∧ ftP (zN L i).1 a = true ∧ wmP (zN L i) = true then kb (sb f) (zN L i) (zN L i).2.1.toNat 0 (i + 1) else none
/-- At i stands what is asked for, up to j. -/
def Tr (a : Int) (i j : Nat) : Prop := ∃ f, sb L f a i = some j
/-- One behind the other. -/
def Fo : List Int → Nat → Nat → Prop
  | [], p, q => p = q
  | a :: es, p, q => ∃ r, Tr L a p r ∧ Fo es r q
end
/-- What a node asks for, from its x-th part on. -/
def kidsA (n : ANode) : Nat → Int → List Int
  | 0, _ => []
  | k + 1, x => stP n x :: kidsA n k (x + 1)
theorem kidsA_len (n : ANode) : ∀ (k : Nat) (x : Int), (kidsA n k x).length = k
  | 0, _ => rfl
  | k + 1, x => by simp [kidsA, kidsA_len n k (x + 1)]

section
variable {L : List ANode}
theorem kb_fo (f : Nat) (n : ANode) : ∀ (k : Nat) (x : Int) (p q : Nat), kb (sb L f) n k x p = some q → Fo L (kidsA n k x) p q
  | 0, x, p, q, h => by cases h; rfl
  | k + 1, x, p, q, h => by
    unfold kb at h
    obtain ⟨r, h1, h2⟩ := Option.bind_eq_some_iff.1 h
    exact ⟨r, ⟨f, h1⟩, kb_fo f n k (x + 1) r q h2⟩

theorem Tr.out {a : Int} {i j : Nat} (h : Tr L a i j) : i < L.length ∧ ftP (zN L i).1 a = true ∧ wmP (zN L i) = true ∧ Fo L (kidsA (zN L i) (zN L i).2.1.toNat 0) (i + 1) j := by
  obtain ⟨f, hf⟩ := h
  cases f with
  | zero => cases hf
  | succ f =>
    unfold sb at hf
    split at hf
    · next c => exact ⟨c.1, c.2.1, c.2.2, kb_fo f _ _ _ _ _ hf⟩
    · cases hf

theorem sb_le : ∀ (f : Nat) (a : Int) (i j : Nat), sb L f a i = some j → i < j ∧ j ≤ L.length
  | 0, a, i, j, h => by cases h
  | f + 1, a, i, j, h => by
    unfold sb at h
    split at h
    · next c =>
      have key : ∀ (k : Nat) (x : Int) (p q : Nat), p ≤ L.length → kb (sb L f) (zN L i) k x p = some q → p ≤ q ∧ q ≤ L.length := by
        intro k
        induction k with
        | zero => intro x p q hp h; cases h; exact ⟨Nat.le_refl _, hp⟩
        | succ k ih =>
          intro x p q hp h
          unfold kb at h
          obtain ⟨r, h1, h2⟩ := Option.bind_eq_some_iff.1 h
          have h3 := sb_le f _ _ _ h1
          have h4 := ih _ _ _ h3.2 h2
          omega
      have := key _ _ _ _ (by omega) h
      omega
    · cases h
theorem Tr.lt {a : Int} {i j : Nat} (h : Tr L a i j) : i < j ∧ j ≤ L.length := by obtain ⟨f, hf⟩ := h; exact sb_le f _ _ _ hf
theorem Fo.le : ∀ {es : List Int} {p q : Nat}, Fo L es p q → p + es.length ≤ q
  | [], p, q, h => by have : p = q := h; simp; omega
  | a :: es, p, q, h => by
    obtain ⟨r, h1, h2⟩ := h
    have := h1.lt
    have := h2.le
    simp; omega
theorem Fo.top : ∀ {es : List Int} {p q : Nat}, Fo L es p q → p ≤ L.length → q ≤ L.length
  | [], p, q, h, hp => by have : p = q := h; omega
  | a :: es, p, q, h, hp => by
    obtain ⟨r, h1, h2⟩ := h
    exact h2.top h1.lt.2
theorem Fo.app : ∀ {es bs : List Int} {p r q : Nat}, Fo L es p r → Fo L bs r q → Fo L (es ++ bs) p q
  | [], bs, p, r, q, h1, h2 => by have : p = r := h1; subst this; exact h2
  | a :: es, bs, p, r, q, h1, h2 => by
    obtain ⟨s, h3, h4⟩ := h1
    exact ⟨s, h3, h4.app h2⟩
theorem Fo.step {a : Int} {es : List Int} {p q : Nat} (h : Fo L (a :: es) p q) : p < L.length ∧ ftP (zN L p).1 a = true ∧ wmP (zN L p) = true ∧ Fo L (kidsA (zN L p) (zN L p).2.1.toNat 0 ++ es) (p + 1) q := by
  obtain ⟨r, h1, h2⟩ := h
  obtain ⟨e1, e2, e3, e4⟩ := h1.out
  exact ⟨e1, e2, e3, e4.app h2⟩
theorem Fo.one {a : Int} {p q : Nat} (h : Tr L a p q) : Fo L [a] p q := ⟨q, h, rfl⟩

/-- The document's way of checking finds a tree. -/
theorem ckR_sb : ∀ (f : Nat) (i : Nat) (a : Int) (r : List ANode) (j : Nat), ckR f (L.drop i) i a = .ok r j → sb L f a i = some j ∧ r = L.drop j
  | 0, i, a, r, j, h => by cases h
  | f + 1, i, a, r, j, h => by
    cases hd : L.drop i with
    | nil => rw [hd] at h; cases h
    | cons n t =>
      have hi : i < L.length := by
        rcases Nat.lt_or_ge i L.length with h1 | h1
        · exact h1
        · rw [List.drop_eq_nil_of_le h1] at hd; cases hd
      have hn : zN L i = n := by
        have := List.drop_eq_getElem_cons hi
        rw [hd] at this
        injection this with h1 h2
        unfold zN
        rw [List.getD_eq_getElem?_getD, List.getElem?_eq_getElem hi, h1]; rfl
      have ht : t = L.drop (i + 1) := by
        have := List.drop_eq_getElem_cons hi
        rw [hd] at this
        injection this
      rw [hd] at h
      unfold ckR at h
      split at h
      · cases h
      split at h
      · cases h
      next h1 h2 =>
      have h1 : ftP n.1 a = true := by simpa using h1
      have h2 : wmP n = true := by simpa using h2
      have key : ∀ (k : Nat) (x : Int) (p : Nat) (r : List ANode) (j : Nat), kd (ckR f) n k x (L.drop p) p = .ok r j → kb (sb L f) n k x p = some j ∧ r = L.drop j := by
        intro k
        induction k with
        | zero => intro x p r j h; unfold kd at h; injection h with e1 e2; subst e2; exact ⟨rfl, e1.symm⟩
        | succ k ih =>
          intro x p r j h
          unfold kd at h
          cases hc : ckR f (L.drop p) p (stP n x) with
          | bad p e => rw [hc] at h; cases h
          | ok r' at' =>
            rw [hc] at h
            obtain ⟨e1, e2⟩ := ckR_sb f p _ r' at' hc
            subst e2
            obtain ⟨e3, e4⟩ := ih _ _ _ _ h
            refine ⟨?_, e4⟩
            unfold kb
            rw [e1]
            exact e3
      rw [ht] at h
      obtain ⟨e1, e2⟩ := key _ _ _ _ _ h
      refine ⟨?_, e2⟩
      unfold sb
      rw [hn, if_pos ⟨hi, h1, h2⟩]
      exact e1

/-- What passes the check is one tree. -/
theorem tree_of (h : (ckP L).2 = 0) : Tr L 1 0 L.length := by
  rw [ck_same] at h
  unfold ckD at h
  split at h
  · cases h
  · cases hc : ckR (L.length + 1) L 0 1 with
    | bad p e =>
      rw [hc] at h
      exfalso
      revert h hc
      have key : ∀ (f : Nat) (r : List ANode) (i : Nat) (a : Int), r.length < f → ∀ p, ckR f r i a ≠ .bad p 0 := by
        intro f
        induction f with
        | zero => intro r i a h; omega
        | succ f ih =>
          intro r i a hl p
          cases r with
          | nil => unfold ckR; intro h; cases h
          | cons n r =>
            unfold ckR
            split
            · intro h; cases h
            split
            · intro h; cases h
            have kk : ∀ (k : Nat) (x : Int) (r : List ANode) (i : Nat), r.length < f → kd (ckR f) n k x r i ≠ .bad p 0 := by
              intro k
              induction k with
              | zero => intro x r i _ h; unfold kd at h; cases h
              | succ k ihk =>
                intro x r i hr
                unfold kd
                cases hc : ckR f r i (stP n x) with
                | bad p' e' => intro h; injection h with e1 e2; subst e1 e2; exact ih _ _ _ hr _ hc
                | ok r' at' =>
                  have hl := ckR_len f r i (stP n x)
                  rw [hc] at hl
                  have := hl.1
                  have := hl.2
                  exact ihk _ _ _ (by omega)
            exact kk _ _ _ _ (by simp at hl; omega)
      intro h hc
      have h : e = 0 := h
      subst h
      exact key _ _ _ _ (by omega) _ hc
    | ok r p =>
      rw [hc] at h
      have hc' : ckR (L.length + 1) (L.drop 0) 0 1 = .ok r p := by simpa using hc
      obtain ⟨e1, e2⟩ := ckR_sb _ _ _ _ _ hc'
      refine ⟨L.length + 1, ?_⟩
      rw [e1]
      have hp := sb_le _ _ _ _ e1
      have : r = [] := by
        by_cases hr : r = []
        · exact hr
        · simp only [hr, if_false] at h; cases h
      rw [this] at e2
      have h5 := congrArg List.length e2
      simp at h5
      congr 1
      omega

/-- Nodes that are gone over. -/
theorem Fo.cns : ∀ (N : Nat) {es : List Int} {p q : Nat}, q - p ≤ N → Fo L es p q → Go.Proofs.YtdhkcdehedbpcaaDoor.cns ((kidsN L).drop p) es.length = some (q - p)
  | N, [], p, q, hN, h => by have : p = q := h; subst this; simp [Go.Proofs.YtdhkcdehedbpcaaDoor.cns]
  | 0, a :: es, p, q, hN, h => by have := h.le; simp at this; omega
  | N + 1, a :: es, p, q, hN, h => by
    have hle := h.le
    simp at hle
    obtain ⟨h1, h2, h3, h4⟩ := h.step
    have hk := kids_drop h1
    have ih := Fo.cns N (by omega) h4
    have hz : L[p] = zN L p := by unfold zN; rw [List.getD_eq_getElem?_getD, List.getElem?_eq_getElem h1]; rfl
    rw [hk, List.length_cons, Go.Proofs.YtdhkcdehedbpcaaDoor.cns, hz]
    rw [List.length_append, kidsA_len, Nat.add_comm _ es.length] at ih
    rw [ih]
    simp
    omega
theorem Tr.behind {a : Int} {i j : Nat} (h : Tr L a i j) : bhV L i = ((j : Int), 0) := by
  have hl := h.lt
  have h1 := Fo.cns _ (Nat.le_refl _) (Fo.one h)
  unfold bhV bhP
  simp only [List.length_cons, List.length_nil, Nat.zero_add] at h1
  rw [if_neg (by omega), Int.toNat_natCast, h1]
  simp
  omega
end
end Go.Proofs.YtdhkcdehedbpcaaDoor

