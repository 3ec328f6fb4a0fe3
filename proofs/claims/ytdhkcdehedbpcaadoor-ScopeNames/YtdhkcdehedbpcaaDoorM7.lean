/- Which lists of nodes are programs: plain data. The program's way (a row of unfinished nodes) and the document's (node within node) come to the same. · fits, isBinary, wellMade, step, checkEnd: contracts. · How the statements' frames are opened: the table of signs out of the condition; lists of bytes; texts. · What follows of the document's way of checking: plain data. -/
import Derived.Test.YtdhkcdehedbpcaaDoorM6
import Derived.Test.YtdhkcdehedbpcaaDoorM2
import Derived.Test.YtdhkcdehedbpcaaDoorM5
import Derived.Test.YtdhkcdehedbpcaaDoorTie
import Derived.Test.YtdhkcdehedbpcaaDoorCards
import Derived.ProofKit
import Derived.LaidMore
import Derived.OpenShut
import Derived.ShutString
import Derived.ChangeOld
import Derived.Below
import Derived.SevenTiedAt
set_option linter.unusedSimpArgs false
set_option linter.unusedVariables false
namespace Go.Proofs.YtdhkcdehedbpcaaDoor
open Go Go.RowKit

def shpT : List (Int × Int × Int × Int) := [(0, 0, 0, 0), (1, 0, 9223372036854775807, 0), (2, 0, 9223372036854775807, 0), (2, 1, 1, 1), (2, 2, 2, 0), (2, 2, 3, 0), (2, 2, 2, 0), (2, 0, 0, 0), (2, 0, 0, 0), (2, 0, 1, 0), (2, 1, 1, 0), (2, 2, 2, 1), (2, 1, 17, 1), (2, 1, 1, 0), (3, 0, 0, 0), (3, 0, 0, 0), (3, 0, 0, 0), (3, 0, 0, 0), (3, 0, 0, 0), (3, 0, 0, 1), (3, 0, 9223372036854775807, 0), (3, 0, 9223372036854775807, 0), (4, 1, 1, 1), (3, 2, 2, 0), (3, 2, 2, 0), (3, 2, 2, 0), (3, 1, 1, 0), (3, 1, 1, 0), (3, 1, 17, 0), (3, 2, 2, 0), (3, 1, 1, 1), (3, 1, 17, 0), (3, 1, 17, 0)]

def shpA (k : Int) : Int × Int × Int × Int := shpT.getD k.toNat (0, 0, 0, 0)

def ftP (k a : Int) : Bool :=
 if k ≤ 0 ∨ 33 ≤ k then false else if a = 5 then k == 19 else if a = 6 then k == 2 else if a = 7 then k == 2 || k == 5 else if a = 8 then k == 19 || k == 29 || k == 30 else (shpA k).1 == a

def binP (t : List Int) : Bool := [[43], [45], [42], [47], [37], [61, 61], [33, 61], [60], [60, 61], [62], [62, 61]].any fun s => decide (strOfNums t = strOfNums s)

def wmP (n : ANode) : Bool :=
 if n.2.1 < (shpA n.1).2.1 ∨ (shpA n.1).2.2.1 < n.2.1 ∨ ((shpA n.1).2.2.2 = 1 ∧ isName n.2.2.1 = false) then false
 else if n.1 = 14 then decide (0 ≤ n.2.2.2.1) && decide (n.2.2.2.1 ≤ 2305843009213693951)
 else if n.1 = 23 then binP n.2.2.1
 else if n.1 = 12 ∨ n.1 = 31 then n.2.2.2.1 == n.2.1 - 1
 else true

def stP (n : ANode) (i : Int) : Int :=
 if n.1 = 1 ∨ n.1 = 2 then 2 else if n.1 = 11 then 6 else if n.1 = 21 then 4 else if n.1 = 4 then (if i = 0 then 8 else 3)
 else if n.1 = 5 ∨ n.1 = 6 then (if i = 0 then 3 else if i = 1 then 6 else 7)
 else if n.1 = 12 ∨ n.1 = 31 then (if i < n.2.2.2.1 then 5 else 6) else 3

def wof : List (ANode × Int) → List (ANode × Int)
 | [] => []
 | (n, c) :: st => if c = n.2.1 then wof st else (n, c) :: st

def ckI : List ANode → Nat → List (ANode × Int) → Int → Int × Int
 | [], i, _, _ => ((i : Int), 6)
 | n :: r, i, st, a =>
  if ftP n.1 a = false then ((i : Int), 8) else if wmP n = false then ((i : Int), 1) else
  match wof ((n, 0) :: st) with
  | [] => if r = [] then (0, 0) else (((i + 1 : Nat) : Int), 6)
  | (m, c) :: st' => ckI r (i + 1) ((m, c + 1) :: st') (stP m c)

def ckP (l : List ANode) : Int × Int := if l = [] then (0, 6) else ckI l 0 [] 1

inductive CR where
 | ok (r : List ANode) (at_ : Nat)
 | bad (p : Nat) (e : Int)

def kd (ck : List ANode → Nat → Int → CR) (n : ANode) : Nat → Int → List ANode → Nat → CR
 | 0, _, r, at_ => .ok r at_
 | k + 1, i, r, at_ => match ck r at_ (stP n i) with | .bad p e => .bad p e | .ok r' at' => kd ck n k (i + 1) r' at'

def ckR : Nat → List ANode → Nat → Int → CR
 | 0, _, at_, _ => .bad at_ 0
 | f + 1, [], at_, _ => .bad at_ 6
 | f + 1, n :: r, at_, a => if ftP n.1 a = false then .bad at_ 8 else if wmP n = false then .bad at_ 1 else kd (ckR f) n n.2.1.toNat 0 r (at_ + 1)

def ckD (l : List ANode) : Int × Int :=
 if l = [] then (0, 6) else match ckR (l.length + 1) l 0 1 with | .bad p e => ((p : Int), e) | .ok r p => if r = [] then (0, 0) else ((p : Int), 6)

def CR.len (c : CR) (n at0 : Nat) : Prop := match c with | .ok r at_ => r.length + at_ = n + at0 ∧ at0 ≤ at_ | _ => True

theorem kd_len {ck : List ANode → Nat → Int → CR} (h : ∀ r at_ a, (ck r at_ a).len r.length at_) (n : ANode) : ∀ (k : Nat) (i : Int) (r : List ANode) (at_ : Nat), (kd ck n k i r at_).len r.length at_
 | 0, i, r, at_ => ⟨rfl, Nat.le_refl _⟩
 | k + 1, i, r, at_ => by
  unfold kd
  cases hc : ck r at_ (stP n i) with
  | bad p e => trivial
  | ok r' at' =>
   have h1 := h r at_ (stP n i)
   rw [hc] at h1
   have h2 := kd_len h n k (i + 1) r' at'
   dsimp only
   cases hk : kd ck n k (i + 1) r' at' with
   | bad p e => trivial
   | ok r'' at'' =>
    rw [hk] at h2
    exact ⟨h2.1.trans h1.1, Nat.le_trans h1.2 h2.2⟩

theorem ckR_len : ∀ (f : Nat) (r : List ANode) (at_ : Nat) (a : Int), (ckR f r at_ a).len r.length at_
 | 0, _, _, _ => trivial
 | f + 1, [], _, _ => trivial
 | f + 1, n :: r, at_, a => by
  unfold ckR
  split
  ·trivial
  split
  ·trivial
  have h := kd_len (ckR_len f) n n.2.1.toNat 0 r (at_ + 1)
  cases hk : kd (ckR f) n n.2.1.toNat 0 r (at_ + 1) with
  | bad p e => trivial
  | ok r' at' =>
   rw [hk] at h
   have := h.1
   have := h.2
   refine ⟨?_, by omega⟩
   simp
   omega

def aft (r : List ANode) (at_ : Nat) (st : List (ANode × Int)) : Int × Int :=
 match wof st with
 | [] => if r = [] then (0, 0) else ((at_ : Int), 6)
 | (m, c) :: st' => ckI r at_ ((m, c + 1) :: st') (stP m c)

def fin (c : CR) (st : List (ANode × Int)) : Int × Int := match c with | .bad p e => ((p : Int), e) | .ok r at_ => aft r at_ st

theorem kd_ok (f : Nat) (H : ∀ r at_ a st, r.length < f → ckI r at_ st a = fin (ckR f r at_ a) st) (n : ANode) (st : List (ANode × Int)) : ∀ (k : Nat) (i : Nat) (r : List ANode) (at_ : Nat), (i : Int) + k = n.2.1 → r.length < f → aft r at_ ((n, (i : Int)) :: st) = fin (kd (ckR f) n k i r at_) st
 | 0, i, r, at_, hk, hr => by
  have e : (i : Int) = n.2.1 := by omega
  unfold kd fin aft
  rw [wof, if_pos e]
 | k + 1, i, r, at_, hk, hr => by
  have e : ¬ (i : Int) = n.2.1 := by omega
  unfold aft
  rw [wof, if_neg e]
  dsimp only
  rw [H r at_ _ _ hr]
  unfold kd
  cases hc : ckR f r at_ (stP n i) with
  | bad p e => rfl
  | ok r' at' =>
   have hl := ckR_len f r at_ (stP n i)
   rw [hc] at hl
   have := hl.1
   have := hl.2
   show aft r' at' ((n, (i : Int) + 1) :: st) = _
   have ih := kd_ok f H n st k (i + 1) r' at' (by omega) (by omega)
   rw [show ((i + 1 : Nat) : Int) = (i : Int) + 1 by omega] at ih
   exact ih

theorem wm_nonneg {n : ANode} {a : Int} (hf : ftP n.1 a = true) (h : wmP n = true) : 0 ≤ n.2.1 := by
 have hk : 0 < n.1 ∧ n.1 < 33 := by
  unfold ftP at hf
  split at hf
  ·cases hf
  ·omega
 have hs : 0 ≤ (shpA n.1).2.1 := by
  unfold shpA
  have : ∀ i, i < 33 → 0 ≤ (shpT.getD i (0, 0, 0, 0)).2.1 := by decide
  exact this n.1.toNat (by omega)
 unfold wmP at h
 split at h
 ·cases h
 ·omega

theorem ckI_ok : ∀ (f : Nat) (r : List ANode) (at_ : Nat) (a : Int) (st : List (ANode × Int)), r.length < f → ckI r at_ st a = fin (ckR f r at_ a) st
 | 0, _, _, _, _, h => by omega
 | f + 1, [], at_, a, st, _ => rfl
 | f + 1, n :: r, at_, a, st, h => by
  have hr : r.length < f := by simpa using h
  unfold ckI ckR
  by_cases hf : ftP n.1 a = false
  ·rw [if_pos hf, if_pos hf]; rfl
  ·rw [if_neg hf, if_neg hf]
   by_cases hw : wmP n = false
   ·rw [if_pos hw, if_pos hw]; rfl
   ·rw [if_neg hw, if_neg hw]
    have hn := wm_nonneg (by simpa using hf) (by simpa using hw)
    have := kd_ok f (fun r at_ a st hr => ckI_ok f r at_ a st hr) n st n.2.1.toNat 0 r (at_ + 1) (by omega) hr
    exact this

theorem ck_same (l : List ANode) : ckP l = ckD l := by
 unfold ckP ckD
 by_cases hl : l = []
 ·rw [if_pos hl, if_pos hl]
 ·rw [if_neg hl, if_neg hl, ckI_ok (l.length + 1) l 0 1 [] (by omega)]
  cases hc : ckR (l.length + 1) l 0 1 with
  | bad p e => rfl
  | ok r p => rfl

end Go.Proofs.YtdhkcdehedbpcaaDoor

namespace Go.Proofs.YtdhkcdehedbpcaaDoor
open Go Go.RowKit

structure Sh (w : World) : Prop where
 lt : 1 < w.heap.size
 c0 : ∀ k, k < 33 → w.cell? ⟨1, k * 4, none⟩ = some (.int .i64 (shpA k).1)
 c1 : ∀ k, k < 33 → w.cell? ⟨1, k * 4 + 1, none⟩ = some (.int .i64 (shpA k).2.1)
 c2 : ∀ k, k < 33 → w.cell? ⟨1, k * 4 + 2, none⟩ = some (.int .i64 (shpA k).2.2.1)
 c3 : ∀ k, k < 33 → w.cell? ⟨1, k * 4 + 3, none⟩ = some (.int .i64 (shpA k).2.2.2)

theorem Sh.bw {w w' : World} (h : Sh w) (hb : Bw w w') : Sh w' := by
 have e : ∀ j, w'.cell? ⟨1, j, none⟩ = w.cell? ⟨1, j, none⟩ := fun j => World.cell?_of_block (a := ⟨1, j, none⟩) (hb.block _ h.lt)
 exact ⟨Nat.lt_of_lt_of_le h.lt hb.size, fun k hk => (e _).trans (h.c0 k hk), fun k hk => (e _).trans (h.c1 k hk), fun k hk => (e _).trans (h.c2 k hk), fun k hk => (e _).trans (h.c3 k hk)⟩

set_option maxRecDepth 100000 in
set_option maxHeartbeats 4000000 in
theorem fits_any (k a : Int) (w : World) (hh : Sh w) :
  Calls Tryd.prog 52 #[.int .i64 k, .int .i64 a] w fun e w' => e = .returned (.bool (ftP k a)) ∧ w' = w := by
 by_cases h1 : k ≤ 0
 ·have e : ftP k a = false := by unfold ftP; rw [if_pos (.inl h1)]
  rw [e]
  clear e hh
  go_enter Tryd.func52, Tryd.ntmps52
  go_wp2
  all_goals go_ret
  all_goals exact ⟨rfl, rfl⟩
 ·by_cases h2 : 33 ≤ k
  ·have e : ftP k a = false := by unfold ftP; rw [if_pos (.inr h2)]
   rw [e]
   clear e hh
   go_enter Tryd.func52, Tryd.ntmps52
   go_wp2
   all_goals go_ret
   all_goals exact ⟨rfl, rfl⟩
  ·obtain ⟨n, rfl⟩ : ∃ n : Nat, k = (n : Int) := ⟨k.toNat, by omega⟩
   have c0 := hh.c0 n (by omega)
   have gl := hh.lt
   have i1 : (0 : Int) ≤ (n : Int) := by omega
   have i2 : (n : Int) < 33 := by omega
   have e : ftP (n : Int) a = if a = 5 then (n : Int) == 19 else if a = 6 then (n : Int) == 2 else if a = 7 then (n : Int) == 2 || (n : Int) == 5 else if a = 8 then (n : Int) == 19 || (n : Int) == 29 || (n : Int) == 30 else (shpA n).1 == a := by
    unfold ftP
    rw [if_neg (by omega)]
   rw [e]
   have d1 : ¬ n = 0 := by omega
   have d2 : decide ((33 : Int) ≤ (n : Int)) = false := decide_eq_false (by omega)
   clear e hh h1 h2
   generalize (shpA n).1 = s at *
   by_cases h5 : a = 5
   ·subst h5
    go_enter Tryd.func52, Tryd.ntmps52
    go_wp2
    all_goals go_ret
    all_goals exact ⟨rfl, rfl⟩
   by_cases h6 : a = 6
   ·subst h6
    go_enter Tryd.func52, Tryd.ntmps52
    go_wp2
    all_goals go_ret
    all_goals exact ⟨rfl, rfl⟩
   by_cases h7 : a = 7
   ·subst h7
    go_enter Tryd.func52, Tryd.ntmps52
    go_wp2
    all_goals go_ret
    all_goals exact ⟨by simp [*], rfl⟩
   by_cases h8 : a = 8
   ·subst h8
    go_enter Tryd.func52, Tryd.ntmps52
    go_wp2
    all_goals go_ret
    all_goals exact ⟨by simp [*], rfl⟩
   ·rw [if_neg h5, if_neg h6, if_neg h7, if_neg h8]
    go_enter Tryd.func52, Tryd.ntmps52
    go_wp2
    all_goals go_ret
    all_goals exact ⟨rfl, rfl⟩

set_option maxRecDepth 100000 in
set_option maxHeartbeats 4000000 in
theorem isBinary_any (t : List Int) (w : World) :
  Calls Tryd.prog 74 #[.string (strOfNums t)] w fun e w' => e = .returned (.bool (binP t)) ∧ w' = w := by
 have q : ∀ l : List Int, ∀ u : List UInt8, (strOfNums l).toList = u → decide (strOfNums t = strOfNums l) = ((strOfNums t).toList == u) := by
  intro l u hu
  by_cases h : strOfNums t = strOfNums l
  ·rw [decide_eq_true h, h, hu]; simp
  ·rw [decide_eq_false h]
   symm
   rw [beq_eq_false_iff_ne]
   exact fun k => h (str_inj (k.trans hu.symm))
 have e : binP t = (((strOfNums t).toList == [43]) || ((strOfNums t).toList == [45]) || ((strOfNums t).toList == [42]) || ((strOfNums t).toList == [47]) || ((strOfNums t).toList == [37]) || ((strOfNums t).toList == [61, 61]) || ((strOfNums t).toList == [33, 61]) || ((strOfNums t).toList == [60]) || ((strOfNums t).toList == [60, 61]) || ((strOfNums t).toList == [62]) || ((strOfNums t).toList == [62, 61])) := by
  unfold binP
  simp only [List.any_cons, List.any_nil, Bool.or_false, Bool.or_assoc]
  rw [q [43] [43] (by rw [ByteArray.toList_eq]; rfl), q [45] [45] (by rw [ByteArray.toList_eq]; rfl), q [42] [42] (by rw [ByteArray.toList_eq]; rfl), q [47] [47] (by rw [ByteArray.toList_eq]; rfl), q [37] [37] (by rw [ByteArray.toList_eq]; rfl), q [61, 61] [61, 61] (by rw [ByteArray.toList_eq]; rfl), q [33, 61] [33, 61] (by rw [ByteArray.toList_eq]; rfl), q [60] [60] (by rw [ByteArray.toList_eq]; rfl), q [60, 61] [60, 61] (by rw [ByteArray.toList_eq]; rfl), q [62] [62] (by rw [ByteArray.toList_eq]; rfl), q [62, 61] [62, 61] (by rw [ByteArray.toList_eq]; rfl)]
 rw [e]
 clear e q
 generalize strOfNums t = s
 go_enter Tryd.func74, Tryd.ntmps74
 go_wp2
 all_goals go_ret
 all_goals exact ⟨by first | (simp [*]; done) | simp_all, by first | rfl | simp_all⟩

set_option maxRecDepth 100000 in
set_option maxHeartbeats 4000000 in
theorem checkEnd_any (a : Option Addr) (n cap : Nat) (e : Nat) (he : e ≤ 10000) (w : World) :
  Calls Tryd.prog 55 #[.slice a n cap, .int .i64 (e : Int)] w fun r w' => r = .returned (.tuple #[.int .i64 (if e < n then (e : Int) else 0), .int .i64 (if e < n then 6 else 0)]) ∧ w' = w := by
 by_cases h : e < n
 ·have h' : (e : Int) < (n : Int) := by omega
  rw [if_pos h, if_pos h]
  go_enter Tryd.func55, Tryd.ntmps55
  go_wp2
  all_goals go_ret2
  all_goals exact ⟨rfl, rfl⟩
 ·have h' : ¬ (e : Int) < (n : Int) := by omega
  rw [if_neg h, if_neg h]
  go_enter Tryd.func55, Tryd.ntmps55
  go_wp2
  all_goals go_ret2
  all_goals exact ⟨rfl, rfl⟩

end Go.Proofs.YtdhkcdehedbpcaaDoor

namespace Go.Proofs.YtdhkcdehedbpcaaDoor
open Go.ChangeShapes Go.WideShapes Go.ChangeAt Go.RowKit

set_option maxRecDepth 100000 in
theorem ownK : ownKnob Tryd.prog.godebug = none := by kernel_rfl
set_option maxRecDepth 100000 in
theorem laidOut : laidOutB Tryd.prog = true := by kernel_rfl

abbrev laidS : List (String × DataW Unit) := [("jacquard/parse.shapes", Rows.laid_jacquard_parse_shapes), ("jacquard/scope.primitives", Rows.laid_jacquard_scope_primitives)]

set_option maxRecDepth 100000 in
theorem gSigns : Tryd.prog.globalNamed "jacquard/scope.primitives" = some 0 := by kernel_rfl
set_option maxRecDepth 100000 in
theorem tSigns : (Tryd.prog.globals[0]?).map (·.type) = some 97 := by kernel_rfl
set_option maxRecDepth 100000 in
theorem cells9 : Tryd.prog.cellsOf 9 = 1 := by kernel_rfl

set_option maxRecDepth 100000 in
theorem door_met (os : Os) (args : Array Value) : laidMetH Tryd.prog laidS ((World.doorLaid Tryd.prog 400 os).forCall (fun _ _ => 0) ⟨#[], args, []⟩).memory :=
 laidMetH_of_parts3 (fuel := 8) (laidMet_of_run' 8 (by kernel_rfl) (by kernel_rfl)) (by kernel_rfl) (by kernel_rfl)

set_option maxRecDepth 100000 in
theorem sgs_datum : (Rows.laid_jacquard_scope_primitives : DataW Unit) = .agg (prs.map fun s => .lit (.string s.data.toList)) := by
 simp [Rows.laid_jacquard_scope_primitives, prs]

set_option maxRecDepth 100000 in
theorem pr_of_laid {W : World} (h : laidMetH Tryd.prog laidS W) : PrM W := by
 rw [MakeChecks.laidMetH_plain _ _ _ (by kernel_rfl)] at h
 obtain ⟨ps, ⟨g1, t1, cs1, f1, p1, q1, hg1, ht1, hv1, hd1, ⟨g0, t0, cs0, f0, p0, q0, hg0, ht0, hv0, hd0, _, _⟩, _⟩, _⟩ := h
 obtain rfl := Option.some.inj (gSigns.symm.trans hg0)
 obtain rfl := Option.some.inj (tSigns.symm.trans ht0)
 obtain ⟨xs, m1, rfl, hx1, hlen, hn, hel⟩ := DataW.trod_array Tryd.underlying97 hd0
 rw [cells9] at hel
 simp only [Prod.mk.injEq] at hx1
 rw [sgs_datum] at hx1
 have hxs : (prs.map fun s => (DataW.lit (.string s.data.toList) : DataW Unit)) = xs.map (·.1) := by simpa using hx1.1
 have key : ∀ i s, prs[i]? = some s → W.cell? ⟨0, i, none⟩ = some (.string s) := by
  intro i s hs
  have hi : i < 30 := (List.getElem?_eq_some_iff.1 hs).1
  have h1 := hel i hi
  have hxi : i < xs.length := by omega
  rw [List.getElem?_eq_getElem hxi] at h1
  obtain ⟨z, e1, e2, _⟩ := DataW.trod_string Tryd.underlying9 h1
  have h2 : (prs.map fun s => (DataW.lit (.string s.data.toList) : DataW Unit))[i]? = (xs.map (·.1))[i]? := by rw [hxs]
  rw [List.getElem?_map, hs, List.getElem?_map, List.getElem?_eq_getElem hxi, e2] at h2
  simp only [Option.map_some, Option.some.injEq, DataW.lit.injEq, Lit.string.injEq] at h2
  have hz : z = s := by
   cases z
   cases s
   congr 1
   exact Array.toList_inj.1 h2.symm
  rw [World.var?_cell hg0 hv0 i, ← hz]
  have e3 := congrArg (·[0]?) e1
  simpa [List.getElem?_take, List.getElem?_drop] using e3
 have h0 := key 0 ⟨#[112, 114, 105, 110, 116]⟩ rfl
 exact ⟨World.block_lt_of_cell? W _ h0, key⟩

theorem cells3 : Tryd.prog.cellsOf 3 = 1 := by kernel_rfl
theorem under3' : Tryd.prog.underlying 3 = some (.int .i64) := by kernel_rfl
set_option maxRecDepth 100000 in
theorem gShapes : Tryd.prog.globalNamed "jacquard/parse.shapes" = some 1 := by kernel_rfl
set_option maxRecDepth 100000 in
theorem tShapes : (Tryd.prog.globals[1]?).map (·.type) = some 132 := by kernel_rfl
set_option maxRecDepth 100000 in
theorem cellsShp : Tryd.prog.cellsOf 131 = 4 := by kernel_rfl
set_option maxRecDepth 100000 in
theorem shp_datum : (Rows.laid_jacquard_parse_shapes : DataW Unit) = .agg (shpT.map fun r => .agg [.lit (.int .i64 r.1), .lit (.int .i64 r.2.1), .lit (.int .i64 r.2.2.1), .lit (.int .i64 r.2.2.2)]) := by
 simp [Rows.laid_jacquard_parse_shapes, shpT]

set_option maxRecDepth 100000 in
theorem sh_of_laid {W : World} (h : laidMetH Tryd.prog laidS W) : Sh W := by
 rw [MakeChecks.laidMetH_plain _ _ _ (by kernel_rfl)] at h
 obtain ⟨ps, ⟨g1, t1, cs1, f1, p1, q1, hg1, ht1, hv1, hd1, _, _⟩, _⟩ := h
 obtain rfl := Option.some.inj (gShapes.symm.trans hg1)
 obtain rfl := Option.some.inj (tShapes.symm.trans ht1)
 obtain ⟨xs, m1, rfl, hx1, hlen, hn, hel⟩ := DataW.trod_array Tryd.underlying132 hd1
 rw [cellsShp] at hel
 simp only [Prod.mk.injEq] at hx1
 rw [shp_datum] at hx1
 have hxs : (shpT.map fun r => (DataW.agg [.lit (.int .i64 r.1), .lit (.int .i64 r.2.1), .lit (.int .i64 r.2.2.1), .lit (.int .i64 r.2.2.2)] : DataW Unit)) = xs.map (·.1) := by simpa using hx1.1
 have key : ∀ k : Nat, k < 33 → ∃ c0 c1 c2 c3 : Int, (c0, c1, c2, c3) = shpA k ∧ W.cell? ⟨1, k * 4, none⟩ = some (.int .i64 c0) ∧ W.cell? ⟨1, k * 4 + 1, none⟩ = some (.int .i64 c1) ∧ W.cell? ⟨1, k * 4 + 2, none⟩ = some (.int .i64 c2) ∧ W.cell? ⟨1, k * 4 + 3, none⟩ = some (.int .i64 c3) := by
  intro k hk
  have h1 := hel k hk
  have hxi : k < xs.length := by omega
  rw [List.getElem?_eq_getElem hxi] at h1
  obtain ⟨ys, n, _, hy, hl, hlen2, hf⟩ := DataW.trod_struct Tryd.underlying131 h1
  have hl4 : ys.length = 4 := hlen2
  match ys, hl4 with
  | [y0, y1, y2, y3], _ =>
  obtain ⟨a0, e0, d0, _⟩ := DataW.trod_int under3' (hf 0 _ rfl)
  obtain ⟨a1, e1, d1, _⟩ := DataW.trod_int under3' (hf 1 _ rfl)
  obtain ⟨a2, e2, d2, _⟩ := DataW.trod_int under3' (hf 2 _ rfl)
  obtain ⟨a3, e3, d3, _⟩ := DataW.trod_int under3' (hf 3 _ rfl)
  have hsk : shpT[k]? = some (shpA k) := by
   unfold shpA
   rw [show ((k : Nat) : Int).toNat = k from rfl, List.getD_eq_getElem?_getD, List.getElem?_eq_getElem (show k < shpT.length from hk)]
   rfl
  have h2 : (shpT.map fun r => (DataW.agg [.lit (.int .i64 r.1), .lit (.int .i64 r.2.1), .lit (.int .i64 r.2.2.1), .lit (.int .i64 r.2.2.2)] : DataW Unit))[k]? = (xs.map (·.1))[k]? := by rw [hxs]
  rw [List.getElem?_map, hsk, List.getElem?_map, List.getElem?_eq_getElem hxi, hy] at h2
  rw [d0, d1, d2, d3] at h2
  simp only [Option.map_some, Option.some.injEq, List.map_cons, List.map_nil, DataW.agg.injEq, List.cons.injEq, DataW.lit.injEq, Lit.int.injEq, true_and, and_true] at h2
  obtain ⟨r0, r1, r2, r3⟩ := h2
  replace e0 : List.take 1 (List.drop 0 (List.take 4 (List.drop (k * 4) cs1.toList))) = [Value.int .i64 a0] := by
   have q : List.take (Tryd.prog.cellsOf 3) (List.drop 0 (List.take 4 (List.drop (k * 4) cs1.toList))) = [Value.int .i64 a0] := e0
   rw [cells3] at q
   exact q
  replace e1 : List.take 1 (List.drop 1 (List.take 4 (List.drop (k * 4) cs1.toList))) = [Value.int .i64 a1] := by
   have q : List.take (Tryd.prog.cellsOf 3) (List.drop 1 (List.take 4 (List.drop (k * 4) cs1.toList))) = [Value.int .i64 a1] := e1
   rw [cells3] at q
   exact q
  replace e2 : List.take 1 (List.drop 2 (List.take 4 (List.drop (k * 4) cs1.toList))) = [Value.int .i64 a2] := by
   have q : List.take (Tryd.prog.cellsOf 3) (List.drop 2 (List.take 4 (List.drop (k * 4) cs1.toList))) = [Value.int .i64 a2] := e2
   rw [cells3] at q
   exact q
  replace e3 : List.take 1 (List.drop 3 (List.take 4 (List.drop (k * 4) cs1.toList))) = [Value.int .i64 a3] := by
   have q : List.take (Tryd.prog.cellsOf 3) (List.drop 3 (List.take 4 (List.drop (k * 4) cs1.toList))) = [Value.int .i64 a3] := e3
   rw [cells3] at q
   exact q
  have f0 := congrArg (·[0]?) e0
  have f1 := congrArg (·[0]?) e1
  have f2 := congrArg (·[0]?) e2
  have f3 := congrArg (·[0]?) e3
  refine ⟨a0, a1, a2, a3, ?_, ?_, ?_, ?_, ?_⟩
  ·rw [← r0, ← r1, ← r2, ← r3]
  ·rw [World.var?_cell hg1 hv1]; simpa [List.getElem?_take, List.getElem?_drop] using f0
  ·rw [World.var?_cell hg1 hv1]; simpa [List.getElem?_take, List.getElem?_drop] using f1
  ·rw [World.var?_cell hg1 hv1]; simpa [List.getElem?_take, List.getElem?_drop] using f2
  ·rw [World.var?_cell hg1 hv1]; simpa [List.getElem?_take, List.getElem?_drop] using f3
 obtain ⟨z0, z1, z2, z3, _, hz, _⟩ := key 0 (by decide)
 refine ⟨World.block_lt_of_cell? W _ hz, fun k hk => ?_, fun k hk => ?_, fun k hk => ?_, fun k hk => ?_⟩
 ·obtain ⟨c0, c1, c2, c3, e, h0, h1, h2, h3⟩ := key k hk
  rw [← e]; exact h0
 ·obtain ⟨c0, c1, c2, c3, e, h0, h1, h2, h3⟩ := key k hk
  rw [← e]; exact h1
 ·obtain ⟨c0, c1, c2, c3, e, h0, h1, h2, h3⟩ := key k hk
  rw [← e]; exact h2
 ·obtain ⟨c0, c1, c2, c3, e, h0, h1, h2, h3⟩ := key k hk
  rw [← e]; exact h3

set_option maxRecDepth 100000 in
theorem list_of {α : Type} (q : Nat → α → Prop) : ∀ (n : Nat), (∀ i, i < n → ∃ a, q i a) → ∃ l : List α, l.length = n ∧ ∀ i (hi : i < l.length), q i l[i]
 | 0, _ => ⟨[], rfl, fun i hi => by simp at hi⟩
 | n + 1, h => by
  obtain ⟨l, hl, hq⟩ := list_of q n (fun i hi => h i (by omega))
  obtain ⟨a, ha⟩ := h n (by omega)
  refine ⟨l ++ [a], by simp [hl], fun i hi => ?_⟩
  by_cases hi2 : i < l.length
  ·rw [List.getElem_append_left hi2]; exact hq i hi2
  ·have : i = l.length := by simp at hi; omega
   subst this
   rw [List.getElem_append_right (Nat.le_refl _)]
   simpa [hl] using ha

end Go.Proofs.YtdhkcdehedbpcaaDoor

namespace Go.Proofs.YtdhkcdehedbpcaaDoor
open Go Go.RowKit

theorem stP_range (n : ANode) (i : Int) : 1 ≤ stP n i ∧ stP n i ≤ 8 := by
 unfold stP
 repeat (first | split | omega)

def CR.suf (c : CR) (r : List ANode) (at0 : Nat) : Prop := match c with | .ok r' at_ => r' = r.drop (at_ - at0) ∧ at0 ≤ at_ | _ => True

theorem kd_suf {ck : List ANode → Nat → Int → CR} (h : ∀ r at_ a, (ck r at_ a).suf r at_) (n : ANode) : ∀ (k : Nat) (i : Int) (r : List ANode) (at_ : Nat), (kd ck n k i r at_).suf r at_
 | 0, i, r, at_ => ⟨by simp, Nat.le_refl _⟩
 | k + 1, i, r, at_ => by
  unfold kd
  cases hc : ck r at_ (stP n i) with
  | bad p e => trivial
  | ok r' at' =>
   have h1 := h r at_ (stP n i)
   rw [hc] at h1
   have h2 := kd_suf h n k (i + 1) r' at'
   dsimp only
   cases hk : kd ck n k (i + 1) r' at' with
   | bad p e => trivial
   | ok r'' at'' =>
    rw [hk] at h2
    obtain ⟨h1a, h1b⟩ := h1
    obtain ⟨h2a, h2b⟩ := h2
    refine ⟨?_, by omega⟩
    rw [h2a, h1a, List.drop_drop]
    congr 1
    omega

theorem ckR_suf : ∀ (f : Nat) (r : List ANode) (at_ : Nat) (a : Int), (ckR f r at_ a).suf r at_
 | 0, _, _, _ => trivial
 | f + 1, [], _, _ => trivial
 | f + 1, n :: r, at_, a => by
  unfold ckR
  split
  ·trivial
  split
  ·trivial
  have h := kd_suf (ckR_suf f) n n.2.1.toNat 0 r (at_ + 1)
  cases hk : kd (ckR f) n n.2.1.toNat 0 r (at_ + 1) with
  | bad p e => trivial
  | ok r' at' =>
   rw [hk] at h
   obtain ⟨h1, h2⟩ := h
   refine ⟨?_, by omega⟩
   rw [h1, show at' - at_ = (at' - (at_ + 1)) + 1 by omega, List.drop_succ_cons]

def CR.err (c : CR) : Prop := match c with | .bad p e => e = 1 ∨ e = 6 ∨ e = 8 | _ => True

theorem kd_err (f : Nat) (h : ∀ r at_ a, r.length < f → (ckR f r at_ a).err) (n : ANode) : ∀ (k : Nat) (i : Int) (r : List ANode) (at_ : Nat), r.length < f → (kd (ckR f) n k i r at_).err
 | 0, i, r, at_, _ => trivial
 | k + 1, i, r, at_, hr => by
  unfold kd
  cases hc : ckR f r at_ (stP n i) with
  | bad p e =>
   have h1 := h r at_ (stP n i) hr
   rw [hc] at h1
   exact h1
  | ok r' at' =>
   have hl := ckR_len f r at_ (stP n i)
   rw [hc] at hl
   obtain ⟨hl1, hl2⟩ := hl
   exact kd_err f h n k (i + 1) r' at' (by omega)

theorem ckR_err : ∀ (f : Nat) (r : List ANode) (at_ : Nat) (a : Int), r.length < f → (ckR f r at_ a).err
 | 0, _, _, _, h => by omega
 | f + 1, [], _, _, _ => .inr (.inl rfl)
 | f + 1, n :: r, at_, a, h => by
  have hr : r.length < f := by simpa using h
  unfold ckR
  split
  ·exact .inr (.inr rfl)
  split
  ·exact .inl rfl
  exact kd_err f (fun r at_ a h => ckR_err f r at_ a h) n n.2.1.toNat 0 r (at_ + 1) hr

theorem wm_facts {n : ANode} (h : wmP n = true) : (n.1 = 4 → n.2.1 ≤ 2) ∧ (n.1 = 5 → n.2.1 ≤ 3) ∧ (n.1 = 6 → n.2.1 ≤ 2) ∧ (n.1 = 12 ∨ n.1 = 31 → n.2.2.2.1 = n.2.1 - 1 ∧ n.2.1 ≤ 17) := by
 unfold wmP at h
 split at h
 ·cases h
 ·rename_i hh
  have h2 : n.2.1 ≤ (shpA n.1).2.2.1 := by omega
  refine ⟨fun e => ?_, fun e => ?_, fun e => ?_, fun e => ?_⟩
  ·rw [e] at h2; exact h2
  ·rw [e] at h2; exact h2
  ·rw [e] at h2; exact h2
  ·rw [if_neg (by omega), if_neg (by omega), if_pos e] at h
   refine ⟨by simpa using h, ?_⟩
   rcases e with e | e
   ·rw [e] at h2; exact h2
   ·rw [e] at h2; exact h2

end Go.Proofs.YtdhkcdehedbpcaaDoor

