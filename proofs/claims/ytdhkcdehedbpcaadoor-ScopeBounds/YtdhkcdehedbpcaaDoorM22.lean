/- fits, isBinary, wellMade, step, checkEnd: contracts. · How the statements' frames are opened: the table of signs out of the condition; lists of bytes; texts. -/
import Derived.Test.YtdhkcdehedbpcaaDoorM21
import Derived.Test.YtdhkcdehedbpcaaDoorM2
import Derived.Test.YtdhkcdehedbpcaaDoorM4
import Derived.Test.YtdhkcdehedbpcaaDoorTie
import Derived.Test.YtdhkcdehedbpcaaDoorCards
import Derived.ProofKit
import Derived.LaidMore
import Derived.OpenShut
import Derived.ShutString
import Derived.ChangeOld
import Derived.Below
import Derived.SevenTiedAt
set_option linter.unusedSimpArgs false
set_option linter.unusedVariables false
namespace Go.Proofs.YtdhkcdehedbpcaaDoor
open Go Go.RowKit

/-- The table of kinds in memory. -/
structure Sh (w : World) : Prop where
  lt : 1 < w.heap.size
  c0 : ∀ k, k < 33 → w.cell? ⟨1, k * 4, none⟩ = some (.int .i64 (shpA k).1)
  c1 : ∀ k, k < 33 → w.cell? ⟨1, k * 4 + 1, none⟩ = some (.int .i64 (shpA k).2.1)
  c2 : ∀ k, k < 33 → w.cell? ⟨1, k * 4 + 2, none⟩ = some (.int .i64 (shpA k).2.2.1)
  c3 : ∀ k, k < 33 → w.cell? ⟨1, k * 4 + 3, none⟩ = some (.int .i64 (shpA k).2.2.2)

theorem Sh.bw {w w' : World} (h : Sh w) (hb : Bw w w') : Sh w' := by
  have e : ∀ j, w'.cell? ⟨1, j, none⟩ = w.cell? ⟨1, j, none⟩ := fun j => World.cell?_of_block (a := ⟨1, j, none⟩) (hb.block _ h.lt)
  exact ⟨Nat.lt_of_lt_of_le h.lt hb.size, fun k hk => (e _).trans (h.c0 k hk), fun k hk => (e _).trans (h.c1 k hk), fun k hk => (e _).trans (h.c2 k hk), fun k hk => (e _).trans (h.c3 k hk)⟩

set_option maxRecDepth 100000 in
set_option maxHeartbeats 4000000 in
theorem fits_any (k a : Int) (w : World) (hh : Sh w) :
    Calls Tryd.prog 52 #[.int .i64 k, .int .i64 a] w fun e w' => e = .returned (.bool (ftP k a)) ∧ w' = w := by
  by_cases h1 : k ≤ 0
  · have e : ftP k a = false := by unfold ftP; rw [if_pos (.inl h1)]
    rw [e]
    clear e hh
    go_enter Tryd.func52, Tryd.ntmps52
    go_wp2
    all_goals go_ret
    all_goals exact ⟨rfl, rfl⟩
  · by_cases h2 : 33 ≤ k
    · have e : ftP k a = false := by unfold ftP; rw [if_pos (.inr h2)]
      rw [e]
      clear e hh
      go_enter Tryd.func52, Tryd.ntmps52
      go_wp2
      all_goals go_ret
      all_goals exact ⟨rfl, rfl⟩
    · obtain ⟨n, rfl⟩ : ∃ n : Nat, k = (n : Int) := ⟨k.toNat, by omega⟩
      have c0 := hh.c0 n (by omega)
      have gl := hh.lt
      have i1 : (0 : Int) ≤ (n : Int) := by omega
      have i2 : (n : Int) < 33 := by omega
      have e : ftP (n : Int) a = if a = 5 then (n : Int) == 19 else if a = 6 then (n : Int) == 2 else if a = 7 then (n : Int) == 2 || (n : Int) == 5 else if a = 8 then (n : Int) == 19 || (n : Int) == 29 || (n : Int) == 30 else (shpA n).1 == a := by
        unfold ftP
        rw [if_neg (by omega)]
      rw [e]
      have d1 : ¬ n = 0 := by omega
      have d2 : decide ((33 : Int) ≤ (n : Int)) = false := decide_eq_false (by omega)
      clear e hh h1 h2
      generalize (shpA n).1 = s at *
      by_cases h5 : a = 5
      · subst h5
        go_enter Tryd.func52, Tryd.ntmps52
        go_wp2
        all_goals go_ret
        all_goals exact ⟨rfl, rfl⟩
      by_cases h6 : a = 6
      · subst h6
        go_enter Tryd.func52, Tryd.ntmps52
        go_wp2
        all_goals go_ret
        all_goals exact ⟨rfl, rfl⟩
      by_cases h7 : a = 7
      · subst h7
        go_enter Tryd.func52, Tryd.ntmps52
        go_wp2
        all_goals go_ret
        all_goals exact ⟨by simp [*], rfl⟩
      by_cases h8 : a = 8
      · subst h8
        go_enter Tryd.func52, Tryd.ntmps52
        go_wp2
        all_goals go_ret
        all_goals exact ⟨by simp [*], rfl⟩
      · rw [if_neg h5, if_neg h6, if_neg h7, if_neg h8]
        go_enter Tryd.func52, Tryd.ntmps52
        go_wp2
        all_goals go_ret
        all_goals exact ⟨rfl, rfl⟩

set_option maxRecDepth 100000 in
set_option maxHeartbeats 4000000 in
theorem isBinary_any (t : List Int) (w : World) :
    Calls Tryd.prog 74 #[.string (strOfNums t)] w fun e w' => e = .returned (.bool (binP t)) ∧ w' = w := by
  have q : ∀ l : List Int, ∀ u : List UInt8, (strOfNums l).toList = u → decide (strOfNums t = strOfNums l) = ((strOfNums t).toList == u) := by
    intro l u hu
    by_cases h : strOfNums t = strOfNums l
    · rw [decide_eq_true h, h, hu]; simp
    · rw [decide_eq_false h]
      symm
      rw [beq_eq_false_iff_ne]
      exact fun k => h (str_inj (k.trans hu.symm))
  have e : binP t = (((strOfNums t).toList == [43]) || ((strOfNums t).toList == [45]) || ((strOfNums t).toList == [42]) || ((strOfNums t).toList == [47]) || ((strOfNums t).toList == [37]) || ((strOfNums t).toList == [61, 61]) || ((strOfNums t).toList == [33, 61]) || ((strOfNums t).toList == [60]) || ((strOfNums t).toList == [60, 61]) || ((strOfNums t).toList == [62]) || ((strOfNums t).toList == [62, 61])) := by
    unfold binP
    simp only [List.any_cons, List.any_nil, Bool.or_false, Bool.or_assoc]
    rw [q [43] [43] (by rw [ByteArray.toList_eq]; rfl), q [45] [45] (by rw [ByteArray.toList_eq]; rfl), q [42] [42] (by rw [ByteArray.toList_eq]; rfl), q [47] [47] (by rw [ByteArray.toList_eq]; rfl), q [37] [37] (by rw [ByteArray.toList_eq]; rfl), q [61, 61] [61, 61] (by rw [ByteArray.toList_eq]; rfl), q [33, 61] [33, 61] (by rw [ByteArray.toList_eq]; rfl), q [60] [60] (by rw [ByteArray.toList_eq]; rfl), q [60, 61] [60, 61] (by rw [ByteArray.toList_eq]; rfl), q [62] [62] (by rw [ByteArray.toList_eq]; rfl), q [62, 61] [62, 61] (by rw [ByteArray.toList_eq]; rfl)]
  rw [e]
  clear e q
  generalize strOfNums t = s
  go_enter Tryd.func74, Tryd.ntmps74
  go_wp2
  all_goals go_ret
  all_goals exact ⟨by first | (simp [*]; done) | simp_all, by first | rfl | simp_all⟩

set_option maxRecDepth 100000 in
set_option maxHeartbeats 4000000 in
theorem checkEnd_any (a : Option Addr) (n cap : Nat) (e : Nat) (he : e ≤ 10000) (w : World) :
    Calls Tryd.prog 55 #[.slice a n cap, .int .i64 (e : Int)] w fun r w' => r = .returned (.tuple #[.int .i64 (if e < n then (e : Int) else 0), .int .i64 (if e < n then 6 else 0)]) ∧ w' = w := by
  by_cases h : e < n
  · have h' : (e : Int) < (n : Int) := by omega
    rw [if_pos h, if_pos h]
    go_enter Tryd.func55, Tryd.ntmps55
    go_wp2
    all_goals go_ret2
    all_goals exact ⟨rfl, rfl⟩
  · have h' : ¬ (e : Int) < (n : Int) := by omega
    rw [if_neg h, if_neg h]
    go_enter Tryd.func55, Tryd.ntmps55
    go_wp2
    all_goals go_ret2
    all_goals exact ⟨rfl, rfl⟩

end Go.Proofs.YtdhkcdehedbpcaaDoor

set_option linter.unusedVariables false
set_option linter.unusedSimpArgs false
namespace Go.Proofs.YtdhkcdehedbpcaaDoor
open Go.ChangeShapes Go.WideShapes Go.ChangeAt Go.RowKit

abbrev laidS : List (String × DataW Unit) := [("jacquard/parse.shapes", Rows.laid_jacquard_parse_shapes), ("jacquard/scope.primitives", Rows.laid_jacquard_scope_primitives)]

end Go.Proofs.YtdhkcdehedbpcaaDoor

