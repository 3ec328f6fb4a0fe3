/- What is put into a text: the closure's contract. · Small callees of the program's Text: contracts. -/
import Derived.Test.YtimidonagbfjcaaGreatDoorQD4k
import Derived.Lib.AppendStr
set_option linter.unusedSimpArgs false
set_option linter.unusedVariables false
namespace Go.Proofs.YtimidonagbfjcaaGreatDoor
open Go Go.RowKit

set_option maxHeartbeats 4000000 in
theorem put_any (s : ByteArray) (bt base : Nat) (xs : List Value) (v : Value) (w : World) (hB : Blk w bt #[v] 30) (ho : w.ownsRow base 5 1 v xs.length xs) (hl : xs.length ≤ 65536) (hs : s.size ≤ 1000000000) (hb : base ≤ w.heap.size) :
    Calls Tryz.prog 26 #[.string s, .pointer (some ⟨bt, 0, none⟩)] w fun e w' =>
      (65536 < xs.length + s.size ∧ e = .returned (.bool false) ∧ w' = w) ∨
      (xs.length + s.size ≤ 65536 ∧ e = .returned (.bool true) ∧ ∃ v' w1, w1.ownsRow base 5 1 v' (xs.length + s.size) (xs ++ Lib.strCells s) ∧ w.grownBy w1 v.ownBlock ∧ w' = w1.setCell ⟨bt, 0, none⟩ v' ∧ Blk w1 bt #[v] 30) := by
  obtain ⟨a, cap, rfl⟩ := own_form ho
  obtain ⟨i1, hi1, hz1, hs1, hy1⟩ := info_parts infoU8
  have I1 := hid (And.intro hi1 (And.intro hz1 (And.intro hs1 hy1)))
  have z := hB.cell 0
  have zf := hB.free 0
  have HB := hid hB
  have HO := hid ho
  clear hB ho hi1 hz1 hs1 hy1
  by_cases h : 65536 < xs.length + s.size
  · have t : decide (65536 < (xs.length : Int) + (s.size : Int)) = true := decide_eq_true (by omega)
    go_enter Tryz.func26, Tryz.ntmps26
    go_wp2
    all_goals go_ret
    all_goals exact .inl ⟨h, rfl, rfl⟩
  · have t : decide (65536 < (xs.length : Int) + (s.size : Int)) = false := decide_eq_false (by omega)
    go_enter Tryz.func26, Tryz.ntmps26
    go_wp2_with (first
      | (at_builtin; refine Lib.wpList_append_own_string _ rfl _ _ 30 9 rfl base 5 i1 under22 under9 I1.out.1 I1.out.2.1 I1.out.2.2.1 I1.out.2.2.2 (.slice a xs.length cap) xs.length xs rfl HO.out s rfl (by unfold maxLen; omega) (by omega) hb ?_; intro v' w1 hown hgr _; obtain ⟨av', cv', e⟩ := own_form hown; subst e; have b1 := Blk.grownOwn HB.out HO.out (by decide) hgr; have z1 := b1.cell 0; have z1f := b1.free 0; have HB1 := hid b1; have HW1 := hid hown; have HG1 := hid hgr; clear b1 hown hgr))
    all_goals go_ret
    all_goals exact .inr ⟨by omega, rfl, _, w1, HW1.out, HG1.out, rfl, HB1.out⟩

end Go.Proofs.YtimidonagbfjcaaGreatDoor

set_option linter.unusedSimpArgs false
set_option linter.unusedVariables false
namespace Go.Proofs.YtimidonagbfjcaaGreatDoor
open Go Go.RowKit

set_option maxHeartbeats 4000000 in
theorem hasParts_any (k : Int) (w : World) :
    Calls Tryz.prog 45 #[.int .i64 k] w fun e w' => e = .returned (.bool (k == 2 || k == 3 || k == 4)) ∧ w' = w := by
  go_enter Tryz.func45, Tryz.ntmps45
  go_wp2
  all_goals go_ret
  all_goals refine ⟨ret_bool ?_, rfl⟩
  all_goals first | rfl | simp_all

set_option maxHeartbeats 4000000 in
theorem between_any (i : Int) (w : World) :
    Calls Tryz.prog 79 #[.int .i64 i] w fun e w' => e = .returned (.string (if i = 0 then ⟨#[]⟩ else ⟨#[44, 32]⟩)) ∧ w' = w := by
  by_cases h : i = 0
  · have t : (i == 0) = true := by simpa using h
    go_enter Tryz.func79, Tryz.ntmps79
    go_wp2
    all_goals go_ret
    all_goals (refine ⟨?_, rfl⟩; subst h; rfl)
  · have t : (i == 0) = false := by simpa using h
    go_enter Tryz.func79, Tryz.ntmps79
    go_wp2
    all_goals go_ret
    all_goals (refine ⟨?_, rfl⟩; try simp [h])

end Go.Proofs.YtimidonagbfjcaaGreatDoor

