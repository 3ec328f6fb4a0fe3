/- The library's table of powers of ten, out of the condition. -/
import Derived.Test.YtgfdbhbkmjabcabGreatDoorFr4
import Derived.Test.YtgfdbhbkmjabcabGreatDoorSU
import Derived.Lib.LaidTab
set_option linter.unusedVariables false
set_option linter.unusedSimpArgs false
namespace Go.Proofs.YtgfdbhbkmjabcabGreatDoor
open Go.ChangeShapes Go.WideShapes Go.ChangeAt Go.RowKit

theorem pow_datum : (Rows.laid_internal_strconv_uint64pow10 : DataW Unit) = Lib.tabData .u64 Lib.pow10Tab := by rfl

theorem pw_of_laid {W : World} (h : laidMetH Tryz.prog laidS W) : Pw W := by
  rw [MakeChecks.laidMetH_plain _ _ _ (by kernel_rfl)] at h
  obtain ⟨ps, ⟨g0, t0, c0, f0, p0, q0, _, _, _, _, r0, e0⟩, _⟩ := h
  obtain ⟨g1, t1, c1, f1, p1, q1, _, _, _, _, r1, e1⟩ := r0
  obtain ⟨g2, t2, c2, f2, p2, q2, hg2, ht2, hv2, hd2, _, _⟩ := r1
  rw [pow_datum] at hd2
  have hty : (Tryz.prog.globalNamed "internal/strconv.uint64pow10").bind (fun g => (Tryz.prog.globals[g]?).map (·.type)) = some 126 := by kernel_rfl
  rw [hg2] at hty
  obtain rfl := Option.some.inj (hty.symm.trans ht2)
  unfold Pw Lib.TabIs
  rw [hv2, ← Lib.cells_of_tab (n := 20) (e := 22) (by kernel_rfl) (by kernel_rfl) (by kernel_rfl) (by kernel_rfl) hd2]

end Go.Proofs.YtgfdbhbkmjabcabGreatDoor
