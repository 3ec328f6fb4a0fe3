/-
  DERIVED. GIVEN WITH THE SEED: THE PROGRAM's TIES (one call each: nine closed facts by the kernel) AND EACH ROW's TIE, after the 31st guide's Derived/Test/Toyas{Tie, Card}.lean. No idea stands in it: it is a product of the set-up. Laid BY PROGRAM, IN A SANDBOX (cutbox-door.mjs). By AI agents, Wed Nov 11 2026. No macro, syntax, notation, axiom, sorry.
-/
import Derived.Test.YtajnpdiepiinjaaDoorRows
import Derived.LaidByTextLater
import Derived.SevenTiedAt
import Derived.LaidSub
import Derived.LaidOnce
namespace Go.Proofs.YtajnpdiepiinjaaDoor
open Go
set_option maxRecDepth 100000
theorem seatTie1 : Tryd.prog.laidByTextLater [("jacquard/prim.signs", Rows.laid_jacquard_prim_signs), ("jacquard/prim.thrownTexts", Rows.laid_jacquard_prim_thrownTexts), ("jacquard/prim.endingTexts", Rows.laid_jacquard_prim_endingTexts), ("jacquard/prim.arities", Rows.laid_jacquard_prim_arities)] [.data, .data, .data, .data] true :=
  Program.laidByTextLater_by_one 29 8 31 (by kernel_rfl) (by kernel_rfl) (by kernel_rfl) (by kernel_rfl) (by kernel_rfl) (by kernel_rfl) (fun _ _ => by kernel_rfl)
theorem noOwnUnsafe : Tryd.pinned.checked.prog.headLifts.contains "ownunsafe" = false := by kernel_rfl
theorem tie : Tryd.prog.laidByTextLater [("jacquard/prim.signs", Rows.laid_jacquard_prim_signs), ("jacquard/prim.thrownTexts", Rows.laid_jacquard_prim_thrownTexts), ("jacquard/prim.endingTexts", Rows.laid_jacquard_prim_endingTexts), ("jacquard/prim.arities", Rows.laid_jacquard_prim_arities)] [.data, .data, .data, .data] true :=
  Program.laidByTextLater.sub seatTie1 ["jacquard/prim.signs", "jacquard/prim.thrownTexts", "jacquard/prim.endingTexts", "jacquard/prim.arities"] (by kernel_rfl) (by kernel_rfl)
theorem primTables_row_tie : Rows.primTablesRow.laidByTextAt .later Tryd.pinned [.data, .data, .data, .data] true :=
  OpenClaim.laidByTextAt_later rfl rfl tie noOwnUnsafe
theorem primTablesUpto_row_tie : Rows.primTablesUptoRow.laidByTextAt .later Tryd.pinned [.data, .data, .data, .data] true :=
  OpenClaim.laidByTextAt_later rfl rfl tie noOwnUnsafe
end Go.Proofs.YtajnpdiepiinjaaDoor
