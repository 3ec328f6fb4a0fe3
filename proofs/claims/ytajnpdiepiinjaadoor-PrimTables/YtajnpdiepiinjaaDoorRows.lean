/-
  NARROWER THAN 'FOR EVERY INPUT', by the rows' own cells (each row's printed sentence says how): PrimTables: laid.
  DERIVED. THE GIVEN ROWS OF THIS SEAT. 1 by the template 'for every input the law returns true; each argument reads behind the call as it read before'; 0 by the template 'total and deterministic' (their statements: YtajnpdiepiinjaaDoorTotals.lean).
  GIVEN WITH THE SEED: the statements are not yours to turn. If you find one false, say at which input.
  Laid BY PROGRAM, IN A SANDBOX (cutbox-rows.mjs): the forced cells as the released guide's own fill.sh prints them over the translation d70b26d183569347… (all of the seat's roots in one cut). By AI agents, Wed Nov 11 2026. No macro, syntax, notation, axiom, sorry.
-/
import Derived.Test.YtajnpdiepiinjaaDoorChecked
import GoSem.Claim
import GoSem.ClaimJoined
import GoSem.ClaimMapViews
import Derived.JoinedTies
import Derived.KernelRfl
namespace Go.Proofs.YtajnpdiepiinjaaDoor
/- THE CELL 'sum', in the pinned program and in every row, IS THE sha256 OF THE DUMP (.gsa) THAT YtajnpdiepiinjaaDoorProg.lean LOADS. Nothing in Lean hashes anything: it is a label: what it is worth is what the hold of that sum in a sandbox is worth. -/
noncomputable def Tryd.pinned : Pinned := { name := "ytajnpdiepiinjaadoor", sum := "d70b26d183569347663d8fbc7f81de30d21fcf2e95fada03e1ddd0f6448fe857", checked := Tryd.checked }
namespace Rows
def none {H : Type} : Left H := { results := [], args := [] }

/- WHAT THE LISTED PACKAGE-LEVEL VARIABLES READ AS WHEN THE CALL BEGINS. Each datum BY PROGRAM (the guide's laid-datum.mjs) off the statement by which the dump's own 'gosem.cut.vars' lays the variable. In a bare row this is a premise. The card (YtajnpdiepiinjaaDoorCards.lean) ties it to the program's text. -/
def laid_jacquard_prim_signs {H : Type} : DataW H := .agg [.lit (.string [43]), .lit (.string [45]), .lit (.string [42]), .lit (.string [47]), .lit (.string [37]), .lit (.string [61, 61]), .lit (.string [33, 61]), .lit (.string [60]), .lit (.string [60, 61]), .lit (.string [62]), .lit (.string [62, 61])]
def laid_jacquard_prim_thrownTexts {H : Type} : DataW H := .agg [.lit (.string []), .lit (.string [116, 121, 112, 101]), .lit (.string [122, 101, 114, 111]), .lit (.string [114, 97, 110, 103, 101]), .lit (.string [102, 105, 101, 108, 100]), .lit (.string [108, 111, 110, 103]), .lit (.string [99, 97, 108, 108]), .lit (.string [97, 114, 103, 115]), .lit (.string [115, 116, 97, 116, 101])]
def laid_jacquard_prim_endingTexts {H : Type} : DataW H := .agg [.lit (.string [104, 101, 97, 112]), .lit (.string [100, 101, 112, 116, 104]), .lit (.string [116, 104, 114, 101, 97, 100, 115])]
def laid_jacquard_prim_arities {H : Type} : DataW H := .agg [.lit (.int .i64 1), .lit (.int .i64 1), .lit (.int .i64 2), .lit (.int .i64 1), .lit (.int .i64 1), .lit (.int .i64 2), .lit (.int .i64 2), .lit (.int .i64 3), .lit (.int .i64 2), .lit (.int .i64 1), .lit (.int .i64 2), .lit (.int .i64 1), .lit (.int .i64 1), .lit (.int .i64 1), .lit (.int .i64 0), .lit (.int .i64 1), .lit (.int .i64 0), .lit (.int .i64 1), .lit (.int .i64 1), .lit (.int .i64 1), .lit (.int .i64 2), .lit (.int .i64 1), .lit (.int .i64 0), .lit (.int .i64 1), .lit (.int .i64 1), .lit (.int .i64 1), .lit (.int .i64 2), .lit (.int .i64 1), .lit (.int .i64 1), .lit (.int .i64 0)]

/-- 'jacquardlaw09.PrimTables': WHATEVER THE INPUT: true; the input reads as it did. -/
def primTablesSpec : ChangeSpec := { name := "primTables", fn := fun _ => fun
  | [d1, d2] => { results := [.lit (.bool true)], args := [d1, d2] }
  | _ => none }
def primTablesRow : OpenClaim := { program := "ytajnpdiepiinjaadoor", sum := "d70b26d183569347663d8fbc7f81de30d21fcf2e95fada03e1ddd0f6448fe857", func := "jacquard/jacquardlaw09.PrimTables", spec := "primTables", inPlace := ["math.Float64frombits", "math.Float64bits", "internal/bytealg.Compare"], named := ["jacquard/prim.signs", "jacquard/prim.thrownTexts", "jacquard/prim.endingTexts", "jacquard/prim.arities"], apart := false, laid := [("jacquard/prim.signs", laid_jacquard_prim_signs), ("jacquard/prim.thrownTexts", laid_jacquard_prim_thrownTexts), ("jacquard/prim.endingTexts", laid_jacquard_prim_endingTexts), ("jacquard/prim.arities", laid_jacquard_prim_arities)] }
def PrimTablesSaid : Prop := primTablesRow.holds Tryd.pinned (OpenSpec.ofChange primTablesSpec)

/-- ITS FALSE NEIGHBOUR: 'it returns false'. Refute it at one input. -/
def primTablesWrong : ChangeSpec := { name := "primTables", fn := fun _ => fun
  | [d1, d2] => { results := [.lit (.bool false)], args := [d1, d2] }
  | _ => none }
def PrimTablesWrongFalsely : Prop := primTablesRow.holds Tryd.pinned (OpenSpec.ofChange primTablesWrong)

/- THE SECOND FORM. 'bulk': how many values and letters a reading holds, each counted each time it is reached (what is shared counts as often as it is met; a slice's spare places count too). A statement '..UptoSaid' is the law's where the arguments, and the package variables that the reading takes, are together of bulk at most 1048576: NARROWER than '..Said'. Prove '..Said' where nothing that the law and all that it calls make is longer than what came in: it says more and counts as full. Else prove '..UptoSaid'. A law counts once. -/
mutual
def uptoBulk {H : Type} : DataW H → Nat
  | .lit (.string bytes) => bytes.length + 1
  | .lit _ => 1
  | .nil => 1
  | .ptr d => uptoBulk d + 1
  | .slice elems spare => uptoBulkAll elems + uptoBulkAll spare + 1
  | .agg parts => uptoBulkAll parts + 1
  | .iface _ d => uptoBulk d + 1
  | .map entries => uptoBulkEntries entries + 1
  | .held _ => 1
def uptoBulkAll {H : Type} : List (DataW H) → Nat
  | [] => 0
  | d :: r => uptoBulk d + uptoBulkAll r
def uptoBulkEntries {H : Type} : List (Lit × DataW H) → Nat
  | [] => 0
  | x :: r => uptoBulkEntry x + uptoBulkEntries r
def uptoBulkEntry {H : Type} : Lit × DataW H → Nat
  | (.string bytes, d) => bytes.length + uptoBulk d + 1
  | (_, d) => uptoBulk d + 1
 end
def uptoSmall : (H : Type) → List (DataW H) → Bool := fun _ ds => decide (uptoBulkAll ds ≤ 1048576)
def OpenSpec.upto (s : _root_.Go.ChangeSpec) : _root_.Go.OpenSpec := { _root_.Go.OpenSpec.ofChange s with cond := some uptoSmall }

/-- 'jacquardlaw09.PrimTables', WHERE WHAT IT READS IS OF BULK AT MOST 1048576: true; the input reads as it did. -/
def primTablesUptoRow : OpenClaim := { program := "ytajnpdiepiinjaadoor", sum := "d70b26d183569347663d8fbc7f81de30d21fcf2e95fada03e1ddd0f6448fe857", func := "jacquard/jacquardlaw09.PrimTables", spec := "primTables", inPlace := ["math.Float64frombits", "math.Float64bits", "internal/bytealg.Compare"], named := ["jacquard/prim.signs", "jacquard/prim.thrownTexts", "jacquard/prim.endingTexts", "jacquard/prim.arities"], apart := false, laid := [("jacquard/prim.signs", laid_jacquard_prim_signs), ("jacquard/prim.thrownTexts", laid_jacquard_prim_thrownTexts), ("jacquard/prim.endingTexts", laid_jacquard_prim_endingTexts), ("jacquard/prim.arities", laid_jacquard_prim_arities)], narrowed := true }
def PrimTablesUptoSaid : Prop := primTablesUptoRow.holds Tryd.pinned (OpenSpec.upto primTablesSpec)

end Rows
end Go.Proofs.YtajnpdiepiinjaaDoor
