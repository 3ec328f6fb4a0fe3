/-
  NARROWER THAN 'FOR EVERY INPUT', by the rows' own cells (each row's printed sentence says how): PrimBins: laid.
  DERIVED. THE GIVEN ROWS OF THIS SEAT. 1 by the template 'for every input the law returns true; each argument reads behind the call as it read before'; 0 by the template 'total and deterministic' (their statements: YtjcoifdfemejkaaGreatDoorTotals.lean).
  GIVEN WITH THE SEED: the statements are not yours to turn. If you find one false, say at which input.
  Laid BY PROGRAM, IN A SANDBOX (cutbox-rows.mjs): the forced cells as the released guide's own fill.sh prints them over the translation d15d47f1b82b11bd… (all of the seat's roots in one cut). By AI agents, Wed Nov 11 2026. No macro, syntax, notation, axiom, sorry.
-/
import Derived.Test.YtjcoifdfemejkaaGreatDoorChecked
import GoSem.Claim
import GoSem.ClaimJoined
import GoSem.ClaimMapViews
import Derived.JoinedTies
import Derived.KernelRfl
namespace Go.Proofs.YtjcoifdfemejkaaGreatDoor
/- THE CELL 'sum', in the pinned program and in every row, IS THE sha256 OF THE DUMP (.gsa) THAT YtjcoifdfemejkaaGreatDoorProg.lean LOADS. Nothing in Lean hashes anything: it is a label: what it is worth is what the hold of that sum in a sandbox is worth. -/
noncomputable def Tryz.pinned : Pinned := { name := "ytjcoifdfemejkaagreatdoor", sum := "d15d47f1b82b11bdd186d1a64d7ec1de52d1faeda43eb354a914c96786892e42", checked := Tryz.checked }
namespace Rows
def none {H : Type} : Left H := { results := [], args := [] }

/- WHAT THE LISTED PACKAGE-LEVEL VARIABLES READ AS WHEN THE CALL BEGINS. Each datum BY PROGRAM (the guide's laid-datum.mjs) off the statement by which the dump's own 'gosem.cut.vars' lays the variable. In a bare row this is a premise. The card (YtjcoifdfemejkaaGreatDoorCards.lean) ties it to the program's text. -/
def laid_jacquard_prim_thrownTexts {H : Type} : DataW H := .agg [.lit (.string []), .lit (.string [116, 121, 112, 101]), .lit (.string [122, 101, 114, 111]), .lit (.string [114, 97, 110, 103, 101]), .lit (.string [102, 105, 101, 108, 100]), .lit (.string [108, 111, 110, 103]), .lit (.string [99, 97, 108, 108]), .lit (.string [97, 114, 103, 115]), .lit (.string [115, 116, 97, 116, 101])]
def laid_jacquard_prim_endingTexts {H : Type} : DataW H := .agg [.lit (.string [104, 101, 97, 112]), .lit (.string [100, 101, 112, 116, 104]), .lit (.string [116, 104, 114, 101, 97, 100, 115])]

/-- 'jacquardlaw09.PrimBins': WHATEVER THE INPUT: true; the input reads as it did. -/
def primBinsSpec : ChangeSpec := { name := "primBins", fn := fun _ => fun
  | [d1, d2, d3, d4] => { results := [.lit (.bool true)], args := [d1, d2, d3, d4] }
  | _ => none }
def primBinsRow : OpenClaim := { program := "ytjcoifdfemejkaagreatdoor", sum := "d15d47f1b82b11bdd186d1a64d7ec1de52d1faeda43eb354a914c96786892e42", func := "jacquard/jacquardlaw09.PrimBins", spec := "primBins", inPlace := ["math.Float64frombits", "math.Float64bits", "internal/bytealg.Compare"], named := ["jacquard/prim.thrownTexts", "jacquard/prim.endingTexts"], apart := false, laid := [("jacquard/prim.thrownTexts", laid_jacquard_prim_thrownTexts), ("jacquard/prim.endingTexts", laid_jacquard_prim_endingTexts)] }
def PrimBinsSaid : Prop := primBinsRow.holds Tryz.pinned (OpenSpec.ofChange primBinsSpec)

/-- ITS FALSE NEIGHBOUR: 'it returns false'. Refute it at one input. -/
def primBinsWrong : ChangeSpec := { name := "primBins", fn := fun _ => fun
  | [d1, d2, d3, d4] => { results := [.lit (.bool false)], args := [d1, d2, d3, d4] }
  | _ => none }
def PrimBinsWrongFalsely : Prop := primBinsRow.holds Tryz.pinned (OpenSpec.ofChange primBinsWrong)

/- THE SECOND FORM. 'bulk': how many values and letters a reading holds, each counted each time it is reached (what is shared counts as often as it is met; a slice's spare places count too). A statement '..UptoSaid' is the law's where the arguments, and the package variables that the reading takes, are together of bulk at most 1048576: NARROWER than '..Said'. Prove '..Said' where nothing that the law and all that it calls make is longer than what came in: it says more and counts as full. Else prove '..UptoSaid'. A law counts once. -/
mutual
def uptoBulk {H : Type} : DataW H → Nat
  | .lit (.string bytes) => bytes.length + 1
  | .lit _ => 1
  | .nil => 1
  | .ptr d => uptoBulk d + 1
  | .slice elems spare => uptoBulkAll elems + uptoBulkAll spare + 1
  | .agg parts => uptoBulkAll parts + 1
  | .iface _ d => uptoBulk d + 1
  | .map entries => uptoBulkEntries entries + 1
  | .held _ => 1
def uptoBulkAll {H : Type} : List (DataW H) → Nat
  | [] => 0
  | d :: r => uptoBulk d + uptoBulkAll r
def uptoBulkEntries {H : Type} : List (Lit × DataW H) → Nat
  | [] => 0
  | x :: r => uptoBulkEntry x + uptoBulkEntries r
def uptoBulkEntry {H : Type} : Lit × DataW H → Nat
  | (.string bytes, d) => bytes.length + uptoBulk d + 1
  | (_, d) => uptoBulk d + 1
 end
def uptoSmall : (H : Type) → List (DataW H) → Bool := fun _ ds => decide (uptoBulkAll ds ≤ 1048576)
def OpenSpec.upto (s : _root_.Go.ChangeSpec) : _root_.Go.OpenSpec := { _root_.Go.OpenSpec.ofChange s with cond := some uptoSmall }

/-- 'jacquardlaw09.PrimBins', WHERE WHAT IT READS IS OF BULK AT MOST 1048576: true; the input reads as it did. -/
def primBinsUptoRow : OpenClaim := { program := "ytjcoifdfemejkaagreatdoor", sum := "d15d47f1b82b11bdd186d1a64d7ec1de52d1faeda43eb354a914c96786892e42", func := "jacquard/jacquardlaw09.PrimBins", spec := "primBins", inPlace := ["math.Float64frombits", "math.Float64bits", "internal/bytealg.Compare"], named := ["jacquard/prim.thrownTexts", "jacquard/prim.endingTexts"], apart := false, laid := [("jacquard/prim.thrownTexts", laid_jacquard_prim_thrownTexts), ("jacquard/prim.endingTexts", laid_jacquard_prim_endingTexts)], narrowed := true }
def PrimBinsUptoSaid : Prop := primBinsUptoRow.holds Tryz.pinned (OpenSpec.upto primBinsSpec)

end Rows
end Go.Proofs.YtjcoifdfemejkaaGreatDoor
