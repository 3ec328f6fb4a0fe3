/-
  NARROWER THAN 'FOR EVERY INPUT', by the rows' own cells (each row's printed sentence says how): ScopePrims: laid · ScopeNumbers: laid.
  DERIVED. THE GIVEN ROWS OF THIS SEAT. 2 by the template 'for every input the law returns true; each argument reads behind the call as it read before'; 0 by the template 'total and deterministic' (their statements: YtekkjpecdflajaaDoorTotals.lean).
  GIVEN WITH THE SEED: the statements are not yours to turn. If you find one false, say at which input.
  Laid BY PROGRAM, IN A SANDBOX (cutbox-rows.mjs): the forced cells as the released guide's own fill.sh prints them over the translation 8ea75edd712513ed… (all of the seat's roots in one cut). By AI agents, Wed Nov 11 2026. No macro, syntax, notation, axiom, sorry.
-/
import Derived.Test.YtekkjpecdflajaaDoorChecked
import GoSem.Claim
import GoSem.ClaimJoined
import GoSem.ClaimMapViews
import Derived.JoinedTies
import Derived.KernelRfl
namespace Go.Proofs.YtekkjpecdflajaaDoor
/- THE CELL 'sum', in the pinned program and in every row, IS THE sha256 OF THE DUMP (.gsa) THAT YtekkjpecdflajaaDoorProg.lean LOADS. Nothing in Lean hashes anything: it is a label: what it is worth is what the hold of that sum in a sandbox is worth. -/
noncomputable def Tryd.pinned : Pinned := { name := "ytekkjpecdflajaadoor", sum := "8ea75edd712513ed15c413107138807fdc2086773758eee57264dccff3dfd815", checked := Tryd.checked }
namespace Rows
def none {H : Type} : Left H := { results := [], args := [] }

/- WHAT THE LISTED PACKAGE-LEVEL VARIABLES READ AS WHEN THE CALL BEGINS. Each datum BY PROGRAM (the guide's laid-datum.mjs) off the statement by which the dump's own 'gosem.cut.vars' lays the variable. In a bare row this is a premise. The card (YtekkjpecdflajaaDoorCards.lean) ties it to the program's text. -/
def laid_jacquard_parse_shapes {H : Type} : DataW H := .agg [.agg [.lit (.int .i64 0), .lit (.int .i64 0), .lit (.int .i64 0), .lit (.int .i64 0)], .agg [.lit (.int .i64 1), .lit (.int .i64 0), .lit (.int .i64 9223372036854775807), .lit (.int .i64 0)], .agg [.lit (.int .i64 2), .lit (.int .i64 0), .lit (.int .i64 9223372036854775807), .lit (.int .i64 0)], .agg [.lit (.int .i64 2), .lit (.int .i64 1), .lit (.int .i64 1), .lit (.int .i64 1)], .agg [.lit (.int .i64 2), .lit (.int .i64 2), .lit (.int .i64 2), .lit (.int .i64 0)], .agg [.lit (.int .i64 2), .lit (.int .i64 2), .lit (.int .i64 3), .lit (.int .i64 0)], .agg [.lit (.int .i64 2), .lit (.int .i64 2), .lit (.int .i64 2), .lit (.int .i64 0)], .agg [.lit (.int .i64 2), .lit (.int .i64 0), .lit (.int .i64 0), .lit (.int .i64 0)], .agg [.lit (.int .i64 2), .lit (.int .i64 0), .lit (.int .i64 0), .lit (.int .i64 0)], .agg [.lit (.int .i64 2), .lit (.int .i64 0), .lit (.int .i64 1), .lit (.int .i64 0)], .agg [.lit (.int .i64 2), .lit (.int .i64 1), .lit (.int .i64 1), .lit (.int .i64 0)], .agg [.lit (.int .i64 2), .lit (.int .i64 2), .lit (.int .i64 2), .lit (.int .i64 1)], .agg [.lit (.int .i64 2), .lit (.int .i64 1), .lit (.int .i64 17), .lit (.int .i64 1)], .agg [.lit (.int .i64 2), .lit (.int .i64 1), .lit (.int .i64 1), .lit (.int .i64 0)], .agg [.lit (.int .i64 3), .lit (.int .i64 0), .lit (.int .i64 0), .lit (.int .i64 0)], .agg [.lit (.int .i64 3), .lit (.int .i64 0), .lit (.int .i64 0), .lit (.int .i64 0)], .agg [.lit (.int .i64 3), .lit (.int .i64 0), .lit (.int .i64 0), .lit (.int .i64 0)], .agg [.lit (.int .i64 3), .lit (.int .i64 0), .lit (.int .i64 0), .lit (.int .i64 0)], .agg [.lit (.int .i64 3), .lit (.int .i64 0), .lit (.int .i64 0), .lit (.int .i64 0)], .agg [.lit (.int .i64 3), .lit (.int .i64 0), .lit (.int .i64 0), .lit (.int .i64 1)], .agg [.lit (.int .i64 3), .lit (.int .i64 0), .lit (.int .i64 9223372036854775807), .lit (.int .i64 0)], .agg [.lit (.int .i64 3), .lit (.int .i64 0), .lit (.int .i64 9223372036854775807), .lit (.int .i64 0)], .agg [.lit (.int .i64 4), .lit (.int .i64 1), .lit (.int .i64 1), .lit (.int .i64 1)], .agg [.lit (.int .i64 3), .lit (.int .i64 2), .lit (.int .i64 2), .lit (.int .i64 0)], .agg [.lit (.int .i64 3), .lit (.int .i64 2), .lit (.int .i64 2), .lit (.int .i64 0)], .agg [.lit (.int .i64 3), .lit (.int .i64 2), .lit (.int .i64 2), .lit (.int .i64 0)], .agg [.lit (.int .i64 3), .lit (.int .i64 1), .lit (.int .i64 1), .lit (.int .i64 0)], .agg [.lit (.int .i64 3), .lit (.int .i64 1), .lit (.int .i64 1), .lit (.int .i64 0)], .agg [.lit (.int .i64 3), .lit (.int .i64 1), .lit (.int .i64 17), .lit (.int .i64 0)], .agg [.lit (.int .i64 3), .lit (.int .i64 2), .lit (.int .i64 2), .lit (.int .i64 0)], .agg [.lit (.int .i64 3), .lit (.int .i64 1), .lit (.int .i64 1), .lit (.int .i64 1)], .agg [.lit (.int .i64 3), .lit (.int .i64 1), .lit (.int .i64 17), .lit (.int .i64 0)], .agg [.lit (.int .i64 3), .lit (.int .i64 1), .lit (.int .i64 17), .lit (.int .i64 0)]]
def laid_jacquard_scope_primitives {H : Type} : DataW H := .agg [.lit (.string [112, 114, 105, 110, 116]), .lit (.string [108, 101, 110]), .lit (.string [112, 117, 115, 104]), .lit (.string [112, 111, 112]), .lit (.string [107, 101, 121, 115]), .lit (.string [104, 97, 115]), .lit (.string [103, 101, 116]), .lit (.string [112, 117, 116]), .lit (.string [115, 97, 109, 101]), .lit (.string [116, 101, 120, 116]), .lit (.string [99, 120]), .lit (.string [114, 101]), .lit (.string [105, 109]), .lit (.string [107, 105, 110, 100]), .lit (.string [121, 105, 101, 108, 100]), .lit (.string [115, 108, 101, 101, 112]), .lit (.string [110, 111, 119]), .lit (.string [114, 97, 110, 100]), .lit (.string [106, 111, 105, 110]), .lit (.string [98, 111, 120]), .lit (.string [115, 101, 110, 100]), .lit (.string [114, 101, 99, 118]), .lit (.string [109, 111, 110, 105, 116, 111, 114]), .lit (.string [108, 111, 99, 107]), .lit (.string [117, 110, 108, 111, 99, 107]), .lit (.string [119, 97, 105, 116]), .lit (.string [119, 97, 105, 116, 102, 111, 114]), .lit (.string [110, 111, 116, 105, 102, 121]), .lit (.string [110, 111, 116, 105, 102, 121, 97, 108, 108]), .lit (.string [115, 101, 108, 102])]

/-- 'jacquardlaw08.ScopePrims': WHATEVER THE INPUT: true; the input reads as it did. -/
def scopePrimsSpec : ChangeSpec := { name := "scopePrims", fn := fun _ => fun
  | [d1, d2] => { results := [.lit (.bool true)], args := [d1, d2] }
  | _ => none }
def scopePrimsRow : OpenClaim := { program := "ytekkjpecdflajaadoor", sum := "8ea75edd712513ed15c413107138807fdc2086773758eee57264dccff3dfd815", func := "jacquard/jacquardlaw08.ScopePrims", spec := "scopePrims", recurses := true, named := ["jacquard/scope.primitives", "jacquard/parse.shapes"], apart := false, laid := [("jacquard/parse.shapes", laid_jacquard_parse_shapes), ("jacquard/scope.primitives", laid_jacquard_scope_primitives)] }
def ScopePrimsSaid : Prop := scopePrimsRow.holds Tryd.pinned (OpenSpec.ofChange scopePrimsSpec)

/-- ITS FALSE NEIGHBOUR: 'it returns false'. Refute it at one input. -/
def scopePrimsWrong : ChangeSpec := { name := "scopePrims", fn := fun _ => fun
  | [d1, d2] => { results := [.lit (.bool false)], args := [d1, d2] }
  | _ => none }
def ScopePrimsWrongFalsely : Prop := scopePrimsRow.holds Tryd.pinned (OpenSpec.ofChange scopePrimsWrong)

/-- 'jacquardlaw08.ScopeNumbers': WHATEVER THE INPUT: true; the input reads as it did. -/
def scopeNumbersSpec : ChangeSpec := { name := "scopeNumbers", fn := fun _ => fun
  | [d] => { results := [.lit (.bool true)], args := [d] }
  | _ => none }
def scopeNumbersRow : OpenClaim := { program := "ytekkjpecdflajaadoor", sum := "8ea75edd712513ed15c413107138807fdc2086773758eee57264dccff3dfd815", func := "jacquard/jacquardlaw08.ScopeNumbers", spec := "scopeNumbers", recurses := true, named := ["jacquard/scope.primitives", "jacquard/parse.shapes"], apart := false, laid := [("jacquard/parse.shapes", laid_jacquard_parse_shapes), ("jacquard/scope.primitives", laid_jacquard_scope_primitives)] }
def ScopeNumbersSaid : Prop := scopeNumbersRow.holds Tryd.pinned (OpenSpec.ofChange scopeNumbersSpec)

/-- ITS FALSE NEIGHBOUR: 'it returns false'. Refute it at one input. -/
def scopeNumbersWrong : ChangeSpec := { name := "scopeNumbers", fn := fun _ => fun
  | [d] => { results := [.lit (.bool false)], args := [d] }
  | _ => none }
def ScopeNumbersWrongFalsely : Prop := scopeNumbersRow.holds Tryd.pinned (OpenSpec.ofChange scopeNumbersWrong)

/- THE SECOND FORM. 'bulk': how many values and letters a reading holds, each counted each time it is reached (what is shared counts as often as it is met; a slice's spare places count too). A statement '..UptoSaid' is the law's where the arguments, and the package variables that the reading takes, are together of bulk at most 1048576: NARROWER than '..Said'. Prove '..Said' where nothing that the law and all that it calls make is longer than what came in: it says more and counts as full. Else prove '..UptoSaid'. A law counts once. -/
mutual
def uptoBulk {H : Type} : DataW H → Nat
  | .lit (.string bytes) => bytes.length + 1
  | .lit _ => 1
  | .nil => 1
  | .ptr d => uptoBulk d + 1
  | .slice elems spare => uptoBulkAll elems + uptoBulkAll spare + 1
  | .agg parts => uptoBulkAll parts + 1
  | .iface _ d => uptoBulk d + 1
  | .map entries => uptoBulkEntries entries + 1
  | .held _ => 1
def uptoBulkAll {H : Type} : List (DataW H) → Nat
  | [] => 0
  | d :: r => uptoBulk d + uptoBulkAll r
def uptoBulkEntries {H : Type} : List (Lit × DataW H) → Nat
  | [] => 0
  | x :: r => uptoBulkEntry x + uptoBulkEntries r
def uptoBulkEntry {H : Type} : Lit × DataW H → Nat
  | (.string bytes, d) => bytes.length + uptoBulk d + 1
  | (_, d) => uptoBulk d + 1
 end
def uptoSmall : (H : Type) → List (DataW H) → Bool := fun _ ds => decide (uptoBulkAll ds ≤ 1048576)
def OpenSpec.upto (s : _root_.Go.ChangeSpec) : _root_.Go.OpenSpec := { _root_.Go.OpenSpec.ofChange s with cond := some uptoSmall }

/-- 'jacquardlaw08.ScopePrims', WHERE WHAT IT READS IS OF BULK AT MOST 1048576: true; the input reads as it did. -/
def scopePrimsUptoRow : OpenClaim := { program := "ytekkjpecdflajaadoor", sum := "8ea75edd712513ed15c413107138807fdc2086773758eee57264dccff3dfd815", func := "jacquard/jacquardlaw08.ScopePrims", spec := "scopePrims", recurses := true, named := ["jacquard/scope.primitives", "jacquard/parse.shapes"], apart := false, laid := [("jacquard/parse.shapes", laid_jacquard_parse_shapes), ("jacquard/scope.primitives", laid_jacquard_scope_primitives)], narrowed := true }
def ScopePrimsUptoSaid : Prop := scopePrimsUptoRow.holds Tryd.pinned (OpenSpec.upto scopePrimsSpec)

/-- 'jacquardlaw08.ScopeNumbers', WHERE WHAT IT READS IS OF BULK AT MOST 1048576: true; the input reads as it did. -/
def scopeNumbersUptoRow : OpenClaim := { program := "ytekkjpecdflajaadoor", sum := "8ea75edd712513ed15c413107138807fdc2086773758eee57264dccff3dfd815", func := "jacquard/jacquardlaw08.ScopeNumbers", spec := "scopeNumbers", recurses := true, named := ["jacquard/scope.primitives", "jacquard/parse.shapes"], apart := false, laid := [("jacquard/parse.shapes", laid_jacquard_parse_shapes), ("jacquard/scope.primitives", laid_jacquard_scope_primitives)], narrowed := true }
def ScopeNumbersUptoSaid : Prop := scopeNumbersUptoRow.holds Tryd.pinned (OpenSpec.upto scopeNumbersSpec)

end Rows
end Go.Proofs.YtekkjpecdflajaaDoor
