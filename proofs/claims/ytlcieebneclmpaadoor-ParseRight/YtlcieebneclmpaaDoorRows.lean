/-
  NARROWER THAN 'FOR EVERY INPUT', by the rows' own cells (each row's printed sentence says how): ParseChecks: laid · ParseBehinds: laid · ParseRight: laid · ParseParts: laid · ParseNames: laid · ParseWraps: laid.
  DERIVED. THE GIVEN ROWS OF THIS SEAT. 6 by the template 'for every input the law returns true; each argument reads behind the call as it read before'; 0 by the template 'total and deterministic' (their statements: YtlcieebneclmpaaDoorTotals.lean).
  GIVEN WITH THE SEED: the statements are not yours to turn. If you find one false, say at which input.
  Laid BY PROGRAM, IN A SANDBOX (cutbox-rows.mjs): the forced cells as the released guide's own fill.sh prints them over the translation 70c4ce223bb9e7c9… (all of the seat's roots in one cut). By AI agents, Wed Nov 11 2026. No macro, syntax, notation, axiom, sorry.
-/
import Derived.Test.YtlcieebneclmpaaDoorChecked
import GoSem.Claim
import GoSem.ClaimJoined
import GoSem.ClaimMapViews
import Derived.JoinedTies
import Derived.KernelRfl
namespace Go.Proofs.YtlcieebneclmpaaDoor
/- THE CELL 'sum', in the pinned program and in every row, IS THE sha256 OF THE DUMP (.gsa) THAT YtlcieebneclmpaaDoorProg.lean LOADS. Nothing in Lean hashes anything: it is a label: what it is worth is what the hold of that sum in a sandbox is worth. -/
noncomputable def Tryd.pinned : Pinned := { name := "ytlcieebneclmpaadoor", sum := "70c4ce223bb9e7c991fd1c57aed28b1565f670b0784d664a478bdf1608867a1a", checked := Tryd.checked }
namespace Rows
def none {H : Type} : Left H := { results := [], args := [] }

/- WHAT THE LISTED PACKAGE-LEVEL VARIABLES READ AS WHEN THE CALL BEGINS. Each datum BY PROGRAM (the guide's laid-datum.mjs) off the statement by which the dump's own 'gosem.cut.vars' lays the variable. In a bare row this is a premise. The card (YtlcieebneclmpaaDoorCards.lean) ties it to the program's text. -/
def laid_jacquard_lex_signs {H : Type} : DataW H := .agg [.lit (.string [61, 61]), .lit (.string [33, 61]), .lit (.string [60, 61]), .lit (.string [62, 61]), .lit (.string [43]), .lit (.string [45]), .lit (.string [42]), .lit (.string [47]), .lit (.string [37]), .lit (.string [60]), .lit (.string [62]), .lit (.string [61]), .lit (.string [40]), .lit (.string [41]), .lit (.string [91]), .lit (.string [93]), .lit (.string [123]), .lit (.string [125]), .lit (.string [44]), .lit (.string [59]), .lit (.string [58]), .lit (.string [46])]
def laid_jacquard_parse_shapes {H : Type} : DataW H := .agg [.agg [.lit (.int .i64 0), .lit (.int .i64 0), .lit (.int .i64 0), .lit (.int .i64 0)], .agg [.lit (.int .i64 1), .lit (.int .i64 0), .lit (.int .i64 9223372036854775807), .lit (.int .i64 0)], .agg [.lit (.int .i64 2), .lit (.int .i64 0), .lit (.int .i64 9223372036854775807), .lit (.int .i64 0)], .agg [.lit (.int .i64 2), .lit (.int .i64 1), .lit (.int .i64 1), .lit (.int .i64 1)], .agg [.lit (.int .i64 2), .lit (.int .i64 2), .lit (.int .i64 2), .lit (.int .i64 0)], .agg [.lit (.int .i64 2), .lit (.int .i64 2), .lit (.int .i64 3), .lit (.int .i64 0)], .agg [.lit (.int .i64 2), .lit (.int .i64 2), .lit (.int .i64 2), .lit (.int .i64 0)], .agg [.lit (.int .i64 2), .lit (.int .i64 0), .lit (.int .i64 0), .lit (.int .i64 0)], .agg [.lit (.int .i64 2), .lit (.int .i64 0), .lit (.int .i64 0), .lit (.int .i64 0)], .agg [.lit (.int .i64 2), .lit (.int .i64 0), .lit (.int .i64 1), .lit (.int .i64 0)], .agg [.lit (.int .i64 2), .lit (.int .i64 1), .lit (.int .i64 1), .lit (.int .i64 0)], .agg [.lit (.int .i64 2), .lit (.int .i64 2), .lit (.int .i64 2), .lit (.int .i64 1)], .agg [.lit (.int .i64 2), .lit (.int .i64 1), .lit (.int .i64 17), .lit (.int .i64 1)], .agg [.lit (.int .i64 2), .lit (.int .i64 1), .lit (.int .i64 1), .lit (.int .i64 0)], .agg [.lit (.int .i64 3), .lit (.int .i64 0), .lit (.int .i64 0), .lit (.int .i64 0)], .agg [.lit (.int .i64 3), .lit (.int .i64 0), .lit (.int .i64 0), .lit (.int .i64 0)], .agg [.lit (.int .i64 3), .lit (.int .i64 0), .lit (.int .i64 0), .lit (.int .i64 0)], .agg [.lit (.int .i64 3), .lit (.int .i64 0), .lit (.int .i64 0), .lit (.int .i64 0)], .agg [.lit (.int .i64 3), .lit (.int .i64 0), .lit (.int .i64 0), .lit (.int .i64 0)], .agg [.lit (.int .i64 3), .lit (.int .i64 0), .lit (.int .i64 0), .lit (.int .i64 1)], .agg [.lit (.int .i64 3), .lit (.int .i64 0), .lit (.int .i64 9223372036854775807), .lit (.int .i64 0)], .agg [.lit (.int .i64 3), .lit (.int .i64 0), .lit (.int .i64 9223372036854775807), .lit (.int .i64 0)], .agg [.lit (.int .i64 4), .lit (.int .i64 1), .lit (.int .i64 1), .lit (.int .i64 1)], .agg [.lit (.int .i64 3), .lit (.int .i64 2), .lit (.int .i64 2), .lit (.int .i64 0)], .agg [.lit (.int .i64 3), .lit (.int .i64 2), .lit (.int .i64 2), .lit (.int .i64 0)], .agg [.lit (.int .i64 3), .lit (.int .i64 2), .lit (.int .i64 2), .lit (.int .i64 0)], .agg [.lit (.int .i64 3), .lit (.int .i64 1), .lit (.int .i64 1), .lit (.int .i64 0)], .agg [.lit (.int .i64 3), .lit (.int .i64 1), .lit (.int .i64 1), .lit (.int .i64 0)], .agg [.lit (.int .i64 3), .lit (.int .i64 1), .lit (.int .i64 17), .lit (.int .i64 0)], .agg [.lit (.int .i64 3), .lit (.int .i64 2), .lit (.int .i64 2), .lit (.int .i64 0)], .agg [.lit (.int .i64 3), .lit (.int .i64 1), .lit (.int .i64 1), .lit (.int .i64 1)], .agg [.lit (.int .i64 3), .lit (.int .i64 1), .lit (.int .i64 17), .lit (.int .i64 0)], .agg [.lit (.int .i64 3), .lit (.int .i64 1), .lit (.int .i64 17), .lit (.int .i64 0)]]

/-- 'jacquardlaw06.ParseChecks': WHATEVER THE INPUT: true; the input reads as it did. -/
def parseChecksSpec : ChangeSpec := { name := "parseChecks", fn := fun _ => fun
  | [d] => { results := [.lit (.bool true)], args := [d] }
  | _ => none }
def parseChecksRow : OpenClaim := { program := "ytlcieebneclmpaadoor", sum := "70c4ce223bb9e7c991fd1c57aed28b1565f670b0784d664a478bdf1608867a1a", func := "jacquard/jacquardlaw06.ParseChecks", spec := "parseChecks", unfollowed := true, recurses := true, named := ["jacquard/lex.signs", "jacquard/parse.shapes"], apart := false, laid := [("jacquard/lex.signs", laid_jacquard_lex_signs), ("jacquard/parse.shapes", laid_jacquard_parse_shapes)] }
def ParseChecksSaid : Prop := parseChecksRow.holds Tryd.pinned (OpenSpec.ofChange parseChecksSpec)

/-- ITS FALSE NEIGHBOUR: 'it returns false'. Refute it at one input. -/
def parseChecksWrong : ChangeSpec := { name := "parseChecks", fn := fun _ => fun
  | [d] => { results := [.lit (.bool false)], args := [d] }
  | _ => none }
def ParseChecksWrongFalsely : Prop := parseChecksRow.holds Tryd.pinned (OpenSpec.ofChange parseChecksWrong)

/-- 'jacquardlaw06.ParseBehinds': WHATEVER THE INPUT: true; the input reads as it did. -/
def parseBehindsSpec : ChangeSpec := { name := "parseBehinds", fn := fun _ => fun
  | [d1, d2] => { results := [.lit (.bool true)], args := [d1, d2] }
  | _ => none }
def parseBehindsRow : OpenClaim := { program := "ytlcieebneclmpaadoor", sum := "70c4ce223bb9e7c991fd1c57aed28b1565f670b0784d664a478bdf1608867a1a", func := "jacquard/jacquardlaw06.ParseBehinds", spec := "parseBehinds", unfollowed := true, recurses := true, named := ["jacquard/lex.signs", "jacquard/parse.shapes"], apart := false, laid := [("jacquard/lex.signs", laid_jacquard_lex_signs), ("jacquard/parse.shapes", laid_jacquard_parse_shapes)] }
def ParseBehindsSaid : Prop := parseBehindsRow.holds Tryd.pinned (OpenSpec.ofChange parseBehindsSpec)

/-- ITS FALSE NEIGHBOUR: 'it returns false'. Refute it at one input. -/
def parseBehindsWrong : ChangeSpec := { name := "parseBehinds", fn := fun _ => fun
  | [d1, d2] => { results := [.lit (.bool false)], args := [d1, d2] }
  | _ => none }
def ParseBehindsWrongFalsely : Prop := parseBehindsRow.holds Tryd.pinned (OpenSpec.ofChange parseBehindsWrong)

/-- 'jacquardlaw06.ParseRight': WHATEVER THE INPUT: true; the input reads as it did. -/
def parseRightSpec : ChangeSpec := { name := "parseRight", fn := fun _ => fun
  | [d] => { results := [.lit (.bool true)], args := [d] }
  | _ => none }
def parseRightRow : OpenClaim := { program := "ytlcieebneclmpaadoor", sum := "70c4ce223bb9e7c991fd1c57aed28b1565f670b0784d664a478bdf1608867a1a", func := "jacquard/jacquardlaw06.ParseRight", spec := "parseRight", unfollowed := true, recurses := true, named := ["jacquard/lex.signs", "jacquard/parse.shapes"], apart := false, laid := [("jacquard/lex.signs", laid_jacquard_lex_signs), ("jacquard/parse.shapes", laid_jacquard_parse_shapes)] }
def ParseRightSaid : Prop := parseRightRow.holds Tryd.pinned (OpenSpec.ofChange parseRightSpec)

/-- ITS FALSE NEIGHBOUR: 'it returns false'. Refute it at one input. -/
def parseRightWrong : ChangeSpec := { name := "parseRight", fn := fun _ => fun
  | [d] => { results := [.lit (.bool false)], args := [d] }
  | _ => none }
def ParseRightWrongFalsely : Prop := parseRightRow.holds Tryd.pinned (OpenSpec.ofChange parseRightWrong)

/-- 'jacquardlaw06.ParseParts': WHATEVER THE INPUT: true; the input reads as it did. -/
def parsePartsSpec : ChangeSpec := { name := "parseParts", fn := fun _ => fun
  | [d1, d2] => { results := [.lit (.bool true)], args := [d1, d2] }
  | _ => none }
def parsePartsRow : OpenClaim := { program := "ytlcieebneclmpaadoor", sum := "70c4ce223bb9e7c991fd1c57aed28b1565f670b0784d664a478bdf1608867a1a", func := "jacquard/jacquardlaw06.ParseParts", spec := "parseParts", unfollowed := true, recurses := true, named := ["jacquard/lex.signs", "jacquard/parse.shapes"], apart := false, laid := [("jacquard/lex.signs", laid_jacquard_lex_signs), ("jacquard/parse.shapes", laid_jacquard_parse_shapes)] }
def ParsePartsSaid : Prop := parsePartsRow.holds Tryd.pinned (OpenSpec.ofChange parsePartsSpec)

/-- ITS FALSE NEIGHBOUR: 'it returns false'. Refute it at one input. -/
def parsePartsWrong : ChangeSpec := { name := "parseParts", fn := fun _ => fun
  | [d1, d2] => { results := [.lit (.bool false)], args := [d1, d2] }
  | _ => none }
def ParsePartsWrongFalsely : Prop := parsePartsRow.holds Tryd.pinned (OpenSpec.ofChange parsePartsWrong)

/-- 'jacquardlaw06.ParseNames': WHATEVER THE INPUT: true; the input reads as it did. -/
def parseNamesSpec : ChangeSpec := { name := "parseNames", fn := fun _ => fun
  | [d] => { results := [.lit (.bool true)], args := [d] }
  | _ => none }
def parseNamesRow : OpenClaim := { program := "ytlcieebneclmpaadoor", sum := "70c4ce223bb9e7c991fd1c57aed28b1565f670b0784d664a478bdf1608867a1a", func := "jacquard/jacquardlaw06.ParseNames", spec := "parseNames", unfollowed := true, recurses := true, named := ["jacquard/lex.signs", "jacquard/parse.shapes"], apart := false, laid := [("jacquard/lex.signs", laid_jacquard_lex_signs), ("jacquard/parse.shapes", laid_jacquard_parse_shapes)] }
def ParseNamesSaid : Prop := parseNamesRow.holds Tryd.pinned (OpenSpec.ofChange parseNamesSpec)

/-- ITS FALSE NEIGHBOUR: 'it returns false'. Refute it at one input. -/
def parseNamesWrong : ChangeSpec := { name := "parseNames", fn := fun _ => fun
  | [d] => { results := [.lit (.bool false)], args := [d] }
  | _ => none }
def ParseNamesWrongFalsely : Prop := parseNamesRow.holds Tryd.pinned (OpenSpec.ofChange parseNamesWrong)

/-- 'jacquardlaw06.ParseWraps': WHATEVER THE INPUT: true; the input reads as it did. -/
def parseWrapsSpec : ChangeSpec := { name := "parseWraps", fn := fun _ => fun
  | [d] => { results := [.lit (.bool true)], args := [d] }
  | _ => none }
def parseWrapsRow : OpenClaim := { program := "ytlcieebneclmpaadoor", sum := "70c4ce223bb9e7c991fd1c57aed28b1565f670b0784d664a478bdf1608867a1a", func := "jacquard/jacquardlaw06.ParseWraps", spec := "parseWraps", unfollowed := true, recurses := true, named := ["jacquard/lex.signs", "jacquard/parse.shapes"], apart := false, laid := [("jacquard/lex.signs", laid_jacquard_lex_signs), ("jacquard/parse.shapes", laid_jacquard_parse_shapes)] }
def ParseWrapsSaid : Prop := parseWrapsRow.holds Tryd.pinned (OpenSpec.ofChange parseWrapsSpec)

/-- ITS FALSE NEIGHBOUR: 'it returns false'. Refute it at one input. -/
def parseWrapsWrong : ChangeSpec := { name := "parseWraps", fn := fun _ => fun
  | [d] => { results := [.lit (.bool false)], args := [d] }
  | _ => none }
def ParseWrapsWrongFalsely : Prop := parseWrapsRow.holds Tryd.pinned (OpenSpec.ofChange parseWrapsWrong)

/- THE SECOND FORM. 'bulk': how many values and letters a reading holds, each counted each time it is reached (what is shared counts as often as it is met; a slice's spare places count too). A statement '..UptoSaid' is the law's where the arguments, and the package variables that the reading takes, are together of bulk at most 1048576: NARROWER than '..Said'. Prove '..Said' where nothing that the law and all that it calls make is longer than what came in: it says more and counts as full. Else prove '..UptoSaid'. A law counts once. -/
mutual
def uptoBulk {H : Type} : DataW H → Nat
  | .lit (.string bytes) => bytes.length + 1
  | .lit _ => 1
  | .nil => 1
  | .ptr d => uptoBulk d + 1
  | .slice elems spare => uptoBulkAll elems + uptoBulkAll spare + 1
  | .agg parts => uptoBulkAll parts + 1
  | .iface _ d => uptoBulk d + 1
  | .map entries => uptoBulkEntries entries + 1
  | .held _ => 1
def uptoBulkAll {H : Type} : List (DataW H) → Nat
  | [] => 0
  | d :: r => uptoBulk d + uptoBulkAll r
def uptoBulkEntries {H : Type} : List (Lit × DataW H) → Nat
  | [] => 0
  | x :: r => uptoBulkEntry x + uptoBulkEntries r
def uptoBulkEntry {H : Type} : Lit × DataW H → Nat
  | (.string bytes, d) => bytes.length + uptoBulk d + 1
  | (_, d) => uptoBulk d + 1
 end
def uptoSmall : (H : Type) → List (DataW H) → Bool := fun _ ds => decide (uptoBulkAll ds ≤ 1048576)
def OpenSpec.upto (s : _root_.Go.ChangeSpec) : _root_.Go.OpenSpec := { _root_.Go.OpenSpec.ofChange s with cond := some uptoSmall }

/-- 'jacquardlaw06.ParseChecks', WHERE WHAT IT READS IS OF BULK AT MOST 1048576: true; the input reads as it did. -/
def parseChecksUptoRow : OpenClaim := { program := "ytlcieebneclmpaadoor", sum := "70c4ce223bb9e7c991fd1c57aed28b1565f670b0784d664a478bdf1608867a1a", func := "jacquard/jacquardlaw06.ParseChecks", spec := "parseChecks", unfollowed := true, recurses := true, named := ["jacquard/lex.signs", "jacquard/parse.shapes"], apart := false, laid := [("jacquard/lex.signs", laid_jacquard_lex_signs), ("jacquard/parse.shapes", laid_jacquard_parse_shapes)], narrowed := true }
def ParseChecksUptoSaid : Prop := parseChecksUptoRow.holds Tryd.pinned (OpenSpec.upto parseChecksSpec)

/-- 'jacquardlaw06.ParseBehinds', WHERE WHAT IT READS IS OF BULK AT MOST 1048576: true; the input reads as it did. -/
def parseBehindsUptoRow : OpenClaim := { program := "ytlcieebneclmpaadoor", sum := "70c4ce223bb9e7c991fd1c57aed28b1565f670b0784d664a478bdf1608867a1a", func := "jacquard/jacquardlaw06.ParseBehinds", spec := "parseBehinds", unfollowed := true, recurses := true, named := ["jacquard/lex.signs", "jacquard/parse.shapes"], apart := false, laid := [("jacquard/lex.signs", laid_jacquard_lex_signs), ("jacquard/parse.shapes", laid_jacquard_parse_shapes)], narrowed := true }
def ParseBehindsUptoSaid : Prop := parseBehindsUptoRow.holds Tryd.pinned (OpenSpec.upto parseBehindsSpec)

/-- 'jacquardlaw06.ParseRight', WHERE WHAT IT READS IS OF BULK AT MOST 1048576: true; the input reads as it did. -/
def parseRightUptoRow : OpenClaim := { program := "ytlcieebneclmpaadoor", sum := "70c4ce223bb9e7c991fd1c57aed28b1565f670b0784d664a478bdf1608867a1a", func := "jacquard/jacquardlaw06.ParseRight", spec := "parseRight", unfollowed := true, recurses := true, named := ["jacquard/lex.signs", "jacquard/parse.shapes"], apart := false, laid := [("jacquard/lex.signs", laid_jacquard_lex_signs), ("jacquard/parse.shapes", laid_jacquard_parse_shapes)], narrowed := true }
def ParseRightUptoSaid : Prop := parseRightUptoRow.holds Tryd.pinned (OpenSpec.upto parseRightSpec)

/-- 'jacquardlaw06.ParseParts', WHERE WHAT IT READS IS OF BULK AT MOST 1048576: true; the input reads as it did. -/
def parsePartsUptoRow : OpenClaim := { program := "ytlcieebneclmpaadoor", sum := "70c4ce223bb9e7c991fd1c57aed28b1565f670b0784d664a478bdf1608867a1a", func := "jacquard/jacquardlaw06.ParseParts", spec := "parseParts", unfollowed := true, recurses := true, named := ["jacquard/lex.signs", "jacquard/parse.shapes"], apart := false, laid := [("jacquard/lex.signs", laid_jacquard_lex_signs), ("jacquard/parse.shapes", laid_jacquard_parse_shapes)], narrowed := true }
def ParsePartsUptoSaid : Prop := parsePartsUptoRow.holds Tryd.pinned (OpenSpec.upto parsePartsSpec)

/-- 'jacquardlaw06.ParseNames', WHERE WHAT IT READS IS OF BULK AT MOST 1048576: true; the input reads as it did. -/
def parseNamesUptoRow : OpenClaim := { program := "ytlcieebneclmpaadoor", sum := "70c4ce223bb9e7c991fd1c57aed28b1565f670b0784d664a478bdf1608867a1a", func := "jacquard/jacquardlaw06.ParseNames", spec := "parseNames", unfollowed := true, recurses := true, named := ["jacquard/lex.signs", "jacquard/parse.shapes"], apart := false, laid := [("jacquard/lex.signs", laid_jacquard_lex_signs), ("jacquard/parse.shapes", laid_jacquard_parse_shapes)], narrowed := true }
def ParseNamesUptoSaid : Prop := parseNamesUptoRow.holds Tryd.pinned (OpenSpec.upto parseNamesSpec)

/-- 'jacquardlaw06.ParseWraps', WHERE WHAT IT READS IS OF BULK AT MOST 1048576: true; the input reads as it did. -/
def parseWrapsUptoRow : OpenClaim := { program := "ytlcieebneclmpaadoor", sum := "70c4ce223bb9e7c991fd1c57aed28b1565f670b0784d664a478bdf1608867a1a", func := "jacquard/jacquardlaw06.ParseWraps", spec := "parseWraps", unfollowed := true, recurses := true, named := ["jacquard/lex.signs", "jacquard/parse.shapes"], apart := false, laid := [("jacquard/lex.signs", laid_jacquard_lex_signs), ("jacquard/parse.shapes", laid_jacquard_parse_shapes)], narrowed := true }
def ParseWrapsUptoSaid : Prop := parseWrapsUptoRow.holds Tryd.pinned (OpenSpec.upto parseWrapsSpec)

end Rows
end Go.Proofs.YtlcieebneclmpaaDoor
