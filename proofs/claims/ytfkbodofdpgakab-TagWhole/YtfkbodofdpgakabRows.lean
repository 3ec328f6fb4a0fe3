/-
  No cell of these rows narrows 'for every input' (looked for: loops, veiled, ifaces, maps, wideKeys, modest, calm, conditions, laid).
  DERIVED. THE GIVEN ROWS OF THIS SEAT. 5 by the template 'for every input the law returns true; each argument reads behind the call as it read before'; 0 by the template 'total and deterministic' (their statements: YtfkbodofdpgakabTotals.lean).
  GIVEN WITH THE SEED: the statements are not yours to turn. If you find one false, say at which input.
  Laid BY PROGRAM, IN A SANDBOX (cutbox-rows.mjs): the forced cells as the released guide's own fill.sh prints them over the translation 021565a0c5dd5865… (all of the seat's roots in one cut). By AI agents, Wed Nov 11 2026. No macro, syntax, notation, axiom, sorry.
-/
import Derived.Test.YtfkbodofdpgakabChecked
import GoSem.Claim
import GoSem.ClaimJoined
import GoSem.ClaimMapViews
import Derived.JoinedTies
import Derived.KernelRfl
namespace Go.Proofs.Ytfkbodofdpgakab
/- THE CELL 'sum', in the pinned program and in every row, IS THE sha256 OF THE DUMP (.gsa) THAT YtfkbodofdpgakabProg.lean LOADS. Nothing in Lean hashes anything: it is a label: what it is worth is what the hold of that sum in a sandbox is worth. -/
noncomputable def Try.pinned : Pinned := { name := "ytfkbodofdpgakab", sum := "021565a0c5dd5865512816e2732e187de291995d431421d329e927949ac3f3f4", checked := Try.checked }
namespace Rows
def none {H : Type} : Left H := { results := [], args := [] }

/-- 'jacquardlaw01.TagRules': WHATEVER THE INPUT: true; the input reads as it did. -/
def tagRulesSpec : ChangeSpec := { name := "tagRules", fn := fun _ => fun
  | [d1, d2, d3] => { results := [.lit (.bool true)], args := [d1, d2, d3] }
  | _ => none }
def tagRulesRow : OpenClaim := { program := "ytfkbodofdpgakab", sum := "021565a0c5dd5865512816e2732e187de291995d431421d329e927949ac3f3f4", func := "jacquard/jacquardlaw01.TagRules", spec := "tagRules", apart := false }
def TagRulesSaid : Prop := tagRulesRow.holds Try.pinned (OpenSpec.ofChange tagRulesSpec)

/-- ITS FALSE NEIGHBOUR: 'it returns false'. Refute it at one input. -/
def tagRulesWrong : ChangeSpec := { name := "tagRules", fn := fun _ => fun
  | [d1, d2, d3] => { results := [.lit (.bool false)], args := [d1, d2, d3] }
  | _ => none }
def TagRulesWrongFalsely : Prop := tagRulesRow.holds Try.pinned (OpenSpec.ofChange tagRulesWrong)

/-- 'jacquardlaw01.TagWhole': WHATEVER THE INPUT: true; the input reads as it did. -/
def tagWholeSpec : ChangeSpec := { name := "tagWhole", fn := fun _ => fun
  | [d1, d2] => { results := [.lit (.bool true)], args := [d1, d2] }
  | _ => none }
def tagWholeRow : OpenClaim := { program := "ytfkbodofdpgakab", sum := "021565a0c5dd5865512816e2732e187de291995d431421d329e927949ac3f3f4", func := "jacquard/jacquardlaw01.TagWhole", spec := "tagWhole", apart := false }
def TagWholeSaid : Prop := tagWholeRow.holds Try.pinned (OpenSpec.ofChange tagWholeSpec)

/-- ITS FALSE NEIGHBOUR: 'it returns false'. Refute it at one input. -/
def tagWholeWrong : ChangeSpec := { name := "tagWhole", fn := fun _ => fun
  | [d1, d2] => { results := [.lit (.bool false)], args := [d1, d2] }
  | _ => none }
def TagWholeWrongFalsely : Prop := tagWholeRow.holds Try.pinned (OpenSpec.ofChange tagWholeWrong)

/-- 'jacquardlaw01.TagNegates': WHATEVER THE INPUT: true; the input reads as it did. -/
def tagNegatesSpec : ChangeSpec := { name := "tagNegates", fn := fun _ => fun
  | [d] => { results := [.lit (.bool true)], args := [d] }
  | _ => none }
def tagNegatesRow : OpenClaim := { program := "ytfkbodofdpgakab", sum := "021565a0c5dd5865512816e2732e187de291995d431421d329e927949ac3f3f4", func := "jacquard/jacquardlaw01.TagNegates", spec := "tagNegates", apart := false }
def TagNegatesSaid : Prop := tagNegatesRow.holds Try.pinned (OpenSpec.ofChange tagNegatesSpec)

/-- ITS FALSE NEIGHBOUR: 'it returns false'. Refute it at one input. -/
def tagNegatesWrong : ChangeSpec := { name := "tagNegates", fn := fun _ => fun
  | [d] => { results := [.lit (.bool false)], args := [d] }
  | _ => none }
def TagNegatesWrongFalsely : Prop := tagNegatesRow.holds Try.pinned (OpenSpec.ofChange tagNegatesWrong)

/-- 'jacquardlaw01.TagChains': WHATEVER THE INPUT: true; the input reads as it did. -/
def tagChainsSpec : ChangeSpec := { name := "tagChains", fn := fun _ => fun
  | [d1, d2, d3] => { results := [.lit (.bool true)], args := [d1, d2, d3] }
  | _ => none }
def tagChainsRow : OpenClaim := { program := "ytfkbodofdpgakab", sum := "021565a0c5dd5865512816e2732e187de291995d431421d329e927949ac3f3f4", func := "jacquard/jacquardlaw01.TagChains", spec := "tagChains", apart := false }
def TagChainsSaid : Prop := tagChainsRow.holds Try.pinned (OpenSpec.ofChange tagChainsSpec)

/-- ITS FALSE NEIGHBOUR: 'it returns false'. Refute it at one input. -/
def tagChainsWrong : ChangeSpec := { name := "tagChains", fn := fun _ => fun
  | [d1, d2, d3] => { results := [.lit (.bool false)], args := [d1, d2, d3] }
  | _ => none }
def TagChainsWrongFalsely : Prop := tagChainsRow.holds Try.pinned (OpenSpec.ofChange tagChainsWrong)

/-- 'jacquardlaw01.TagApart': WHATEVER THE INPUT: true; the input reads as it did. -/
def tagApartSpec : ChangeSpec := { name := "tagApart", fn := fun _ => fun
  | [d1, d2] => { results := [.lit (.bool true)], args := [d1, d2] }
  | _ => none }
def tagApartRow : OpenClaim := { program := "ytfkbodofdpgakab", sum := "021565a0c5dd5865512816e2732e187de291995d431421d329e927949ac3f3f4", func := "jacquard/jacquardlaw01.TagApart", spec := "tagApart", apart := false }
def TagApartSaid : Prop := tagApartRow.holds Try.pinned (OpenSpec.ofChange tagApartSpec)

/-- ITS FALSE NEIGHBOUR: 'it returns false'. Refute it at one input. -/
def tagApartWrong : ChangeSpec := { name := "tagApart", fn := fun _ => fun
  | [d1, d2] => { results := [.lit (.bool false)], args := [d1, d2] }
  | _ => none }
def TagApartWrongFalsely : Prop := tagApartRow.holds Try.pinned (OpenSpec.ofChange tagApartWrong)

/- THE SECOND FORM. 'bulk': how many values and letters a reading holds, each counted each time it is reached (what is shared counts as often as it is met; a slice's spare places count too). A statement '..UptoSaid' is the law's where the arguments, and the package variables that the reading takes, are together of bulk at most 1048576: NARROWER than '..Said'. Prove '..Said' where nothing that the law and all that it calls make is longer than what came in: it says more and counts as full. Else prove '..UptoSaid'. A law counts once. -/
mutual
def uptoBulk {H : Type} : DataW H → Nat
  | .lit (.string bytes) => bytes.length + 1
  | .lit _ => 1
  | .nil => 1
  | .ptr d => uptoBulk d + 1
  | .slice elems spare => uptoBulkAll elems + uptoBulkAll spare + 1
  | .agg parts => uptoBulkAll parts + 1
  | .iface _ d => uptoBulk d + 1
  | .map entries => uptoBulkEntries entries + 1
  | .held _ => 1
def uptoBulkAll {H : Type} : List (DataW H) → Nat
  | [] => 0
  | d :: r => uptoBulk d + uptoBulkAll r
def uptoBulkEntries {H : Type} : List (Lit × DataW H) → Nat
  | [] => 0
  | x :: r => uptoBulkEntry x + uptoBulkEntries r
def uptoBulkEntry {H : Type} : Lit × DataW H → Nat
  | (.string bytes, d) => bytes.length + uptoBulk d + 1
  | (_, d) => uptoBulk d + 1
 end
def uptoSmall : (H : Type) → List (DataW H) → Bool := fun _ ds => decide (uptoBulkAll ds ≤ 1048576)
def OpenSpec.upto (s : _root_.Go.ChangeSpec) : _root_.Go.OpenSpec := { _root_.Go.OpenSpec.ofChange s with cond := some uptoSmall }

/-- 'jacquardlaw01.TagRules', WHERE WHAT IT READS IS OF BULK AT MOST 1048576: true; the input reads as it did. -/
def tagRulesUptoRow : OpenClaim := { program := "ytfkbodofdpgakab", sum := "021565a0c5dd5865512816e2732e187de291995d431421d329e927949ac3f3f4", func := "jacquard/jacquardlaw01.TagRules", spec := "tagRules", apart := false, narrowed := true }
def TagRulesUptoSaid : Prop := tagRulesUptoRow.holds Try.pinned (OpenSpec.upto tagRulesSpec)

/-- 'jacquardlaw01.TagWhole', WHERE WHAT IT READS IS OF BULK AT MOST 1048576: true; the input reads as it did. -/
def tagWholeUptoRow : OpenClaim := { program := "ytfkbodofdpgakab", sum := "021565a0c5dd5865512816e2732e187de291995d431421d329e927949ac3f3f4", func := "jacquard/jacquardlaw01.TagWhole", spec := "tagWhole", apart := false, narrowed := true }
def TagWholeUptoSaid : Prop := tagWholeUptoRow.holds Try.pinned (OpenSpec.upto tagWholeSpec)

/-- 'jacquardlaw01.TagNegates', WHERE WHAT IT READS IS OF BULK AT MOST 1048576: true; the input reads as it did. -/
def tagNegatesUptoRow : OpenClaim := { program := "ytfkbodofdpgakab", sum := "021565a0c5dd5865512816e2732e187de291995d431421d329e927949ac3f3f4", func := "jacquard/jacquardlaw01.TagNegates", spec := "tagNegates", apart := false, narrowed := true }
def TagNegatesUptoSaid : Prop := tagNegatesUptoRow.holds Try.pinned (OpenSpec.upto tagNegatesSpec)

/-- 'jacquardlaw01.TagChains', WHERE WHAT IT READS IS OF BULK AT MOST 1048576: true; the input reads as it did. -/
def tagChainsUptoRow : OpenClaim := { program := "ytfkbodofdpgakab", sum := "021565a0c5dd5865512816e2732e187de291995d431421d329e927949ac3f3f4", func := "jacquard/jacquardlaw01.TagChains", spec := "tagChains", apart := false, narrowed := true }
def TagChainsUptoSaid : Prop := tagChainsUptoRow.holds Try.pinned (OpenSpec.upto tagChainsSpec)

/-- 'jacquardlaw01.TagApart', WHERE WHAT IT READS IS OF BULK AT MOST 1048576: true; the input reads as it did. -/
def tagApartUptoRow : OpenClaim := { program := "ytfkbodofdpgakab", sum := "021565a0c5dd5865512816e2732e187de291995d431421d329e927949ac3f3f4", func := "jacquard/jacquardlaw01.TagApart", spec := "tagApart", apart := false, narrowed := true }
def TagApartUptoSaid : Prop := tagApartUptoRow.holds Try.pinned (OpenSpec.upto tagApartSpec)

end Rows
end Go.Proofs.Ytfkbodofdpgakab
