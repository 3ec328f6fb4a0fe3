/-
  NARROWER THAN 'FOR EVERY INPUT', by the rows' own cells (each row's printed sentence says how): PrimBins: laid · PrimRules: laid · PrimJoins: laid · PrimStacks: laid · PrimRecords: laid.
  DERIVED. THE GIVEN ROWS OF THIS SEAT. 5 by the template 'for every input the law returns true; each argument reads behind the call as it read before'; 0 by the template 'total and deterministic' (their statements: YtajnpdiepiinjaaGreatDoorTotals.lean).
  GIVEN WITH THE SEED: the statements are not yours to turn. If you find one false, say at which input.
  Laid BY PROGRAM, IN A SANDBOX (cutbox-rows.mjs): the forced cells as the released guide's own fill.sh prints them over the translation 27abb680b05f1584… (all of the seat's roots in one cut). By AI agents, Wed Nov 11 2026. No macro, syntax, notation, axiom, sorry.
-/
import Derived.Test.YtajnpdiepiinjaaGreatDoorChecked
import GoSem.Claim
import GoSem.ClaimJoined
import GoSem.ClaimMapViews
import Derived.JoinedTies
import Derived.KernelRfl
namespace Go.Proofs.YtajnpdiepiinjaaGreatDoor
/- THE CELL 'sum', in the pinned program and in every row, IS THE sha256 OF THE DUMP (.gsa) THAT YtajnpdiepiinjaaGreatDoorProg.lean LOADS. Nothing in Lean hashes anything: it is a label: what it is worth is what the hold of that sum in a sandbox is worth. -/
noncomputable def Tryz.pinned : Pinned := { name := "ytajnpdiepiinjaagreatdoor", sum := "27abb680b05f15842e08e931579706a80f600fed77ed0adfbe2b224fe8be3d0c", checked := Tryz.checked }
namespace Rows
def none {H : Type} : Left H := { results := [], args := [] }

/- WHAT THE LISTED PACKAGE-LEVEL VARIABLES READ AS WHEN THE CALL BEGINS. Each datum BY PROGRAM (the guide's laid-datum.mjs) off the statement by which the dump's own 'gosem.cut.vars' lays the variable. In a bare row this is a premise. The card (YtajnpdiepiinjaaGreatDoorCards.lean) ties it to the program's text. -/
def laid_jacquard_prim_thrownTexts {H : Type} : DataW H := .agg [.lit (.string []), .lit (.string [116, 121, 112, 101]), .lit (.string [122, 101, 114, 111]), .lit (.string [114, 97, 110, 103, 101]), .lit (.string [102, 105, 101, 108, 100]), .lit (.string [108, 111, 110, 103]), .lit (.string [99, 97, 108, 108]), .lit (.string [97, 114, 103, 115]), .lit (.string [115, 116, 97, 116, 101])]
def laid_jacquard_prim_endingTexts {H : Type} : DataW H := .agg [.lit (.string [104, 101, 97, 112]), .lit (.string [100, 101, 112, 116, 104]), .lit (.string [116, 104, 114, 101, 97, 100, 115])]
def laid_math_bits_deBruijn32tab {H : Type} : DataW H := .agg [.lit (.int .u8 0), .lit (.int .u8 1), .lit (.int .u8 28), .lit (.int .u8 2), .lit (.int .u8 29), .lit (.int .u8 14), .lit (.int .u8 24), .lit (.int .u8 3), .lit (.int .u8 30), .lit (.int .u8 22), .lit (.int .u8 20), .lit (.int .u8 15), .lit (.int .u8 25), .lit (.int .u8 17), .lit (.int .u8 4), .lit (.int .u8 8), .lit (.int .u8 31), .lit (.int .u8 27), .lit (.int .u8 13), .lit (.int .u8 23), .lit (.int .u8 21), .lit (.int .u8 19), .lit (.int .u8 16), .lit (.int .u8 7), .lit (.int .u8 26), .lit (.int .u8 12), .lit (.int .u8 18), .lit (.int .u8 6), .lit (.int .u8 11), .lit (.int .u8 5), .lit (.int .u8 10), .lit (.int .u8 9)]
def laid_math_bits_deBruijn64tab {H : Type} : DataW H := .agg [.lit (.int .u8 0), .lit (.int .u8 1), .lit (.int .u8 56), .lit (.int .u8 2), .lit (.int .u8 57), .lit (.int .u8 49), .lit (.int .u8 28), .lit (.int .u8 3), .lit (.int .u8 61), .lit (.int .u8 58), .lit (.int .u8 42), .lit (.int .u8 50), .lit (.int .u8 38), .lit (.int .u8 29), .lit (.int .u8 17), .lit (.int .u8 4), .lit (.int .u8 62), .lit (.int .u8 47), .lit (.int .u8 59), .lit (.int .u8 36), .lit (.int .u8 45), .lit (.int .u8 43), .lit (.int .u8 51), .lit (.int .u8 22), .lit (.int .u8 53), .lit (.int .u8 39), .lit (.int .u8 33), .lit (.int .u8 30), .lit (.int .u8 24), .lit (.int .u8 18), .lit (.int .u8 12), .lit (.int .u8 5), .lit (.int .u8 63), .lit (.int .u8 55), .lit (.int .u8 48), .lit (.int .u8 27), .lit (.int .u8 60), .lit (.int .u8 41), .lit (.int .u8 37), .lit (.int .u8 16), .lit (.int .u8 46), .lit (.int .u8 35), .lit (.int .u8 44), .lit (.int .u8 21), .lit (.int .u8 52), .lit (.int .u8 32), .lit (.int .u8 23), .lit (.int .u8 11), .lit (.int .u8 54), .lit (.int .u8 26), .lit (.int .u8 40), .lit (.int .u8 15), .lit (.int .u8 34), .lit (.int .u8 20), .lit (.int .u8 31), .lit (.int .u8 10), .lit (.int .u8 25), .lit (.int .u8 14), .lit (.int .u8 19), .lit (.int .u8 9), .lit (.int .u8 13), .lit (.int .u8 8), .lit (.int .u8 7), .lit (.int .u8 6)]
def laid_internal_strconv_uint64pow10 {H : Type} : DataW H := .agg [.lit (.int .u64 1), .lit (.int .u64 10), .lit (.int .u64 100), .lit (.int .u64 1000), .lit (.int .u64 10000), .lit (.int .u64 100000), .lit (.int .u64 1000000), .lit (.int .u64 10000000), .lit (.int .u64 100000000), .lit (.int .u64 1000000000), .lit (.int .u64 10000000000), .lit (.int .u64 100000000000), .lit (.int .u64 1000000000000), .lit (.int .u64 10000000000000), .lit (.int .u64 100000000000000), .lit (.int .u64 1000000000000000), .lit (.int .u64 10000000000000000), .lit (.int .u64 100000000000000000), .lit (.int .u64 1000000000000000000), .lit (.int .u64 10000000000000000000)]
def laid_jacquard_prim_kindNames {H : Type} : DataW H := .agg [.lit (.string []), .lit (.string [115, 116, 114, 105, 110, 103]), .lit (.string [97, 114, 114, 97, 121]), .lit (.string [114, 101, 99, 111, 114, 100]), .lit (.string [99, 101, 108, 108]), .lit (.string [102, 117, 110, 99, 116, 105, 111, 110]), .lit (.string [99, 111, 109, 112, 108, 101, 120]), .lit (.string [109, 111, 110, 105, 116, 111, 114]), .lit (.string [98, 111, 120]), .lit (.string [116, 104, 114, 101, 97, 100]), .lit (.string [105, 110, 116]), .lit (.string [110, 105, 108]), .lit (.string [98, 111, 111, 108]), .lit (.string [112, 114, 105, 109])]
def laid_jacquard_prim_arities {H : Type} : DataW H := .agg [.lit (.int .i64 1), .lit (.int .i64 1), .lit (.int .i64 2), .lit (.int .i64 1), .lit (.int .i64 1), .lit (.int .i64 2), .lit (.int .i64 2), .lit (.int .i64 3), .lit (.int .i64 2), .lit (.int .i64 1), .lit (.int .i64 2), .lit (.int .i64 1), .lit (.int .i64 1), .lit (.int .i64 1), .lit (.int .i64 0), .lit (.int .i64 1), .lit (.int .i64 0), .lit (.int .i64 1), .lit (.int .i64 1), .lit (.int .i64 1), .lit (.int .i64 2), .lit (.int .i64 1), .lit (.int .i64 0), .lit (.int .i64 1), .lit (.int .i64 1), .lit (.int .i64 1), .lit (.int .i64 2), .lit (.int .i64 1), .lit (.int .i64 1), .lit (.int .i64 0)]

/-- 'jacquardlaw09.PrimBins': WHATEVER THE INPUT: true; the input reads as it did. -/
def primBinsSpec : ChangeSpec := { name := "primBins", fn := fun _ => fun
  | [d1, d2, d3, d4] => { results := [.lit (.bool true)], args := [d1, d2, d3, d4] }
  | _ => none }
def primBinsRow : OpenClaim := { program := "ytajnpdiepiinjaagreatdoor", sum := "27abb680b05f15842e08e931579706a80f600fed77ed0adfbe2b224fe8be3d0c", func := "jacquard/jacquardlaw09.PrimBins", spec := "primBins", inPlace := ["math.Float64frombits", "math.Float64bits", "internal/bytealg.Compare"], named := ["jacquard/prim.thrownTexts", "jacquard/prim.endingTexts"], plainKeys := false, apart := false, laid := [("jacquard/prim.thrownTexts", laid_jacquard_prim_thrownTexts), ("jacquard/prim.endingTexts", laid_jacquard_prim_endingTexts)] }
def PrimBinsSaid : Prop := primBinsRow.holds Tryz.pinned (OpenSpec.ofChange primBinsSpec)

/-- ITS FALSE NEIGHBOUR: 'it returns false'. Refute it at one input. -/
def primBinsWrong : ChangeSpec := { name := "primBins", fn := fun _ => fun
  | [d1, d2, d3, d4] => { results := [.lit (.bool false)], args := [d1, d2, d3, d4] }
  | _ => none }
def PrimBinsWrongFalsely : Prop := primBinsRow.holds Tryz.pinned (OpenSpec.ofChange primBinsWrong)

/-- 'jacquardlaw09.PrimRules': WHATEVER THE INPUT: true; the input reads as it did. -/
def primRulesSpec : ChangeSpec := { name := "primRules", fn := fun _ => fun
  | [d1, d2, d3, d4] => { results := [.lit (.bool true)], args := [d1, d2, d3, d4] }
  | _ => none }
def primRulesRow : OpenClaim := { program := "ytajnpdiepiinjaagreatdoor", sum := "27abb680b05f15842e08e931579706a80f600fed77ed0adfbe2b224fe8be3d0c", func := "jacquard/jacquardlaw09.PrimRules", spec := "primRules", inPlace := ["math.Float64frombits", "math.Float64bits", "internal/bytealg.Compare"], named := ["jacquard/prim.thrownTexts", "jacquard/prim.endingTexts"], plainKeys := false, apart := false, laid := [("jacquard/prim.thrownTexts", laid_jacquard_prim_thrownTexts), ("jacquard/prim.endingTexts", laid_jacquard_prim_endingTexts)] }
def PrimRulesSaid : Prop := primRulesRow.holds Tryz.pinned (OpenSpec.ofChange primRulesSpec)

/-- ITS FALSE NEIGHBOUR: 'it returns false'. Refute it at one input. -/
def primRulesWrong : ChangeSpec := { name := "primRules", fn := fun _ => fun
  | [d1, d2, d3, d4] => { results := [.lit (.bool false)], args := [d1, d2, d3, d4] }
  | _ => none }
def PrimRulesWrongFalsely : Prop := primRulesRow.holds Tryz.pinned (OpenSpec.ofChange primRulesWrong)

/-- 'jacquardlaw09.PrimJoins': WHATEVER THE INPUT: true; the input reads as it did. -/
def primJoinsSpec : ChangeSpec := { name := "primJoins", fn := fun _ => fun
  | [d1, d2] => { results := [.lit (.bool true)], args := [d1, d2] }
  | _ => none }
def primJoinsRow : OpenClaim := { program := "ytajnpdiepiinjaagreatdoor", sum := "27abb680b05f15842e08e931579706a80f600fed77ed0adfbe2b224fe8be3d0c", func := "jacquard/jacquardlaw09.PrimJoins", spec := "primJoins", inPlace := ["math.Float64frombits", "math.Float64bits", "internal/bytealg.Compare", "internal/abi.NoEscape", "internal/bytealg.MakeNoZero"], unfollowed := true, recurses := true, named := ["jacquard/prim.thrownTexts", "jacquard/prim.endingTexts", "jacquard/prim.arities", "internal/strconv.uint64pow10", "math/bits.deBruijn32tab", "math/bits.deBruijn64tab", "jacquard/prim.kindNames"], plainKeys := false, apart := false, laid := [("math/bits.deBruijn32tab", laid_math_bits_deBruijn32tab), ("math/bits.deBruijn64tab", laid_math_bits_deBruijn64tab), ("internal/strconv.uint64pow10", laid_internal_strconv_uint64pow10), ("jacquard/prim.kindNames", laid_jacquard_prim_kindNames), ("jacquard/prim.thrownTexts", laid_jacquard_prim_thrownTexts), ("jacquard/prim.endingTexts", laid_jacquard_prim_endingTexts), ("jacquard/prim.arities", laid_jacquard_prim_arities)] }
def PrimJoinsSaid : Prop := primJoinsRow.holds Tryz.pinned (OpenSpec.ofChange primJoinsSpec)

/-- ITS FALSE NEIGHBOUR: 'it returns false'. Refute it at one input. -/
def primJoinsWrong : ChangeSpec := { name := "primJoins", fn := fun _ => fun
  | [d1, d2] => { results := [.lit (.bool false)], args := [d1, d2] }
  | _ => none }
def PrimJoinsWrongFalsely : Prop := primJoinsRow.holds Tryz.pinned (OpenSpec.ofChange primJoinsWrong)

/-- 'jacquardlaw09.PrimStacks': WHATEVER THE INPUT: true; the input reads as it did. -/
def primStacksSpec : ChangeSpec := { name := "primStacks", fn := fun _ => fun
  | [d] => { results := [.lit (.bool true)], args := [d] }
  | _ => none }
def primStacksRow : OpenClaim := { program := "ytajnpdiepiinjaagreatdoor", sum := "27abb680b05f15842e08e931579706a80f600fed77ed0adfbe2b224fe8be3d0c", func := "jacquard/jacquardlaw09.PrimStacks", spec := "primStacks", inPlace := ["math.Float64frombits", "math.Float64bits", "internal/bytealg.Compare", "internal/abi.NoEscape", "internal/bytealg.MakeNoZero"], unfollowed := true, recurses := true, named := ["jacquard/prim.thrownTexts", "jacquard/prim.endingTexts", "jacquard/prim.arities", "internal/strconv.uint64pow10", "math/bits.deBruijn32tab", "math/bits.deBruijn64tab", "jacquard/prim.kindNames"], plainKeys := false, apart := false, laid := [("math/bits.deBruijn32tab", laid_math_bits_deBruijn32tab), ("math/bits.deBruijn64tab", laid_math_bits_deBruijn64tab), ("internal/strconv.uint64pow10", laid_internal_strconv_uint64pow10), ("jacquard/prim.kindNames", laid_jacquard_prim_kindNames), ("jacquard/prim.thrownTexts", laid_jacquard_prim_thrownTexts), ("jacquard/prim.endingTexts", laid_jacquard_prim_endingTexts), ("jacquard/prim.arities", laid_jacquard_prim_arities)] }
def PrimStacksSaid : Prop := primStacksRow.holds Tryz.pinned (OpenSpec.ofChange primStacksSpec)

/-- ITS FALSE NEIGHBOUR: 'it returns false'. Refute it at one input. -/
def primStacksWrong : ChangeSpec := { name := "primStacks", fn := fun _ => fun
  | [d] => { results := [.lit (.bool false)], args := [d] }
  | _ => none }
def PrimStacksWrongFalsely : Prop := primStacksRow.holds Tryz.pinned (OpenSpec.ofChange primStacksWrong)

/-- 'jacquardlaw09.PrimRecords': WHATEVER THE INPUT: true; the input reads as it did. -/
def primRecordsSpec : ChangeSpec := { name := "primRecords", fn := fun _ => fun
  | [d1, d2] => { results := [.lit (.bool true)], args := [d1, d2] }
  | _ => none }
def primRecordsRow : OpenClaim := { program := "ytajnpdiepiinjaagreatdoor", sum := "27abb680b05f15842e08e931579706a80f600fed77ed0adfbe2b224fe8be3d0c", func := "jacquard/jacquardlaw09.PrimRecords", spec := "primRecords", inPlace := ["math.Float64frombits", "math.Float64bits", "internal/bytealg.Compare", "internal/abi.NoEscape", "internal/bytealg.MakeNoZero"], unfollowed := true, recurses := true, named := ["jacquard/prim.thrownTexts", "jacquard/prim.endingTexts", "jacquard/prim.arities", "internal/strconv.uint64pow10", "math/bits.deBruijn32tab", "math/bits.deBruijn64tab", "jacquard/prim.kindNames"], plainKeys := false, apart := false, laid := [("math/bits.deBruijn32tab", laid_math_bits_deBruijn32tab), ("math/bits.deBruijn64tab", laid_math_bits_deBruijn64tab), ("internal/strconv.uint64pow10", laid_internal_strconv_uint64pow10), ("jacquard/prim.kindNames", laid_jacquard_prim_kindNames), ("jacquard/prim.thrownTexts", laid_jacquard_prim_thrownTexts), ("jacquard/prim.endingTexts", laid_jacquard_prim_endingTexts), ("jacquard/prim.arities", laid_jacquard_prim_arities)] }
def PrimRecordsSaid : Prop := primRecordsRow.holds Tryz.pinned (OpenSpec.ofChange primRecordsSpec)

/-- ITS FALSE NEIGHBOUR: 'it returns false'. Refute it at one input. -/
def primRecordsWrong : ChangeSpec := { name := "primRecords", fn := fun _ => fun
  | [d1, d2] => { results := [.lit (.bool false)], args := [d1, d2] }
  | _ => none }
def PrimRecordsWrongFalsely : Prop := primRecordsRow.holds Tryz.pinned (OpenSpec.ofChange primRecordsWrong)

/- THE SECOND FORM. 'bulk': how many values and letters a reading holds, each counted each time it is reached (what is shared counts as often as it is met; a slice's spare places count too). A statement '..UptoSaid' is the law's where the arguments, and the package variables that the reading takes, are together of bulk at most 1048576: NARROWER than '..Said'. Prove '..Said' where nothing that the law and all that it calls make is longer than what came in: it says more and counts as full. Else prove '..UptoSaid'. A law counts once. -/
mutual
def uptoBulk {H : Type} : DataW H → Nat
  | .lit (.string bytes) => bytes.length + 1
  | .lit _ => 1
  | .nil => 1
  | .ptr d => uptoBulk d + 1
  | .slice elems spare => uptoBulkAll elems + uptoBulkAll spare + 1
  | .agg parts => uptoBulkAll parts + 1
  | .iface _ d => uptoBulk d + 1
  | .map entries => uptoBulkEntries entries + 1
  | .held _ => 1
def uptoBulkAll {H : Type} : List (DataW H) → Nat
  | [] => 0
  | d :: r => uptoBulk d + uptoBulkAll r
def uptoBulkEntries {H : Type} : List (Lit × DataW H) → Nat
  | [] => 0
  | x :: r => uptoBulkEntry x + uptoBulkEntries r
def uptoBulkEntry {H : Type} : Lit × DataW H → Nat
  | (.string bytes, d) => bytes.length + uptoBulk d + 1
  | (_, d) => uptoBulk d + 1
 end
def uptoSmall : (H : Type) → List (DataW H) → Bool := fun _ ds => decide (uptoBulkAll ds ≤ 1048576)
def OpenSpec.upto (s : _root_.Go.ChangeSpec) : _root_.Go.OpenSpec := { _root_.Go.OpenSpec.ofChange s with cond := some uptoSmall }

/-- 'jacquardlaw09.PrimBins', WHERE WHAT IT READS IS OF BULK AT MOST 1048576: true; the input reads as it did. -/
def primBinsUptoRow : OpenClaim := { program := "ytajnpdiepiinjaagreatdoor", sum := "27abb680b05f15842e08e931579706a80f600fed77ed0adfbe2b224fe8be3d0c", func := "jacquard/jacquardlaw09.PrimBins", spec := "primBins", inPlace := ["math.Float64frombits", "math.Float64bits", "internal/bytealg.Compare"], named := ["jacquard/prim.thrownTexts", "jacquard/prim.endingTexts"], plainKeys := false, apart := false, laid := [("jacquard/prim.thrownTexts", laid_jacquard_prim_thrownTexts), ("jacquard/prim.endingTexts", laid_jacquard_prim_endingTexts)], narrowed := true }
def PrimBinsUptoSaid : Prop := primBinsUptoRow.holds Tryz.pinned (OpenSpec.upto primBinsSpec)

/-- 'jacquardlaw09.PrimRules', WHERE WHAT IT READS IS OF BULK AT MOST 1048576: true; the input reads as it did. -/
def primRulesUptoRow : OpenClaim := { program := "ytajnpdiepiinjaagreatdoor", sum := "27abb680b05f15842e08e931579706a80f600fed77ed0adfbe2b224fe8be3d0c", func := "jacquard/jacquardlaw09.PrimRules", spec := "primRules", inPlace := ["math.Float64frombits", "math.Float64bits", "internal/bytealg.Compare"], named := ["jacquard/prim.thrownTexts", "jacquard/prim.endingTexts"], plainKeys := false, apart := false, laid := [("jacquard/prim.thrownTexts", laid_jacquard_prim_thrownTexts), ("jacquard/prim.endingTexts", laid_jacquard_prim_endingTexts)], narrowed := true }
def PrimRulesUptoSaid : Prop := primRulesUptoRow.holds Tryz.pinned (OpenSpec.upto primRulesSpec)

/-- 'jacquardlaw09.PrimJoins', WHERE WHAT IT READS IS OF BULK AT MOST 1048576: true; the input reads as it did. -/
def primJoinsUptoRow : OpenClaim := { program := "ytajnpdiepiinjaagreatdoor", sum := "27abb680b05f15842e08e931579706a80f600fed77ed0adfbe2b224fe8be3d0c", func := "jacquard/jacquardlaw09.PrimJoins", spec := "primJoins", inPlace := ["math.Float64frombits", "math.Float64bits", "internal/bytealg.Compare", "internal/abi.NoEscape", "internal/bytealg.MakeNoZero"], unfollowed := true, recurses := true, named := ["jacquard/prim.thrownTexts", "jacquard/prim.endingTexts", "jacquard/prim.arities", "internal/strconv.uint64pow10", "math/bits.deBruijn32tab", "math/bits.deBruijn64tab", "jacquard/prim.kindNames"], plainKeys := false, apart := false, laid := [("math/bits.deBruijn32tab", laid_math_bits_deBruijn32tab), ("math/bits.deBruijn64tab", laid_math_bits_deBruijn64tab), ("internal/strconv.uint64pow10", laid_internal_strconv_uint64pow10), ("jacquard/prim.kindNames", laid_jacquard_prim_kindNames), ("jacquard/prim.thrownTexts", laid_jacquard_prim_thrownTexts), ("jacquard/prim.endingTexts", laid_jacquard_prim_endingTexts), ("jacquard/prim.arities", laid_jacquard_prim_arities)], narrowed := true }
def PrimJoinsUptoSaid : Prop := primJoinsUptoRow.holds Tryz.pinned (OpenSpec.upto primJoinsSpec)

/-- 'jacquardlaw09.PrimStacks', WHERE WHAT IT READS IS OF BULK AT MOST 1048576: true; the input reads as it did. -/
def primStacksUptoRow : OpenClaim := { program := "ytajnpdiepiinjaagreatdoor", sum := "27abb680b05f15842e08e931579706a80f600fed77ed0adfbe2b224fe8be3d0c", func := "jacquard/jacquardlaw09.PrimStacks", spec := "primStacks", inPlace := ["math.Float64frombits", "math.Float64bits", "internal/bytealg.Compare", "internal/abi.NoEscape", "internal/bytealg.MakeNoZero"], unfollowed := true, recurses := true, named := ["jacquard/prim.thrownTexts", "jacquard/prim.endingTexts", "jacquard/prim.arities", "internal/strconv.uint64pow10", "math/bits.deBruijn32tab", "math/bits.deBruijn64tab", "jacquard/prim.kindNames"], plainKeys := false, apart := false, laid := [("math/bits.deBruijn32tab", laid_math_bits_deBruijn32tab), ("math/bits.deBruijn64tab", laid_math_bits_deBruijn64tab), ("internal/strconv.uint64pow10", laid_internal_strconv_uint64pow10), ("jacquard/prim.kindNames", laid_jacquard_prim_kindNames), ("jacquard/prim.thrownTexts", laid_jacquard_prim_thrownTexts), ("jacquard/prim.endingTexts", laid_jacquard_prim_endingTexts), ("jacquard/prim.arities", laid_jacquard_prim_arities)], narrowed := true }
def PrimStacksUptoSaid : Prop := primStacksUptoRow.holds Tryz.pinned (OpenSpec.upto primStacksSpec)

/-- 'jacquardlaw09.PrimRecords', WHERE WHAT IT READS IS OF BULK AT MOST 1048576: true; the input reads as it did. -/
def primRecordsUptoRow : OpenClaim := { program := "ytajnpdiepiinjaagreatdoor", sum := "27abb680b05f15842e08e931579706a80f600fed77ed0adfbe2b224fe8be3d0c", func := "jacquard/jacquardlaw09.PrimRecords", spec := "primRecords", inPlace := ["math.Float64frombits", "math.Float64bits", "internal/bytealg.Compare", "internal/abi.NoEscape", "internal/bytealg.MakeNoZero"], unfollowed := true, recurses := true, named := ["jacquard/prim.thrownTexts", "jacquard/prim.endingTexts", "jacquard/prim.arities", "internal/strconv.uint64pow10", "math/bits.deBruijn32tab", "math/bits.deBruijn64tab", "jacquard/prim.kindNames"], plainKeys := false, apart := false, laid := [("math/bits.deBruijn32tab", laid_math_bits_deBruijn32tab), ("math/bits.deBruijn64tab", laid_math_bits_deBruijn64tab), ("internal/strconv.uint64pow10", laid_internal_strconv_uint64pow10), ("jacquard/prim.kindNames", laid_jacquard_prim_kindNames), ("jacquard/prim.thrownTexts", laid_jacquard_prim_thrownTexts), ("jacquard/prim.endingTexts", laid_jacquard_prim_endingTexts), ("jacquard/prim.arities", laid_jacquard_prim_arities)], narrowed := true }
def PrimRecordsUptoSaid : Prop := primRecordsUptoRow.holds Tryz.pinned (OpenSpec.upto primRecordsSpec)

end Rows
end Go.Proofs.YtajnpdiepiinjaaGreatDoor
