/-
  NARROWER THAN 'FOR EVERY INPUT', by the rows' own cells (each row's printed sentence says how): FnPruned: laid · FnExactSpanTree: laid · FnExactSpanCost: laid · FnSpanTree: laid · FnSpanCost: laid · FnSpanCycle: laid · FnSpanDearer: laid · FnSpanMany: laid · FnBridgeWays: laid · FnExactPartsOf: laid · FnPartsOf: laid · FnPathOf: laid.
  DERIVED. THE GIVEN ROWS OF THIS SEAT. 12 by the template 'for every input the law returns true; each argument reads behind the call as it read before'; 0 by the template 'total and deterministic' (their statements: YtkjheobeogkhlaaDoorTotals.lean).
  GIVEN WITH THE SEED: the statements are not yours to turn. If you find one false, say at which input.
  Laid BY PROGRAM, IN A SANDBOX (cutbox-rows.mjs): the forced cells as the released guide's own fill.sh prints them over the translation 35318f3b48fd9d47… (all of the seat's roots in one cut). By AI agents, Wed Nov 11 2026. No macro, syntax, notation, axiom, sorry.
-/
import Derived.Test.YtkjheobeogkhlaaDoorChecked
import GoSem.Claim
import GoSem.ClaimJoined
import GoSem.ClaimMapViews
import Derived.JoinedTies
import Derived.KernelRfl
namespace Go.Proofs.YtkjheobeogkhlaaDoor
/- THE CELL 'sum', in the pinned program and in every row, IS THE sha256 OF THE DUMP (.gsa) THAT YtkjheobeogkhlaaDoorProg.lean LOADS. Nothing in Lean hashes anything: it is a label: what it is worth is what the hold of that sum in a sandbox is worth. -/
noncomputable def Tryd.pinned : Pinned := { name := "ytkjheobeogkhlaadoor", sum := "35318f3b48fd9d47895a6a00be770618723a791c9c074ad86d7c636b60ceead6", checked := Tryd.checked }
namespace Rows
def none {H : Type} : Left H := { results := [], args := [] }

/- WHAT THE LISTED PACKAGE-LEVEL VARIABLES READ AS WHEN THE CALL BEGINS. Each datum BY PROGRAM (the guide's laid-datum.mjs) off the statement by which the dump's own 'gosem.cut.vars' lays the variable. In a bare row this is a premise. The card (YtkjheobeogkhlaaDoorCards.lean) ties it to the program's text. -/
def laid_math_bits_deBruijn32tab {H : Type} : DataW H := .agg [.lit (.int .u8 0), .lit (.int .u8 1), .lit (.int .u8 28), .lit (.int .u8 2), .lit (.int .u8 29), .lit (.int .u8 14), .lit (.int .u8 24), .lit (.int .u8 3), .lit (.int .u8 30), .lit (.int .u8 22), .lit (.int .u8 20), .lit (.int .u8 15), .lit (.int .u8 25), .lit (.int .u8 17), .lit (.int .u8 4), .lit (.int .u8 8), .lit (.int .u8 31), .lit (.int .u8 27), .lit (.int .u8 13), .lit (.int .u8 23), .lit (.int .u8 21), .lit (.int .u8 19), .lit (.int .u8 16), .lit (.int .u8 7), .lit (.int .u8 26), .lit (.int .u8 12), .lit (.int .u8 18), .lit (.int .u8 6), .lit (.int .u8 11), .lit (.int .u8 5), .lit (.int .u8 10), .lit (.int .u8 9)]
def laid_math_bits_deBruijn64tab {H : Type} : DataW H := .agg [.lit (.int .u8 0), .lit (.int .u8 1), .lit (.int .u8 56), .lit (.int .u8 2), .lit (.int .u8 57), .lit (.int .u8 49), .lit (.int .u8 28), .lit (.int .u8 3), .lit (.int .u8 61), .lit (.int .u8 58), .lit (.int .u8 42), .lit (.int .u8 50), .lit (.int .u8 38), .lit (.int .u8 29), .lit (.int .u8 17), .lit (.int .u8 4), .lit (.int .u8 62), .lit (.int .u8 47), .lit (.int .u8 59), .lit (.int .u8 36), .lit (.int .u8 45), .lit (.int .u8 43), .lit (.int .u8 51), .lit (.int .u8 22), .lit (.int .u8 53), .lit (.int .u8 39), .lit (.int .u8 33), .lit (.int .u8 30), .lit (.int .u8 24), .lit (.int .u8 18), .lit (.int .u8 12), .lit (.int .u8 5), .lit (.int .u8 63), .lit (.int .u8 55), .lit (.int .u8 48), .lit (.int .u8 27), .lit (.int .u8 60), .lit (.int .u8 41), .lit (.int .u8 37), .lit (.int .u8 16), .lit (.int .u8 46), .lit (.int .u8 35), .lit (.int .u8 44), .lit (.int .u8 21), .lit (.int .u8 52), .lit (.int .u8 32), .lit (.int .u8 23), .lit (.int .u8 11), .lit (.int .u8 54), .lit (.int .u8 26), .lit (.int .u8 40), .lit (.int .u8 15), .lit (.int .u8 34), .lit (.int .u8 20), .lit (.int .u8 31), .lit (.int .u8 10), .lit (.int .u8 25), .lit (.int .u8 14), .lit (.int .u8 19), .lit (.int .u8 9), .lit (.int .u8 13), .lit (.int .u8 8), .lit (.int .u8 7), .lit (.int .u8 6)]

/-- 'laws.FnPruned': WHATEVER THE INPUT: true; the input reads as it did. -/
def fnPrunedSpec : ChangeSpec := { name := "fnPruned", fn := fun _ => fun
  | [d] => { results := [.lit (.bool true)], args := [d] }
  | _ => none }
def fnPrunedRow : OpenClaim := { program := "ytkjheobeogkhlaadoor", sum := "35318f3b48fd9d47895a6a00be770618723a791c9c074ad86d7c636b60ceead6", func := "loop.example/fieldroots/laws.FnPruned", spec := "fnPruned", named := ["math/bits.deBruijn32tab", "math/bits.deBruijn64tab"], apart := false, laid := [("math/bits.deBruijn32tab", laid_math_bits_deBruijn32tab), ("math/bits.deBruijn64tab", laid_math_bits_deBruijn64tab)] }
def FnPrunedSaid : Prop := fnPrunedRow.holds Tryd.pinned (OpenSpec.ofChange fnPrunedSpec)

/-- ITS FALSE NEIGHBOUR: 'it returns false'. Refute it at one input. -/
def fnPrunedWrong : ChangeSpec := { name := "fnPruned", fn := fun _ => fun
  | [d] => { results := [.lit (.bool false)], args := [d] }
  | _ => none }
def FnPrunedWrongFalsely : Prop := fnPrunedRow.holds Tryd.pinned (OpenSpec.ofChange fnPrunedWrong)

/-- 'laws.FnExactSpanTree': WHATEVER THE INPUT: true; the input reads as it did. -/
def fnExactSpanTreeSpec : ChangeSpec := { name := "fnExactSpanTree", fn := fun _ => fun
  | [d] => { results := [.lit (.bool true)], args := [d] }
  | _ => none }
def fnExactSpanTreeRow : OpenClaim := { program := "ytkjheobeogkhlaadoor", sum := "35318f3b48fd9d47895a6a00be770618723a791c9c074ad86d7c636b60ceead6", func := "loop.example/fieldroots/laws.FnExactSpanTree", spec := "fnExactSpanTree", unfollowed := true, recurses := true, named := ["math/bits.deBruijn32tab", "math/bits.deBruijn64tab"], apart := false, laid := [("math/bits.deBruijn32tab", laid_math_bits_deBruijn32tab), ("math/bits.deBruijn64tab", laid_math_bits_deBruijn64tab)] }
def FnExactSpanTreeSaid : Prop := fnExactSpanTreeRow.holds Tryd.pinned (OpenSpec.ofChange fnExactSpanTreeSpec)

/-- ITS FALSE NEIGHBOUR: 'it returns false'. Refute it at one input. -/
def fnExactSpanTreeWrong : ChangeSpec := { name := "fnExactSpanTree", fn := fun _ => fun
  | [d] => { results := [.lit (.bool false)], args := [d] }
  | _ => none }
def FnExactSpanTreeWrongFalsely : Prop := fnExactSpanTreeRow.holds Tryd.pinned (OpenSpec.ofChange fnExactSpanTreeWrong)

/-- 'laws.FnExactSpanCost': WHATEVER THE INPUT: true; the input reads as it did. -/
def fnExactSpanCostSpec : ChangeSpec := { name := "fnExactSpanCost", fn := fun _ => fun
  | [d] => { results := [.lit (.bool true)], args := [d] }
  | _ => none }
def fnExactSpanCostRow : OpenClaim := { program := "ytkjheobeogkhlaadoor", sum := "35318f3b48fd9d47895a6a00be770618723a791c9c074ad86d7c636b60ceead6", func := "loop.example/fieldroots/laws.FnExactSpanCost", spec := "fnExactSpanCost", unfollowed := true, recurses := true, named := ["math/bits.deBruijn32tab", "math/bits.deBruijn64tab"], apart := false, laid := [("math/bits.deBruijn32tab", laid_math_bits_deBruijn32tab), ("math/bits.deBruijn64tab", laid_math_bits_deBruijn64tab)] }
def FnExactSpanCostSaid : Prop := fnExactSpanCostRow.holds Tryd.pinned (OpenSpec.ofChange fnExactSpanCostSpec)

/-- ITS FALSE NEIGHBOUR: 'it returns false'. Refute it at one input. -/
def fnExactSpanCostWrong : ChangeSpec := { name := "fnExactSpanCost", fn := fun _ => fun
  | [d] => { results := [.lit (.bool false)], args := [d] }
  | _ => none }
def FnExactSpanCostWrongFalsely : Prop := fnExactSpanCostRow.holds Tryd.pinned (OpenSpec.ofChange fnExactSpanCostWrong)

/-- 'laws.FnSpanTree': WHATEVER THE INPUT: true; the input reads as it did. -/
def fnSpanTreeSpec : ChangeSpec := { name := "fnSpanTree", fn := fun _ => fun
  | [d] => { results := [.lit (.bool true)], args := [d] }
  | _ => none }
def fnSpanTreeRow : OpenClaim := { program := "ytkjheobeogkhlaadoor", sum := "35318f3b48fd9d47895a6a00be770618723a791c9c074ad86d7c636b60ceead6", func := "loop.example/fieldroots/laws.FnSpanTree", spec := "fnSpanTree", unfollowed := true, recurses := true, named := ["math/bits.deBruijn32tab", "math/bits.deBruijn64tab"], apart := false, laid := [("math/bits.deBruijn32tab", laid_math_bits_deBruijn32tab), ("math/bits.deBruijn64tab", laid_math_bits_deBruijn64tab)] }
def FnSpanTreeSaid : Prop := fnSpanTreeRow.holds Tryd.pinned (OpenSpec.ofChange fnSpanTreeSpec)

/-- ITS FALSE NEIGHBOUR: 'it returns false'. Refute it at one input. -/
def fnSpanTreeWrong : ChangeSpec := { name := "fnSpanTree", fn := fun _ => fun
  | [d] => { results := [.lit (.bool false)], args := [d] }
  | _ => none }
def FnSpanTreeWrongFalsely : Prop := fnSpanTreeRow.holds Tryd.pinned (OpenSpec.ofChange fnSpanTreeWrong)

/-- 'laws.FnSpanCost': WHATEVER THE INPUT: true; the input reads as it did. -/
def fnSpanCostSpec : ChangeSpec := { name := "fnSpanCost", fn := fun _ => fun
  | [d] => { results := [.lit (.bool true)], args := [d] }
  | _ => none }
def fnSpanCostRow : OpenClaim := { program := "ytkjheobeogkhlaadoor", sum := "35318f3b48fd9d47895a6a00be770618723a791c9c074ad86d7c636b60ceead6", func := "loop.example/fieldroots/laws.FnSpanCost", spec := "fnSpanCost", unfollowed := true, recurses := true, named := ["math/bits.deBruijn32tab", "math/bits.deBruijn64tab"], apart := false, laid := [("math/bits.deBruijn32tab", laid_math_bits_deBruijn32tab), ("math/bits.deBruijn64tab", laid_math_bits_deBruijn64tab)] }
def FnSpanCostSaid : Prop := fnSpanCostRow.holds Tryd.pinned (OpenSpec.ofChange fnSpanCostSpec)

/-- ITS FALSE NEIGHBOUR: 'it returns false'. Refute it at one input. -/
def fnSpanCostWrong : ChangeSpec := { name := "fnSpanCost", fn := fun _ => fun
  | [d] => { results := [.lit (.bool false)], args := [d] }
  | _ => none }
def FnSpanCostWrongFalsely : Prop := fnSpanCostRow.holds Tryd.pinned (OpenSpec.ofChange fnSpanCostWrong)

/-- 'laws.FnSpanCycle': WHATEVER THE INPUT: true; the input reads as it did. -/
def fnSpanCycleSpec : ChangeSpec := { name := "fnSpanCycle", fn := fun _ => fun
  | [d] => { results := [.lit (.bool true)], args := [d] }
  | _ => none }
def fnSpanCycleRow : OpenClaim := { program := "ytkjheobeogkhlaadoor", sum := "35318f3b48fd9d47895a6a00be770618723a791c9c074ad86d7c636b60ceead6", func := "loop.example/fieldroots/laws.FnSpanCycle", spec := "fnSpanCycle", unfollowed := true, recurses := true, named := ["math/bits.deBruijn32tab", "math/bits.deBruijn64tab"], apart := false, laid := [("math/bits.deBruijn32tab", laid_math_bits_deBruijn32tab), ("math/bits.deBruijn64tab", laid_math_bits_deBruijn64tab)] }
def FnSpanCycleSaid : Prop := fnSpanCycleRow.holds Tryd.pinned (OpenSpec.ofChange fnSpanCycleSpec)

/-- ITS FALSE NEIGHBOUR: 'it returns false'. Refute it at one input. -/
def fnSpanCycleWrong : ChangeSpec := { name := "fnSpanCycle", fn := fun _ => fun
  | [d] => { results := [.lit (.bool false)], args := [d] }
  | _ => none }
def FnSpanCycleWrongFalsely : Prop := fnSpanCycleRow.holds Tryd.pinned (OpenSpec.ofChange fnSpanCycleWrong)

/-- 'laws.FnSpanDearer': WHATEVER THE INPUT: true; the input reads as it did. -/
def fnSpanDearerSpec : ChangeSpec := { name := "fnSpanDearer", fn := fun _ => fun
  | [d] => { results := [.lit (.bool true)], args := [d] }
  | _ => none }
def fnSpanDearerRow : OpenClaim := { program := "ytkjheobeogkhlaadoor", sum := "35318f3b48fd9d47895a6a00be770618723a791c9c074ad86d7c636b60ceead6", func := "loop.example/fieldroots/laws.FnSpanDearer", spec := "fnSpanDearer", unfollowed := true, recurses := true, named := ["math/bits.deBruijn32tab", "math/bits.deBruijn64tab"], apart := false, laid := [("math/bits.deBruijn32tab", laid_math_bits_deBruijn32tab), ("math/bits.deBruijn64tab", laid_math_bits_deBruijn64tab)] }
def FnSpanDearerSaid : Prop := fnSpanDearerRow.holds Tryd.pinned (OpenSpec.ofChange fnSpanDearerSpec)

/-- ITS FALSE NEIGHBOUR: 'it returns false'. Refute it at one input. -/
def fnSpanDearerWrong : ChangeSpec := { name := "fnSpanDearer", fn := fun _ => fun
  | [d] => { results := [.lit (.bool false)], args := [d] }
  | _ => none }
def FnSpanDearerWrongFalsely : Prop := fnSpanDearerRow.holds Tryd.pinned (OpenSpec.ofChange fnSpanDearerWrong)

/-- 'laws.FnSpanMany': WHATEVER THE INPUT: true; the input reads as it did. -/
def fnSpanManySpec : ChangeSpec := { name := "fnSpanMany", fn := fun _ => fun
  | [d] => { results := [.lit (.bool true)], args := [d] }
  | _ => none }
def fnSpanManyRow : OpenClaim := { program := "ytkjheobeogkhlaadoor", sum := "35318f3b48fd9d47895a6a00be770618723a791c9c074ad86d7c636b60ceead6", func := "loop.example/fieldroots/laws.FnSpanMany", spec := "fnSpanMany", unfollowed := true, recurses := true, named := ["math/bits.deBruijn32tab", "math/bits.deBruijn64tab"], apart := false, laid := [("math/bits.deBruijn32tab", laid_math_bits_deBruijn32tab), ("math/bits.deBruijn64tab", laid_math_bits_deBruijn64tab)] }
def FnSpanManySaid : Prop := fnSpanManyRow.holds Tryd.pinned (OpenSpec.ofChange fnSpanManySpec)

/-- ITS FALSE NEIGHBOUR: 'it returns false'. Refute it at one input. -/
def fnSpanManyWrong : ChangeSpec := { name := "fnSpanMany", fn := fun _ => fun
  | [d] => { results := [.lit (.bool false)], args := [d] }
  | _ => none }
def FnSpanManyWrongFalsely : Prop := fnSpanManyRow.holds Tryd.pinned (OpenSpec.ofChange fnSpanManyWrong)

/-- 'laws.FnBridgeWays': WHATEVER THE INPUT: true; the input reads as it did. -/
def fnBridgeWaysSpec : ChangeSpec := { name := "fnBridgeWays", fn := fun _ => fun
  | [d] => { results := [.lit (.bool true)], args := [d] }
  | _ => none }
def fnBridgeWaysRow : OpenClaim := { program := "ytkjheobeogkhlaadoor", sum := "35318f3b48fd9d47895a6a00be770618723a791c9c074ad86d7c636b60ceead6", func := "loop.example/fieldroots/laws.FnBridgeWays", spec := "fnBridgeWays", unfollowed := true, recurses := true, named := ["math/bits.deBruijn32tab", "math/bits.deBruijn64tab"], apart := false, laid := [("math/bits.deBruijn32tab", laid_math_bits_deBruijn32tab), ("math/bits.deBruijn64tab", laid_math_bits_deBruijn64tab)] }
def FnBridgeWaysSaid : Prop := fnBridgeWaysRow.holds Tryd.pinned (OpenSpec.ofChange fnBridgeWaysSpec)

/-- ITS FALSE NEIGHBOUR: 'it returns false'. Refute it at one input. -/
def fnBridgeWaysWrong : ChangeSpec := { name := "fnBridgeWays", fn := fun _ => fun
  | [d] => { results := [.lit (.bool false)], args := [d] }
  | _ => none }
def FnBridgeWaysWrongFalsely : Prop := fnBridgeWaysRow.holds Tryd.pinned (OpenSpec.ofChange fnBridgeWaysWrong)

/-- 'laws.FnExactPartsOf': WHATEVER THE INPUT: true; the input reads as it did. -/
def fnExactPartsOfSpec : ChangeSpec := { name := "fnExactPartsOf", fn := fun _ => fun
  | [d] => { results := [.lit (.bool true)], args := [d] }
  | _ => none }
def fnExactPartsOfRow : OpenClaim := { program := "ytkjheobeogkhlaadoor", sum := "35318f3b48fd9d47895a6a00be770618723a791c9c074ad86d7c636b60ceead6", func := "loop.example/fieldroots/laws.FnExactPartsOf", spec := "fnExactPartsOf", named := ["math/bits.deBruijn32tab", "math/bits.deBruijn64tab"], apart := false, laid := [("math/bits.deBruijn32tab", laid_math_bits_deBruijn32tab), ("math/bits.deBruijn64tab", laid_math_bits_deBruijn64tab)] }
def FnExactPartsOfSaid : Prop := fnExactPartsOfRow.holds Tryd.pinned (OpenSpec.ofChange fnExactPartsOfSpec)

/-- ITS FALSE NEIGHBOUR: 'it returns false'. Refute it at one input. -/
def fnExactPartsOfWrong : ChangeSpec := { name := "fnExactPartsOf", fn := fun _ => fun
  | [d] => { results := [.lit (.bool false)], args := [d] }
  | _ => none }
def FnExactPartsOfWrongFalsely : Prop := fnExactPartsOfRow.holds Tryd.pinned (OpenSpec.ofChange fnExactPartsOfWrong)

/-- 'laws.FnPartsOf': WHATEVER THE INPUT: true; the input reads as it did. -/
def fnPartsOfSpec : ChangeSpec := { name := "fnPartsOf", fn := fun _ => fun
  | [d] => { results := [.lit (.bool true)], args := [d] }
  | _ => none }
def fnPartsOfRow : OpenClaim := { program := "ytkjheobeogkhlaadoor", sum := "35318f3b48fd9d47895a6a00be770618723a791c9c074ad86d7c636b60ceead6", func := "loop.example/fieldroots/laws.FnPartsOf", spec := "fnPartsOf", named := ["math/bits.deBruijn32tab", "math/bits.deBruijn64tab"], apart := false, laid := [("math/bits.deBruijn32tab", laid_math_bits_deBruijn32tab), ("math/bits.deBruijn64tab", laid_math_bits_deBruijn64tab)] }
def FnPartsOfSaid : Prop := fnPartsOfRow.holds Tryd.pinned (OpenSpec.ofChange fnPartsOfSpec)

/-- ITS FALSE NEIGHBOUR: 'it returns false'. Refute it at one input. -/
def fnPartsOfWrong : ChangeSpec := { name := "fnPartsOf", fn := fun _ => fun
  | [d] => { results := [.lit (.bool false)], args := [d] }
  | _ => none }
def FnPartsOfWrongFalsely : Prop := fnPartsOfRow.holds Tryd.pinned (OpenSpec.ofChange fnPartsOfWrong)

/-- 'laws.FnPathOf': WHATEVER THE INPUT: true; the input reads as it did. -/
def fnPathOfSpec : ChangeSpec := { name := "fnPathOf", fn := fun _ => fun
  | [d] => { results := [.lit (.bool true)], args := [d] }
  | _ => none }
def fnPathOfRow : OpenClaim := { program := "ytkjheobeogkhlaadoor", sum := "35318f3b48fd9d47895a6a00be770618723a791c9c074ad86d7c636b60ceead6", func := "loop.example/fieldroots/laws.FnPathOf", spec := "fnPathOf", named := ["math/bits.deBruijn32tab", "math/bits.deBruijn64tab"], apart := false, laid := [("math/bits.deBruijn32tab", laid_math_bits_deBruijn32tab), ("math/bits.deBruijn64tab", laid_math_bits_deBruijn64tab)] }
def FnPathOfSaid : Prop := fnPathOfRow.holds Tryd.pinned (OpenSpec.ofChange fnPathOfSpec)

/-- ITS FALSE NEIGHBOUR: 'it returns false'. Refute it at one input. -/
def fnPathOfWrong : ChangeSpec := { name := "fnPathOf", fn := fun _ => fun
  | [d] => { results := [.lit (.bool false)], args := [d] }
  | _ => none }
def FnPathOfWrongFalsely : Prop := fnPathOfRow.holds Tryd.pinned (OpenSpec.ofChange fnPathOfWrong)

/- THE SECOND FORM. 'bulk': how many values and letters a reading holds, each counted each time it is reached (what is shared counts as often as it is met; a slice's spare places count too). A statement '..UptoSaid' is the law's where the arguments, and the package variables that the reading takes, are together of bulk at most 1048576: NARROWER than '..Said'. Prove '..Said' where nothing that the law and all that it calls make is longer than what came in: it says more and counts as full. Else prove '..UptoSaid'. A law counts once. -/
mutual
def uptoBulk {H : Type} : DataW H → Nat
  | .lit (.string bytes) => bytes.length + 1
  | .lit _ => 1
  | .nil => 1
  | .ptr d => uptoBulk d + 1
  | .slice elems spare => uptoBulkAll elems + uptoBulkAll spare + 1
  | .agg parts => uptoBulkAll parts + 1
  | .iface _ d => uptoBulk d + 1
  | .map entries => uptoBulkEntries entries + 1
  | .held _ => 1
def uptoBulkAll {H : Type} : List (DataW H) → Nat
  | [] => 0
  | d :: r => uptoBulk d + uptoBulkAll r
def uptoBulkEntries {H : Type} : List (Lit × DataW H) → Nat
  | [] => 0
  | x :: r => uptoBulkEntry x + uptoBulkEntries r
def uptoBulkEntry {H : Type} : Lit × DataW H → Nat
  | (.string bytes, d) => bytes.length + uptoBulk d + 1
  | (_, d) => uptoBulk d + 1
 end
def uptoSmall : (H : Type) → List (DataW H) → Bool := fun _ ds => decide (uptoBulkAll ds ≤ 1048576)
def OpenSpec.upto (s : _root_.Go.ChangeSpec) : _root_.Go.OpenSpec := { _root_.Go.OpenSpec.ofChange s with cond := some uptoSmall }

/-- 'laws.FnPruned', WHERE WHAT IT READS IS OF BULK AT MOST 1048576: true; the input reads as it did. -/
def fnPrunedUptoRow : OpenClaim := { program := "ytkjheobeogkhlaadoor", sum := "35318f3b48fd9d47895a6a00be770618723a791c9c074ad86d7c636b60ceead6", func := "loop.example/fieldroots/laws.FnPruned", spec := "fnPruned", named := ["math/bits.deBruijn32tab", "math/bits.deBruijn64tab"], apart := false, laid := [("math/bits.deBruijn32tab", laid_math_bits_deBruijn32tab), ("math/bits.deBruijn64tab", laid_math_bits_deBruijn64tab)], narrowed := true }
def FnPrunedUptoSaid : Prop := fnPrunedUptoRow.holds Tryd.pinned (OpenSpec.upto fnPrunedSpec)

/-- 'laws.FnExactSpanTree', WHERE WHAT IT READS IS OF BULK AT MOST 1048576: true; the input reads as it did. -/
def fnExactSpanTreeUptoRow : OpenClaim := { program := "ytkjheobeogkhlaadoor", sum := "35318f3b48fd9d47895a6a00be770618723a791c9c074ad86d7c636b60ceead6", func := "loop.example/fieldroots/laws.FnExactSpanTree", spec := "fnExactSpanTree", unfollowed := true, recurses := true, named := ["math/bits.deBruijn32tab", "math/bits.deBruijn64tab"], apart := false, laid := [("math/bits.deBruijn32tab", laid_math_bits_deBruijn32tab), ("math/bits.deBruijn64tab", laid_math_bits_deBruijn64tab)], narrowed := true }
def FnExactSpanTreeUptoSaid : Prop := fnExactSpanTreeUptoRow.holds Tryd.pinned (OpenSpec.upto fnExactSpanTreeSpec)

/-- 'laws.FnExactSpanCost', WHERE WHAT IT READS IS OF BULK AT MOST 1048576: true; the input reads as it did. -/
def fnExactSpanCostUptoRow : OpenClaim := { program := "ytkjheobeogkhlaadoor", sum := "35318f3b48fd9d47895a6a00be770618723a791c9c074ad86d7c636b60ceead6", func := "loop.example/fieldroots/laws.FnExactSpanCost", spec := "fnExactSpanCost", unfollowed := true, recurses := true, named := ["math/bits.deBruijn32tab", "math/bits.deBruijn64tab"], apart := false, laid := [("math/bits.deBruijn32tab", laid_math_bits_deBruijn32tab), ("math/bits.deBruijn64tab", laid_math_bits_deBruijn64tab)], narrowed := true }
def FnExactSpanCostUptoSaid : Prop := fnExactSpanCostUptoRow.holds Tryd.pinned (OpenSpec.upto fnExactSpanCostSpec)

/-- 'laws.FnSpanTree', WHERE WHAT IT READS IS OF BULK AT MOST 1048576: true; the input reads as it did. -/
def fnSpanTreeUptoRow : OpenClaim := { program := "ytkjheobeogkhlaadoor", sum := "35318f3b48fd9d47895a6a00be770618723a791c9c074ad86d7c636b60ceead6", func := "loop.example/fieldroots/laws.FnSpanTree", spec := "fnSpanTree", unfollowed := true, recurses := true, named := ["math/bits.deBruijn32tab", "math/bits.deBruijn64tab"], apart := false, laid := [("math/bits.deBruijn32tab", laid_math_bits_deBruijn32tab), ("math/bits.deBruijn64tab", laid_math_bits_deBruijn64tab)], narrowed := true }
def FnSpanTreeUptoSaid : Prop := fnSpanTreeUptoRow.holds Tryd.pinned (OpenSpec.upto fnSpanTreeSpec)

/-- 'laws.FnSpanCost', WHERE WHAT IT READS IS OF BULK AT MOST 1048576: true; the input reads as it did. -/
def fnSpanCostUptoRow : OpenClaim := { program := "ytkjheobeogkhlaadoor", sum := "35318f3b48fd9d47895a6a00be770618723a791c9c074ad86d7c636b60ceead6", func := "loop.example/fieldroots/laws.FnSpanCost", spec := "fnSpanCost", unfollowed := true, recurses := true, named := ["math/bits.deBruijn32tab", "math/bits.deBruijn64tab"], apart := false, laid := [("math/bits.deBruijn32tab", laid_math_bits_deBruijn32tab), ("math/bits.deBruijn64tab", laid_math_bits_deBruijn64tab)], narrowed := true }
def FnSpanCostUptoSaid : Prop := fnSpanCostUptoRow.holds Tryd.pinned (OpenSpec.upto fnSpanCostSpec)

/-- 'laws.FnSpanCycle', WHERE WHAT IT READS IS OF BULK AT MOST 1048576: true; the input reads as it did. -/
def fnSpanCycleUptoRow : OpenClaim := { program := "ytkjheobeogkhlaadoor", sum := "35318f3b48fd9d47895a6a00be770618723a791c9c074ad86d7c636b60ceead6", func := "loop.example/fieldroots/laws.FnSpanCycle", spec := "fnSpanCycle", unfollowed := true, recurses := true, named := ["math/bits.deBruijn32tab", "math/bits.deBruijn64tab"], apart := false, laid := [("math/bits.deBruijn32tab", laid_math_bits_deBruijn32tab), ("math/bits.deBruijn64tab", laid_math_bits_deBruijn64tab)], narrowed := true }
def FnSpanCycleUptoSaid : Prop := fnSpanCycleUptoRow.holds Tryd.pinned (OpenSpec.upto fnSpanCycleSpec)

/-- 'laws.FnSpanDearer', WHERE WHAT IT READS IS OF BULK AT MOST 1048576: true; the input reads as it did. -/
def fnSpanDearerUptoRow : OpenClaim := { program := "ytkjheobeogkhlaadoor", sum := "35318f3b48fd9d47895a6a00be770618723a791c9c074ad86d7c636b60ceead6", func := "loop.example/fieldroots/laws.FnSpanDearer", spec := "fnSpanDearer", unfollowed := true, recurses := true, named := ["math/bits.deBruijn32tab", "math/bits.deBruijn64tab"], apart := false, laid := [("math/bits.deBruijn32tab", laid_math_bits_deBruijn32tab), ("math/bits.deBruijn64tab", laid_math_bits_deBruijn64tab)], narrowed := true }
def FnSpanDearerUptoSaid : Prop := fnSpanDearerUptoRow.holds Tryd.pinned (OpenSpec.upto fnSpanDearerSpec)

/-- 'laws.FnSpanMany', WHERE WHAT IT READS IS OF BULK AT MOST 1048576: true; the input reads as it did. -/
def fnSpanManyUptoRow : OpenClaim := { program := "ytkjheobeogkhlaadoor", sum := "35318f3b48fd9d47895a6a00be770618723a791c9c074ad86d7c636b60ceead6", func := "loop.example/fieldroots/laws.FnSpanMany", spec := "fnSpanMany", unfollowed := true, recurses := true, named := ["math/bits.deBruijn32tab", "math/bits.deBruijn64tab"], apart := false, laid := [("math/bits.deBruijn32tab", laid_math_bits_deBruijn32tab), ("math/bits.deBruijn64tab", laid_math_bits_deBruijn64tab)], narrowed := true }
def FnSpanManyUptoSaid : Prop := fnSpanManyUptoRow.holds Tryd.pinned (OpenSpec.upto fnSpanManySpec)

/-- 'laws.FnBridgeWays', WHERE WHAT IT READS IS OF BULK AT MOST 1048576: true; the input reads as it did. -/
def fnBridgeWaysUptoRow : OpenClaim := { program := "ytkjheobeogkhlaadoor", sum := "35318f3b48fd9d47895a6a00be770618723a791c9c074ad86d7c636b60ceead6", func := "loop.example/fieldroots/laws.FnBridgeWays", spec := "fnBridgeWays", unfollowed := true, recurses := true, named := ["math/bits.deBruijn32tab", "math/bits.deBruijn64tab"], apart := false, laid := [("math/bits.deBruijn32tab", laid_math_bits_deBruijn32tab), ("math/bits.deBruijn64tab", laid_math_bits_deBruijn64tab)], narrowed := true }
def FnBridgeWaysUptoSaid : Prop := fnBridgeWaysUptoRow.holds Tryd.pinned (OpenSpec.upto fnBridgeWaysSpec)

/-- 'laws.FnExactPartsOf', WHERE WHAT IT READS IS OF BULK AT MOST 1048576: true; the input reads as it did. -/
def fnExactPartsOfUptoRow : OpenClaim := { program := "ytkjheobeogkhlaadoor", sum := "35318f3b48fd9d47895a6a00be770618723a791c9c074ad86d7c636b60ceead6", func := "loop.example/fieldroots/laws.FnExactPartsOf", spec := "fnExactPartsOf", named := ["math/bits.deBruijn32tab", "math/bits.deBruijn64tab"], apart := false, laid := [("math/bits.deBruijn32tab", laid_math_bits_deBruijn32tab), ("math/bits.deBruijn64tab", laid_math_bits_deBruijn64tab)], narrowed := true }
def FnExactPartsOfUptoSaid : Prop := fnExactPartsOfUptoRow.holds Tryd.pinned (OpenSpec.upto fnExactPartsOfSpec)

/-- 'laws.FnPartsOf', WHERE WHAT IT READS IS OF BULK AT MOST 1048576: true; the input reads as it did. -/
def fnPartsOfUptoRow : OpenClaim := { program := "ytkjheobeogkhlaadoor", sum := "35318f3b48fd9d47895a6a00be770618723a791c9c074ad86d7c636b60ceead6", func := "loop.example/fieldroots/laws.FnPartsOf", spec := "fnPartsOf", named := ["math/bits.deBruijn32tab", "math/bits.deBruijn64tab"], apart := false, laid := [("math/bits.deBruijn32tab", laid_math_bits_deBruijn32tab), ("math/bits.deBruijn64tab", laid_math_bits_deBruijn64tab)], narrowed := true }
def FnPartsOfUptoSaid : Prop := fnPartsOfUptoRow.holds Tryd.pinned (OpenSpec.upto fnPartsOfSpec)

/-- 'laws.FnPathOf', WHERE WHAT IT READS IS OF BULK AT MOST 1048576: true; the input reads as it did. -/
def fnPathOfUptoRow : OpenClaim := { program := "ytkjheobeogkhlaadoor", sum := "35318f3b48fd9d47895a6a00be770618723a791c9c074ad86d7c636b60ceead6", func := "loop.example/fieldroots/laws.FnPathOf", spec := "fnPathOf", named := ["math/bits.deBruijn32tab", "math/bits.deBruijn64tab"], apart := false, laid := [("math/bits.deBruijn32tab", laid_math_bits_deBruijn32tab), ("math/bits.deBruijn64tab", laid_math_bits_deBruijn64tab)], narrowed := true }
def FnPathOfUptoSaid : Prop := fnPathOfUptoRow.holds Tryd.pinned (OpenSpec.upto fnPathOfSpec)

end Rows
end Go.Proofs.YtkjheobeogkhlaaDoor
