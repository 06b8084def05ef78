/-
  NARROWER THAN 'FOR EVERY INPUT', by the rows' own cells (each row's printed sentence says how): FnExactJoinsEnds: laid · FnJoinsEnds: laid · FnExactTreeOk: laid · FnTreeOk: laid · FnExactPartsOf: laid · FnPartsOf: laid · FnLeavesOf: laid · FnExactPruned: laid · FnPruned: laid · FnExactPathOf: laid · FnExactBridgeWays: laid · FnExactSpanMany: laid.
  DERIVED. THE GIVEN ROWS OF THIS SEAT. 12 by the template 'for every input the law returns true; each argument reads behind the call as it read before'; 0 by the template 'total and deterministic' (their statements: YtadhkfebokhbcaaDoorTotals.lean).
  GIVEN WITH THE SEED: the statements are not yours to turn. If you find one false, say at which input.
  Laid BY PROGRAM, IN A SANDBOX (cutbox-rows.mjs): the forced cells as the released guide's own fill.sh prints them over the translation 5a206b718f74565b… (all of the seat's roots in one cut). By AI agents, Wed Nov 11 2026. No macro, syntax, notation, axiom, sorry.
-/
import Derived.Test.YtadhkfebokhbcaaDoorChecked
import GoSem.Claim
import GoSem.ClaimJoined
import GoSem.ClaimMapViews
import Derived.JoinedTies
import Derived.KernelRfl
namespace Go.Proofs.YtadhkfebokhbcaaDoor
/- THE CELL 'sum', in the pinned program and in every row, IS THE sha256 OF THE DUMP (.gsa) THAT YtadhkfebokhbcaaDoorProg.lean LOADS. Nothing in Lean hashes anything: it is a label: what it is worth is what the hold of that sum in a sandbox is worth. -/
noncomputable def Tryd.pinned : Pinned := { name := "ytadhkfebokhbcaadoor", sum := "5a206b718f74565b735165a109940c45a4289430c8fea8aa3920cd571b41beb7", checked := Tryd.checked }
namespace Rows
def none {H : Type} : Left H := { results := [], args := [] }

/- WHAT THE LISTED PACKAGE-LEVEL VARIABLES READ AS WHEN THE CALL BEGINS. Each datum BY PROGRAM (the guide's laid-datum.mjs) off the statement by which the dump's own 'gosem.cut.vars' lays the variable. In a bare row this is a premise. The card (YtadhkfebokhbcaaDoorCards.lean) ties it to the program's text. -/
def laid_math_bits_deBruijn32tab {H : Type} : DataW H := .agg [.lit (.int .u8 0), .lit (.int .u8 1), .lit (.int .u8 28), .lit (.int .u8 2), .lit (.int .u8 29), .lit (.int .u8 14), .lit (.int .u8 24), .lit (.int .u8 3), .lit (.int .u8 30), .lit (.int .u8 22), .lit (.int .u8 20), .lit (.int .u8 15), .lit (.int .u8 25), .lit (.int .u8 17), .lit (.int .u8 4), .lit (.int .u8 8), .lit (.int .u8 31), .lit (.int .u8 27), .lit (.int .u8 13), .lit (.int .u8 23), .lit (.int .u8 21), .lit (.int .u8 19), .lit (.int .u8 16), .lit (.int .u8 7), .lit (.int .u8 26), .lit (.int .u8 12), .lit (.int .u8 18), .lit (.int .u8 6), .lit (.int .u8 11), .lit (.int .u8 5), .lit (.int .u8 10), .lit (.int .u8 9)]
def laid_math_bits_deBruijn64tab {H : Type} : DataW H := .agg [.lit (.int .u8 0), .lit (.int .u8 1), .lit (.int .u8 56), .lit (.int .u8 2), .lit (.int .u8 57), .lit (.int .u8 49), .lit (.int .u8 28), .lit (.int .u8 3), .lit (.int .u8 61), .lit (.int .u8 58), .lit (.int .u8 42), .lit (.int .u8 50), .lit (.int .u8 38), .lit (.int .u8 29), .lit (.int .u8 17), .lit (.int .u8 4), .lit (.int .u8 62), .lit (.int .u8 47), .lit (.int .u8 59), .lit (.int .u8 36), .lit (.int .u8 45), .lit (.int .u8 43), .lit (.int .u8 51), .lit (.int .u8 22), .lit (.int .u8 53), .lit (.int .u8 39), .lit (.int .u8 33), .lit (.int .u8 30), .lit (.int .u8 24), .lit (.int .u8 18), .lit (.int .u8 12), .lit (.int .u8 5), .lit (.int .u8 63), .lit (.int .u8 55), .lit (.int .u8 48), .lit (.int .u8 27), .lit (.int .u8 60), .lit (.int .u8 41), .lit (.int .u8 37), .lit (.int .u8 16), .lit (.int .u8 46), .lit (.int .u8 35), .lit (.int .u8 44), .lit (.int .u8 21), .lit (.int .u8 52), .lit (.int .u8 32), .lit (.int .u8 23), .lit (.int .u8 11), .lit (.int .u8 54), .lit (.int .u8 26), .lit (.int .u8 40), .lit (.int .u8 15), .lit (.int .u8 34), .lit (.int .u8 20), .lit (.int .u8 31), .lit (.int .u8 10), .lit (.int .u8 25), .lit (.int .u8 14), .lit (.int .u8 19), .lit (.int .u8 9), .lit (.int .u8 13), .lit (.int .u8 8), .lit (.int .u8 7), .lit (.int .u8 6)]

/-- 'laws.FnExactJoinsEnds': WHATEVER THE INPUT: true; the input reads as it did. -/
def fnExactJoinsEndsSpec : ChangeSpec := { name := "fnExactJoinsEnds", fn := fun _ => fun
  | [d1, d2, d3] => { results := [.lit (.bool true)], args := [d1, d2, d3] }
  | _ => none }
def fnExactJoinsEndsRow : OpenClaim := { program := "ytadhkfebokhbcaadoor", sum := "5a206b718f74565b735165a109940c45a4289430c8fea8aa3920cd571b41beb7", func := "loop.example/fieldroots/laws.FnExactJoinsEnds", spec := "fnExactJoinsEnds", named := ["math/bits.deBruijn32tab", "math/bits.deBruijn64tab"], apart := false, laid := [("math/bits.deBruijn32tab", laid_math_bits_deBruijn32tab), ("math/bits.deBruijn64tab", laid_math_bits_deBruijn64tab)] }
def FnExactJoinsEndsSaid : Prop := fnExactJoinsEndsRow.holds Tryd.pinned (OpenSpec.ofChange fnExactJoinsEndsSpec)

/-- ITS FALSE NEIGHBOUR: 'it returns false'. Refute it at one input. -/
def fnExactJoinsEndsWrong : ChangeSpec := { name := "fnExactJoinsEnds", fn := fun _ => fun
  | [d1, d2, d3] => { results := [.lit (.bool false)], args := [d1, d2, d3] }
  | _ => none }
def FnExactJoinsEndsWrongFalsely : Prop := fnExactJoinsEndsRow.holds Tryd.pinned (OpenSpec.ofChange fnExactJoinsEndsWrong)

/-- 'laws.FnJoinsEnds': WHATEVER THE INPUT: true; the input reads as it did. -/
def fnJoinsEndsSpec : ChangeSpec := { name := "fnJoinsEnds", fn := fun _ => fun
  | [d] => { results := [.lit (.bool true)], args := [d] }
  | _ => none }
def fnJoinsEndsRow : OpenClaim := { program := "ytadhkfebokhbcaadoor", sum := "5a206b718f74565b735165a109940c45a4289430c8fea8aa3920cd571b41beb7", func := "loop.example/fieldroots/laws.FnJoinsEnds", spec := "fnJoinsEnds", named := ["math/bits.deBruijn32tab", "math/bits.deBruijn64tab"], apart := false, laid := [("math/bits.deBruijn32tab", laid_math_bits_deBruijn32tab), ("math/bits.deBruijn64tab", laid_math_bits_deBruijn64tab)] }
def FnJoinsEndsSaid : Prop := fnJoinsEndsRow.holds Tryd.pinned (OpenSpec.ofChange fnJoinsEndsSpec)

/-- ITS FALSE NEIGHBOUR: 'it returns false'. Refute it at one input. -/
def fnJoinsEndsWrong : ChangeSpec := { name := "fnJoinsEnds", fn := fun _ => fun
  | [d] => { results := [.lit (.bool false)], args := [d] }
  | _ => none }
def FnJoinsEndsWrongFalsely : Prop := fnJoinsEndsRow.holds Tryd.pinned (OpenSpec.ofChange fnJoinsEndsWrong)

/-- 'laws.FnExactTreeOk': WHATEVER THE INPUT: true; the input reads as it did. -/
def fnExactTreeOkSpec : ChangeSpec := { name := "fnExactTreeOk", fn := fun _ => fun
  | [d1, d2] => { results := [.lit (.bool true)], args := [d1, d2] }
  | _ => none }
def fnExactTreeOkRow : OpenClaim := { program := "ytadhkfebokhbcaadoor", sum := "5a206b718f74565b735165a109940c45a4289430c8fea8aa3920cd571b41beb7", func := "loop.example/fieldroots/laws.FnExactTreeOk", spec := "fnExactTreeOk", named := ["math/bits.deBruijn32tab", "math/bits.deBruijn64tab"], apart := false, laid := [("math/bits.deBruijn32tab", laid_math_bits_deBruijn32tab), ("math/bits.deBruijn64tab", laid_math_bits_deBruijn64tab)] }
def FnExactTreeOkSaid : Prop := fnExactTreeOkRow.holds Tryd.pinned (OpenSpec.ofChange fnExactTreeOkSpec)

/-- ITS FALSE NEIGHBOUR: 'it returns false'. Refute it at one input. -/
def fnExactTreeOkWrong : ChangeSpec := { name := "fnExactTreeOk", fn := fun _ => fun
  | [d1, d2] => { results := [.lit (.bool false)], args := [d1, d2] }
  | _ => none }
def FnExactTreeOkWrongFalsely : Prop := fnExactTreeOkRow.holds Tryd.pinned (OpenSpec.ofChange fnExactTreeOkWrong)

/-- 'laws.FnTreeOk': WHATEVER THE INPUT: true; the input reads as it did. -/
def fnTreeOkSpec : ChangeSpec := { name := "fnTreeOk", fn := fun _ => fun
  | [d] => { results := [.lit (.bool true)], args := [d] }
  | _ => none }
def fnTreeOkRow : OpenClaim := { program := "ytadhkfebokhbcaadoor", sum := "5a206b718f74565b735165a109940c45a4289430c8fea8aa3920cd571b41beb7", func := "loop.example/fieldroots/laws.FnTreeOk", spec := "fnTreeOk", named := ["math/bits.deBruijn32tab", "math/bits.deBruijn64tab"], apart := false, laid := [("math/bits.deBruijn32tab", laid_math_bits_deBruijn32tab), ("math/bits.deBruijn64tab", laid_math_bits_deBruijn64tab)] }
def FnTreeOkSaid : Prop := fnTreeOkRow.holds Tryd.pinned (OpenSpec.ofChange fnTreeOkSpec)

/-- ITS FALSE NEIGHBOUR: 'it returns false'. Refute it at one input. -/
def fnTreeOkWrong : ChangeSpec := { name := "fnTreeOk", fn := fun _ => fun
  | [d] => { results := [.lit (.bool false)], args := [d] }
  | _ => none }
def FnTreeOkWrongFalsely : Prop := fnTreeOkRow.holds Tryd.pinned (OpenSpec.ofChange fnTreeOkWrong)

/-- 'laws.FnExactPartsOf': WHATEVER THE INPUT: true; the input reads as it did. -/
def fnExactPartsOfSpec : ChangeSpec := { name := "fnExactPartsOf", fn := fun _ => fun
  | [d] => { results := [.lit (.bool true)], args := [d] }
  | _ => none }
def fnExactPartsOfRow : OpenClaim := { program := "ytadhkfebokhbcaadoor", sum := "5a206b718f74565b735165a109940c45a4289430c8fea8aa3920cd571b41beb7", func := "loop.example/fieldroots/laws.FnExactPartsOf", spec := "fnExactPartsOf", named := ["math/bits.deBruijn32tab", "math/bits.deBruijn64tab"], apart := false, laid := [("math/bits.deBruijn32tab", laid_math_bits_deBruijn32tab), ("math/bits.deBruijn64tab", laid_math_bits_deBruijn64tab)] }
def FnExactPartsOfSaid : Prop := fnExactPartsOfRow.holds Tryd.pinned (OpenSpec.ofChange fnExactPartsOfSpec)

/-- ITS FALSE NEIGHBOUR: 'it returns false'. Refute it at one input. -/
def fnExactPartsOfWrong : ChangeSpec := { name := "fnExactPartsOf", fn := fun _ => fun
  | [d] => { results := [.lit (.bool false)], args := [d] }
  | _ => none }
def FnExactPartsOfWrongFalsely : Prop := fnExactPartsOfRow.holds Tryd.pinned (OpenSpec.ofChange fnExactPartsOfWrong)

/-- 'laws.FnPartsOf': WHATEVER THE INPUT: true; the input reads as it did. -/
def fnPartsOfSpec : ChangeSpec := { name := "fnPartsOf", fn := fun _ => fun
  | [d] => { results := [.lit (.bool true)], args := [d] }
  | _ => none }
def fnPartsOfRow : OpenClaim := { program := "ytadhkfebokhbcaadoor", sum := "5a206b718f74565b735165a109940c45a4289430c8fea8aa3920cd571b41beb7", func := "loop.example/fieldroots/laws.FnPartsOf", spec := "fnPartsOf", named := ["math/bits.deBruijn32tab", "math/bits.deBruijn64tab"], apart := false, laid := [("math/bits.deBruijn32tab", laid_math_bits_deBruijn32tab), ("math/bits.deBruijn64tab", laid_math_bits_deBruijn64tab)] }
def FnPartsOfSaid : Prop := fnPartsOfRow.holds Tryd.pinned (OpenSpec.ofChange fnPartsOfSpec)

/-- ITS FALSE NEIGHBOUR: 'it returns false'. Refute it at one input. -/
def fnPartsOfWrong : ChangeSpec := { name := "fnPartsOf", fn := fun _ => fun
  | [d] => { results := [.lit (.bool false)], args := [d] }
  | _ => none }
def FnPartsOfWrongFalsely : Prop := fnPartsOfRow.holds Tryd.pinned (OpenSpec.ofChange fnPartsOfWrong)

/-- 'laws.FnLeavesOf': WHATEVER THE INPUT: true; the input reads as it did. -/
def fnLeavesOfSpec : ChangeSpec := { name := "fnLeavesOf", fn := fun _ => fun
  | [d] => { results := [.lit (.bool true)], args := [d] }
  | _ => none }
def fnLeavesOfRow : OpenClaim := { program := "ytadhkfebokhbcaadoor", sum := "5a206b718f74565b735165a109940c45a4289430c8fea8aa3920cd571b41beb7", func := "loop.example/fieldroots/laws.FnLeavesOf", spec := "fnLeavesOf", named := ["math/bits.deBruijn32tab", "math/bits.deBruijn64tab"], apart := false, laid := [("math/bits.deBruijn32tab", laid_math_bits_deBruijn32tab), ("math/bits.deBruijn64tab", laid_math_bits_deBruijn64tab)] }
def FnLeavesOfSaid : Prop := fnLeavesOfRow.holds Tryd.pinned (OpenSpec.ofChange fnLeavesOfSpec)

/-- ITS FALSE NEIGHBOUR: 'it returns false'. Refute it at one input. -/
def fnLeavesOfWrong : ChangeSpec := { name := "fnLeavesOf", fn := fun _ => fun
  | [d] => { results := [.lit (.bool false)], args := [d] }
  | _ => none }
def FnLeavesOfWrongFalsely : Prop := fnLeavesOfRow.holds Tryd.pinned (OpenSpec.ofChange fnLeavesOfWrong)

/-- 'laws.FnExactPruned': WHATEVER THE INPUT: true; the input reads as it did. -/
def fnExactPrunedSpec : ChangeSpec := { name := "fnExactPruned", fn := fun _ => fun
  | [d1, d2, d3] => { results := [.lit (.bool true)], args := [d1, d2, d3] }
  | _ => none }
def fnExactPrunedRow : OpenClaim := { program := "ytadhkfebokhbcaadoor", sum := "5a206b718f74565b735165a109940c45a4289430c8fea8aa3920cd571b41beb7", func := "loop.example/fieldroots/laws.FnExactPruned", spec := "fnExactPruned", named := ["math/bits.deBruijn32tab", "math/bits.deBruijn64tab"], apart := false, laid := [("math/bits.deBruijn32tab", laid_math_bits_deBruijn32tab), ("math/bits.deBruijn64tab", laid_math_bits_deBruijn64tab)] }
def FnExactPrunedSaid : Prop := fnExactPrunedRow.holds Tryd.pinned (OpenSpec.ofChange fnExactPrunedSpec)

/-- ITS FALSE NEIGHBOUR: 'it returns false'. Refute it at one input. -/
def fnExactPrunedWrong : ChangeSpec := { name := "fnExactPruned", fn := fun _ => fun
  | [d1, d2, d3] => { results := [.lit (.bool false)], args := [d1, d2, d3] }
  | _ => none }
def FnExactPrunedWrongFalsely : Prop := fnExactPrunedRow.holds Tryd.pinned (OpenSpec.ofChange fnExactPrunedWrong)

/-- 'laws.FnPruned': WHATEVER THE INPUT: true; the input reads as it did. -/
def fnPrunedSpec : ChangeSpec := { name := "fnPruned", fn := fun _ => fun
  | [d] => { results := [.lit (.bool true)], args := [d] }
  | _ => none }
def fnPrunedRow : OpenClaim := { program := "ytadhkfebokhbcaadoor", sum := "5a206b718f74565b735165a109940c45a4289430c8fea8aa3920cd571b41beb7", func := "loop.example/fieldroots/laws.FnPruned", spec := "fnPruned", named := ["math/bits.deBruijn32tab", "math/bits.deBruijn64tab"], apart := false, laid := [("math/bits.deBruijn32tab", laid_math_bits_deBruijn32tab), ("math/bits.deBruijn64tab", laid_math_bits_deBruijn64tab)] }
def FnPrunedSaid : Prop := fnPrunedRow.holds Tryd.pinned (OpenSpec.ofChange fnPrunedSpec)

/-- ITS FALSE NEIGHBOUR: 'it returns false'. Refute it at one input. -/
def fnPrunedWrong : ChangeSpec := { name := "fnPruned", fn := fun _ => fun
  | [d] => { results := [.lit (.bool false)], args := [d] }
  | _ => none }
def FnPrunedWrongFalsely : Prop := fnPrunedRow.holds Tryd.pinned (OpenSpec.ofChange fnPrunedWrong)

/-- 'laws.FnExactPathOf': WHATEVER THE INPUT: true; the input reads as it did. -/
def fnExactPathOfSpec : ChangeSpec := { name := "fnExactPathOf", fn := fun _ => fun
  | [d1, d2, d3] => { results := [.lit (.bool true)], args := [d1, d2, d3] }
  | _ => none }
def fnExactPathOfRow : OpenClaim := { program := "ytadhkfebokhbcaadoor", sum := "5a206b718f74565b735165a109940c45a4289430c8fea8aa3920cd571b41beb7", func := "loop.example/fieldroots/laws.FnExactPathOf", spec := "fnExactPathOf", named := ["math/bits.deBruijn32tab", "math/bits.deBruijn64tab"], apart := false, laid := [("math/bits.deBruijn32tab", laid_math_bits_deBruijn32tab), ("math/bits.deBruijn64tab", laid_math_bits_deBruijn64tab)] }
def FnExactPathOfSaid : Prop := fnExactPathOfRow.holds Tryd.pinned (OpenSpec.ofChange fnExactPathOfSpec)

/-- ITS FALSE NEIGHBOUR: 'it returns false'. Refute it at one input. -/
def fnExactPathOfWrong : ChangeSpec := { name := "fnExactPathOf", fn := fun _ => fun
  | [d1, d2, d3] => { results := [.lit (.bool false)], args := [d1, d2, d3] }
  | _ => none }
def FnExactPathOfWrongFalsely : Prop := fnExactPathOfRow.holds Tryd.pinned (OpenSpec.ofChange fnExactPathOfWrong)

/-- 'laws.FnExactBridgeWays': WHATEVER THE INPUT: true; the input reads as it did. -/
def fnExactBridgeWaysSpec : ChangeSpec := { name := "fnExactBridgeWays", fn := fun _ => fun
  | [d] => { results := [.lit (.bool true)], args := [d] }
  | _ => none }
def fnExactBridgeWaysRow : OpenClaim := { program := "ytadhkfebokhbcaadoor", sum := "5a206b718f74565b735165a109940c45a4289430c8fea8aa3920cd571b41beb7", func := "loop.example/fieldroots/laws.FnExactBridgeWays", spec := "fnExactBridgeWays", named := ["math/bits.deBruijn32tab", "math/bits.deBruijn64tab"], apart := false, laid := [("math/bits.deBruijn32tab", laid_math_bits_deBruijn32tab), ("math/bits.deBruijn64tab", laid_math_bits_deBruijn64tab)] }
def FnExactBridgeWaysSaid : Prop := fnExactBridgeWaysRow.holds Tryd.pinned (OpenSpec.ofChange fnExactBridgeWaysSpec)

/-- ITS FALSE NEIGHBOUR: 'it returns false'. Refute it at one input. -/
def fnExactBridgeWaysWrong : ChangeSpec := { name := "fnExactBridgeWays", fn := fun _ => fun
  | [d] => { results := [.lit (.bool false)], args := [d] }
  | _ => none }
def FnExactBridgeWaysWrongFalsely : Prop := fnExactBridgeWaysRow.holds Tryd.pinned (OpenSpec.ofChange fnExactBridgeWaysWrong)

/-- 'laws.FnExactSpanMany': WHATEVER THE INPUT: true; the input reads as it did. -/
def fnExactSpanManySpec : ChangeSpec := { name := "fnExactSpanMany", fn := fun _ => fun
  | [d] => { results := [.lit (.bool true)], args := [d] }
  | _ => none }
def fnExactSpanManyRow : OpenClaim := { program := "ytadhkfebokhbcaadoor", sum := "5a206b718f74565b735165a109940c45a4289430c8fea8aa3920cd571b41beb7", func := "loop.example/fieldroots/laws.FnExactSpanMany", spec := "fnExactSpanMany", named := ["math/bits.deBruijn32tab", "math/bits.deBruijn64tab"], apart := false, laid := [("math/bits.deBruijn32tab", laid_math_bits_deBruijn32tab), ("math/bits.deBruijn64tab", laid_math_bits_deBruijn64tab)] }
def FnExactSpanManySaid : Prop := fnExactSpanManyRow.holds Tryd.pinned (OpenSpec.ofChange fnExactSpanManySpec)

/-- ITS FALSE NEIGHBOUR: 'it returns false'. Refute it at one input. -/
def fnExactSpanManyWrong : ChangeSpec := { name := "fnExactSpanMany", fn := fun _ => fun
  | [d] => { results := [.lit (.bool false)], args := [d] }
  | _ => none }
def FnExactSpanManyWrongFalsely : Prop := fnExactSpanManyRow.holds Tryd.pinned (OpenSpec.ofChange fnExactSpanManyWrong)

/- THE SECOND FORM. 'bulk': how many values and letters a reading holds, each counted each time it is reached (what is shared counts as often as it is met; a slice's spare places count too). A statement '..UptoSaid' is the law's where the arguments, and the package variables that the reading takes, are together of bulk at most 1048576: NARROWER than '..Said'. Prove '..Said' where nothing that the law and all that it calls make is longer than what came in: it says more and counts as full. Else prove '..UptoSaid'. A law counts once. -/
mutual
def uptoBulk {H : Type} : DataW H → Nat
  | .lit (.string bytes) => bytes.length + 1
  | .lit _ => 1
  | .nil => 1
  | .ptr d => uptoBulk d + 1
  | .slice elems spare => uptoBulkAll elems + uptoBulkAll spare + 1
  | .agg parts => uptoBulkAll parts + 1
  | .iface _ d => uptoBulk d + 1
  | .map entries => uptoBulkEntries entries + 1
  | .held _ => 1
def uptoBulkAll {H : Type} : List (DataW H) → Nat
  | [] => 0
  | d :: r => uptoBulk d + uptoBulkAll r
def uptoBulkEntries {H : Type} : List (Lit × DataW H) → Nat
  | [] => 0
  | x :: r => uptoBulkEntry x + uptoBulkEntries r
def uptoBulkEntry {H : Type} : Lit × DataW H → Nat
  | (.string bytes, d) => bytes.length + uptoBulk d + 1
  | (_, d) => uptoBulk d + 1
 end
def uptoSmall : (H : Type) → List (DataW H) → Bool := fun _ ds => decide (uptoBulkAll ds ≤ 1048576)
def OpenSpec.upto (s : _root_.Go.ChangeSpec) : _root_.Go.OpenSpec := { _root_.Go.OpenSpec.ofChange s with cond := some uptoSmall }

/-- 'laws.FnExactJoinsEnds', WHERE WHAT IT READS IS OF BULK AT MOST 1048576: true; the input reads as it did. -/
def fnExactJoinsEndsUptoRow : OpenClaim := { program := "ytadhkfebokhbcaadoor", sum := "5a206b718f74565b735165a109940c45a4289430c8fea8aa3920cd571b41beb7", func := "loop.example/fieldroots/laws.FnExactJoinsEnds", spec := "fnExactJoinsEnds", named := ["math/bits.deBruijn32tab", "math/bits.deBruijn64tab"], apart := false, laid := [("math/bits.deBruijn32tab", laid_math_bits_deBruijn32tab), ("math/bits.deBruijn64tab", laid_math_bits_deBruijn64tab)], narrowed := true }
def FnExactJoinsEndsUptoSaid : Prop := fnExactJoinsEndsUptoRow.holds Tryd.pinned (OpenSpec.upto fnExactJoinsEndsSpec)

/-- 'laws.FnJoinsEnds', WHERE WHAT IT READS IS OF BULK AT MOST 1048576: true; the input reads as it did. -/
def fnJoinsEndsUptoRow : OpenClaim := { program := "ytadhkfebokhbcaadoor", sum := "5a206b718f74565b735165a109940c45a4289430c8fea8aa3920cd571b41beb7", func := "loop.example/fieldroots/laws.FnJoinsEnds", spec := "fnJoinsEnds", named := ["math/bits.deBruijn32tab", "math/bits.deBruijn64tab"], apart := false, laid := [("math/bits.deBruijn32tab", laid_math_bits_deBruijn32tab), ("math/bits.deBruijn64tab", laid_math_bits_deBruijn64tab)], narrowed := true }
def FnJoinsEndsUptoSaid : Prop := fnJoinsEndsUptoRow.holds Tryd.pinned (OpenSpec.upto fnJoinsEndsSpec)

/-- 'laws.FnExactTreeOk', WHERE WHAT IT READS IS OF BULK AT MOST 1048576: true; the input reads as it did. -/
def fnExactTreeOkUptoRow : OpenClaim := { program := "ytadhkfebokhbcaadoor", sum := "5a206b718f74565b735165a109940c45a4289430c8fea8aa3920cd571b41beb7", func := "loop.example/fieldroots/laws.FnExactTreeOk", spec := "fnExactTreeOk", named := ["math/bits.deBruijn32tab", "math/bits.deBruijn64tab"], apart := false, laid := [("math/bits.deBruijn32tab", laid_math_bits_deBruijn32tab), ("math/bits.deBruijn64tab", laid_math_bits_deBruijn64tab)], narrowed := true }
def FnExactTreeOkUptoSaid : Prop := fnExactTreeOkUptoRow.holds Tryd.pinned (OpenSpec.upto fnExactTreeOkSpec)

/-- 'laws.FnTreeOk', WHERE WHAT IT READS IS OF BULK AT MOST 1048576: true; the input reads as it did. -/
def fnTreeOkUptoRow : OpenClaim := { program := "ytadhkfebokhbcaadoor", sum := "5a206b718f74565b735165a109940c45a4289430c8fea8aa3920cd571b41beb7", func := "loop.example/fieldroots/laws.FnTreeOk", spec := "fnTreeOk", named := ["math/bits.deBruijn32tab", "math/bits.deBruijn64tab"], apart := false, laid := [("math/bits.deBruijn32tab", laid_math_bits_deBruijn32tab), ("math/bits.deBruijn64tab", laid_math_bits_deBruijn64tab)], narrowed := true }
def FnTreeOkUptoSaid : Prop := fnTreeOkUptoRow.holds Tryd.pinned (OpenSpec.upto fnTreeOkSpec)

/-- 'laws.FnExactPartsOf', WHERE WHAT IT READS IS OF BULK AT MOST 1048576: true; the input reads as it did. -/
def fnExactPartsOfUptoRow : OpenClaim := { program := "ytadhkfebokhbcaadoor", sum := "5a206b718f74565b735165a109940c45a4289430c8fea8aa3920cd571b41beb7", func := "loop.example/fieldroots/laws.FnExactPartsOf", spec := "fnExactPartsOf", named := ["math/bits.deBruijn32tab", "math/bits.deBruijn64tab"], apart := false, laid := [("math/bits.deBruijn32tab", laid_math_bits_deBruijn32tab), ("math/bits.deBruijn64tab", laid_math_bits_deBruijn64tab)], narrowed := true }
def FnExactPartsOfUptoSaid : Prop := fnExactPartsOfUptoRow.holds Tryd.pinned (OpenSpec.upto fnExactPartsOfSpec)

/-- 'laws.FnPartsOf', WHERE WHAT IT READS IS OF BULK AT MOST 1048576: true; the input reads as it did. -/
def fnPartsOfUptoRow : OpenClaim := { program := "ytadhkfebokhbcaadoor", sum := "5a206b718f74565b735165a109940c45a4289430c8fea8aa3920cd571b41beb7", func := "loop.example/fieldroots/laws.FnPartsOf", spec := "fnPartsOf", named := ["math/bits.deBruijn32tab", "math/bits.deBruijn64tab"], apart := false, laid := [("math/bits.deBruijn32tab", laid_math_bits_deBruijn32tab), ("math/bits.deBruijn64tab", laid_math_bits_deBruijn64tab)], narrowed := true }
def FnPartsOfUptoSaid : Prop := fnPartsOfUptoRow.holds Tryd.pinned (OpenSpec.upto fnPartsOfSpec)

/-- 'laws.FnLeavesOf', WHERE WHAT IT READS IS OF BULK AT MOST 1048576: true; the input reads as it did. -/
def fnLeavesOfUptoRow : OpenClaim := { program := "ytadhkfebokhbcaadoor", sum := "5a206b718f74565b735165a109940c45a4289430c8fea8aa3920cd571b41beb7", func := "loop.example/fieldroots/laws.FnLeavesOf", spec := "fnLeavesOf", named := ["math/bits.deBruijn32tab", "math/bits.deBruijn64tab"], apart := false, laid := [("math/bits.deBruijn32tab", laid_math_bits_deBruijn32tab), ("math/bits.deBruijn64tab", laid_math_bits_deBruijn64tab)], narrowed := true }
def FnLeavesOfUptoSaid : Prop := fnLeavesOfUptoRow.holds Tryd.pinned (OpenSpec.upto fnLeavesOfSpec)

/-- 'laws.FnExactPruned', WHERE WHAT IT READS IS OF BULK AT MOST 1048576: true; the input reads as it did. -/
def fnExactPrunedUptoRow : OpenClaim := { program := "ytadhkfebokhbcaadoor", sum := "5a206b718f74565b735165a109940c45a4289430c8fea8aa3920cd571b41beb7", func := "loop.example/fieldroots/laws.FnExactPruned", spec := "fnExactPruned", named := ["math/bits.deBruijn32tab", "math/bits.deBruijn64tab"], apart := false, laid := [("math/bits.deBruijn32tab", laid_math_bits_deBruijn32tab), ("math/bits.deBruijn64tab", laid_math_bits_deBruijn64tab)], narrowed := true }
def FnExactPrunedUptoSaid : Prop := fnExactPrunedUptoRow.holds Tryd.pinned (OpenSpec.upto fnExactPrunedSpec)

/-- 'laws.FnPruned', WHERE WHAT IT READS IS OF BULK AT MOST 1048576: true; the input reads as it did. -/
def fnPrunedUptoRow : OpenClaim := { program := "ytadhkfebokhbcaadoor", sum := "5a206b718f74565b735165a109940c45a4289430c8fea8aa3920cd571b41beb7", func := "loop.example/fieldroots/laws.FnPruned", spec := "fnPruned", named := ["math/bits.deBruijn32tab", "math/bits.deBruijn64tab"], apart := false, laid := [("math/bits.deBruijn32tab", laid_math_bits_deBruijn32tab), ("math/bits.deBruijn64tab", laid_math_bits_deBruijn64tab)], narrowed := true }
def FnPrunedUptoSaid : Prop := fnPrunedUptoRow.holds Tryd.pinned (OpenSpec.upto fnPrunedSpec)

/-- 'laws.FnExactPathOf', WHERE WHAT IT READS IS OF BULK AT MOST 1048576: true; the input reads as it did. -/
def fnExactPathOfUptoRow : OpenClaim := { program := "ytadhkfebokhbcaadoor", sum := "5a206b718f74565b735165a109940c45a4289430c8fea8aa3920cd571b41beb7", func := "loop.example/fieldroots/laws.FnExactPathOf", spec := "fnExactPathOf", named := ["math/bits.deBruijn32tab", "math/bits.deBruijn64tab"], apart := false, laid := [("math/bits.deBruijn32tab", laid_math_bits_deBruijn32tab), ("math/bits.deBruijn64tab", laid_math_bits_deBruijn64tab)], narrowed := true }
def FnExactPathOfUptoSaid : Prop := fnExactPathOfUptoRow.holds Tryd.pinned (OpenSpec.upto fnExactPathOfSpec)

/-- 'laws.FnExactBridgeWays', WHERE WHAT IT READS IS OF BULK AT MOST 1048576: true; the input reads as it did. -/
def fnExactBridgeWaysUptoRow : OpenClaim := { program := "ytadhkfebokhbcaadoor", sum := "5a206b718f74565b735165a109940c45a4289430c8fea8aa3920cd571b41beb7", func := "loop.example/fieldroots/laws.FnExactBridgeWays", spec := "fnExactBridgeWays", named := ["math/bits.deBruijn32tab", "math/bits.deBruijn64tab"], apart := false, laid := [("math/bits.deBruijn32tab", laid_math_bits_deBruijn32tab), ("math/bits.deBruijn64tab", laid_math_bits_deBruijn64tab)], narrowed := true }
def FnExactBridgeWaysUptoSaid : Prop := fnExactBridgeWaysUptoRow.holds Tryd.pinned (OpenSpec.upto fnExactBridgeWaysSpec)

/-- 'laws.FnExactSpanMany', WHERE WHAT IT READS IS OF BULK AT MOST 1048576: true; the input reads as it did. -/
def fnExactSpanManyUptoRow : OpenClaim := { program := "ytadhkfebokhbcaadoor", sum := "5a206b718f74565b735165a109940c45a4289430c8fea8aa3920cd571b41beb7", func := "loop.example/fieldroots/laws.FnExactSpanMany", spec := "fnExactSpanMany", named := ["math/bits.deBruijn32tab", "math/bits.deBruijn64tab"], apart := false, laid := [("math/bits.deBruijn32tab", laid_math_bits_deBruijn32tab), ("math/bits.deBruijn64tab", laid_math_bits_deBruijn64tab)], narrowed := true }
def FnExactSpanManyUptoSaid : Prop := fnExactSpanManyUptoRow.holds Tryd.pinned (OpenSpec.upto fnExactSpanManySpec)

end Rows
end Go.Proofs.YtadhkfebokhbcaaDoor
