/-
  NARROWER THAN 'FOR EVERY INPUT', by the rows' own cells (each row's printed sentence says how): FnCostWithout: laid · FnCostWith: laid · FnMustWays: laid · FnMayWays: laid · FnDearerNet: laid · FnMustMay: laid · FnExactCostWithout: laid · FnExactCostWith: laid · FnExactMustWays: laid · FnExactMayWays: laid.
  DERIVED. THE GIVEN ROWS OF THIS SEAT. 10 by the template 'for every input the law returns true; each argument reads behind the call as it read before'; 0 by the template 'total and deterministic' (their statements: YtcfendmhhhggeaaDoorTotals.lean).
  GIVEN WITH THE SEED: the statements are not yours to turn. If you find one false, say at which input.
  Laid BY PROGRAM, IN A SANDBOX (cutbox-rows.mjs): the forced cells as the released guide's own fill.sh prints them over the translation 8d6b402fcea80fe4… (all of the seat's roots in one cut). By AI agents, Wed Nov 11 2026. No macro, syntax, notation, axiom, sorry.
-/
import Derived.Test.YtcfendmhhhggeaaDoorChecked
import GoSem.Claim
import GoSem.ClaimJoined
import GoSem.ClaimMapViews
import Derived.JoinedTies
import Derived.KernelRfl
namespace Go.Proofs.YtcfendmhhhggeaaDoor
/- THE CELL 'sum', in the pinned program and in every row, IS THE sha256 OF THE DUMP (.gsa) THAT YtcfendmhhhggeaaDoorProg.lean LOADS. Nothing in Lean hashes anything: it is a label: what it is worth is what the hold of that sum in a sandbox is worth. -/
noncomputable def Tryd.pinned : Pinned := { name := "ytcfendmhhhggeaadoor", sum := "8d6b402fcea80fe45d4b4665595a305d5b1d03f7d84ca02bfa0098cc1e9b6c32", checked := Tryd.checked }
namespace Rows
def none {H : Type} : Left H := { results := [], args := [] }

/- WHAT THE LISTED PACKAGE-LEVEL VARIABLES READ AS WHEN THE CALL BEGINS. Each datum BY PROGRAM (the guide's laid-datum.mjs) off the statement by which the dump's own 'gosem.cut.vars' lays the variable. In a bare row this is a premise. The card (YtcfendmhhhggeaaDoorCards.lean) ties it to the program's text. -/
def laid_math_bits_deBruijn32tab {H : Type} : DataW H := .agg [.lit (.int .u8 0), .lit (.int .u8 1), .lit (.int .u8 28), .lit (.int .u8 2), .lit (.int .u8 29), .lit (.int .u8 14), .lit (.int .u8 24), .lit (.int .u8 3), .lit (.int .u8 30), .lit (.int .u8 22), .lit (.int .u8 20), .lit (.int .u8 15), .lit (.int .u8 25), .lit (.int .u8 17), .lit (.int .u8 4), .lit (.int .u8 8), .lit (.int .u8 31), .lit (.int .u8 27), .lit (.int .u8 13), .lit (.int .u8 23), .lit (.int .u8 21), .lit (.int .u8 19), .lit (.int .u8 16), .lit (.int .u8 7), .lit (.int .u8 26), .lit (.int .u8 12), .lit (.int .u8 18), .lit (.int .u8 6), .lit (.int .u8 11), .lit (.int .u8 5), .lit (.int .u8 10), .lit (.int .u8 9)]
def laid_math_bits_deBruijn64tab {H : Type} : DataW H := .agg [.lit (.int .u8 0), .lit (.int .u8 1), .lit (.int .u8 56), .lit (.int .u8 2), .lit (.int .u8 57), .lit (.int .u8 49), .lit (.int .u8 28), .lit (.int .u8 3), .lit (.int .u8 61), .lit (.int .u8 58), .lit (.int .u8 42), .lit (.int .u8 50), .lit (.int .u8 38), .lit (.int .u8 29), .lit (.int .u8 17), .lit (.int .u8 4), .lit (.int .u8 62), .lit (.int .u8 47), .lit (.int .u8 59), .lit (.int .u8 36), .lit (.int .u8 45), .lit (.int .u8 43), .lit (.int .u8 51), .lit (.int .u8 22), .lit (.int .u8 53), .lit (.int .u8 39), .lit (.int .u8 33), .lit (.int .u8 30), .lit (.int .u8 24), .lit (.int .u8 18), .lit (.int .u8 12), .lit (.int .u8 5), .lit (.int .u8 63), .lit (.int .u8 55), .lit (.int .u8 48), .lit (.int .u8 27), .lit (.int .u8 60), .lit (.int .u8 41), .lit (.int .u8 37), .lit (.int .u8 16), .lit (.int .u8 46), .lit (.int .u8 35), .lit (.int .u8 44), .lit (.int .u8 21), .lit (.int .u8 52), .lit (.int .u8 32), .lit (.int .u8 23), .lit (.int .u8 11), .lit (.int .u8 54), .lit (.int .u8 26), .lit (.int .u8 40), .lit (.int .u8 15), .lit (.int .u8 34), .lit (.int .u8 20), .lit (.int .u8 31), .lit (.int .u8 10), .lit (.int .u8 25), .lit (.int .u8 14), .lit (.int .u8 19), .lit (.int .u8 9), .lit (.int .u8 13), .lit (.int .u8 8), .lit (.int .u8 7), .lit (.int .u8 6)]

/-- 'laws.FnCostWithout': WHATEVER THE INPUT: true; the input reads as it did. -/
def fnCostWithoutSpec : ChangeSpec := { name := "fnCostWithout", fn := fun _ => fun
  | [d] => { results := [.lit (.bool true)], args := [d] }
  | _ => none }
def fnCostWithoutRow : OpenClaim := { program := "ytcfendmhhhggeaadoor", sum := "8d6b402fcea80fe45d4b4665595a305d5b1d03f7d84ca02bfa0098cc1e9b6c32", func := "loop.example/fieldroots/laws.FnCostWithout", spec := "fnCostWithout", named := ["math/bits.deBruijn32tab", "math/bits.deBruijn64tab"], apart := false, laid := [("math/bits.deBruijn32tab", laid_math_bits_deBruijn32tab), ("math/bits.deBruijn64tab", laid_math_bits_deBruijn64tab)] }
def FnCostWithoutSaid : Prop := fnCostWithoutRow.holds Tryd.pinned (OpenSpec.ofChange fnCostWithoutSpec)

/-- ITS FALSE NEIGHBOUR: 'it returns false'. Refute it at one input. -/
def fnCostWithoutWrong : ChangeSpec := { name := "fnCostWithout", fn := fun _ => fun
  | [d] => { results := [.lit (.bool false)], args := [d] }
  | _ => none }
def FnCostWithoutWrongFalsely : Prop := fnCostWithoutRow.holds Tryd.pinned (OpenSpec.ofChange fnCostWithoutWrong)

/-- 'laws.FnCostWith': WHATEVER THE INPUT: true; the input reads as it did. -/
def fnCostWithSpec : ChangeSpec := { name := "fnCostWith", fn := fun _ => fun
  | [d] => { results := [.lit (.bool true)], args := [d] }
  | _ => none }
def fnCostWithRow : OpenClaim := { program := "ytcfendmhhhggeaadoor", sum := "8d6b402fcea80fe45d4b4665595a305d5b1d03f7d84ca02bfa0098cc1e9b6c32", func := "loop.example/fieldroots/laws.FnCostWith", spec := "fnCostWith", named := ["math/bits.deBruijn32tab", "math/bits.deBruijn64tab"], apart := false, laid := [("math/bits.deBruijn32tab", laid_math_bits_deBruijn32tab), ("math/bits.deBruijn64tab", laid_math_bits_deBruijn64tab)] }
def FnCostWithSaid : Prop := fnCostWithRow.holds Tryd.pinned (OpenSpec.ofChange fnCostWithSpec)

/-- ITS FALSE NEIGHBOUR: 'it returns false'. Refute it at one input. -/
def fnCostWithWrong : ChangeSpec := { name := "fnCostWith", fn := fun _ => fun
  | [d] => { results := [.lit (.bool false)], args := [d] }
  | _ => none }
def FnCostWithWrongFalsely : Prop := fnCostWithRow.holds Tryd.pinned (OpenSpec.ofChange fnCostWithWrong)

/-- 'laws.FnMustWays': WHATEVER THE INPUT: true; the input reads as it did. -/
def fnMustWaysSpec : ChangeSpec := { name := "fnMustWays", fn := fun _ => fun
  | [d] => { results := [.lit (.bool true)], args := [d] }
  | _ => none }
def fnMustWaysRow : OpenClaim := { program := "ytcfendmhhhggeaadoor", sum := "8d6b402fcea80fe45d4b4665595a305d5b1d03f7d84ca02bfa0098cc1e9b6c32", func := "loop.example/fieldroots/laws.FnMustWays", spec := "fnMustWays", named := ["math/bits.deBruijn32tab", "math/bits.deBruijn64tab"], apart := false, laid := [("math/bits.deBruijn32tab", laid_math_bits_deBruijn32tab), ("math/bits.deBruijn64tab", laid_math_bits_deBruijn64tab)] }
def FnMustWaysSaid : Prop := fnMustWaysRow.holds Tryd.pinned (OpenSpec.ofChange fnMustWaysSpec)

/-- ITS FALSE NEIGHBOUR: 'it returns false'. Refute it at one input. -/
def fnMustWaysWrong : ChangeSpec := { name := "fnMustWays", fn := fun _ => fun
  | [d] => { results := [.lit (.bool false)], args := [d] }
  | _ => none }
def FnMustWaysWrongFalsely : Prop := fnMustWaysRow.holds Tryd.pinned (OpenSpec.ofChange fnMustWaysWrong)

/-- 'laws.FnMayWays': WHATEVER THE INPUT: true; the input reads as it did. -/
def fnMayWaysSpec : ChangeSpec := { name := "fnMayWays", fn := fun _ => fun
  | [d] => { results := [.lit (.bool true)], args := [d] }
  | _ => none }
def fnMayWaysRow : OpenClaim := { program := "ytcfendmhhhggeaadoor", sum := "8d6b402fcea80fe45d4b4665595a305d5b1d03f7d84ca02bfa0098cc1e9b6c32", func := "loop.example/fieldroots/laws.FnMayWays", spec := "fnMayWays", named := ["math/bits.deBruijn32tab", "math/bits.deBruijn64tab"], apart := false, laid := [("math/bits.deBruijn32tab", laid_math_bits_deBruijn32tab), ("math/bits.deBruijn64tab", laid_math_bits_deBruijn64tab)] }
def FnMayWaysSaid : Prop := fnMayWaysRow.holds Tryd.pinned (OpenSpec.ofChange fnMayWaysSpec)

/-- ITS FALSE NEIGHBOUR: 'it returns false'. Refute it at one input. -/
def fnMayWaysWrong : ChangeSpec := { name := "fnMayWays", fn := fun _ => fun
  | [d] => { results := [.lit (.bool false)], args := [d] }
  | _ => none }
def FnMayWaysWrongFalsely : Prop := fnMayWaysRow.holds Tryd.pinned (OpenSpec.ofChange fnMayWaysWrong)

/-- 'laws.FnDearerNet': WHATEVER THE INPUT: true; the input reads as it did. -/
def fnDearerNetSpec : ChangeSpec := { name := "fnDearerNet", fn := fun _ => fun
  | [d1, d2] => { results := [.lit (.bool true)], args := [d1, d2] }
  | _ => none }
def fnDearerNetRow : OpenClaim := { program := "ytcfendmhhhggeaadoor", sum := "8d6b402fcea80fe45d4b4665595a305d5b1d03f7d84ca02bfa0098cc1e9b6c32", func := "loop.example/fieldroots/laws.FnDearerNet", spec := "fnDearerNet", named := ["math/bits.deBruijn32tab", "math/bits.deBruijn64tab"], apart := false, laid := [("math/bits.deBruijn32tab", laid_math_bits_deBruijn32tab), ("math/bits.deBruijn64tab", laid_math_bits_deBruijn64tab)] }
def FnDearerNetSaid : Prop := fnDearerNetRow.holds Tryd.pinned (OpenSpec.ofChange fnDearerNetSpec)

/-- ITS FALSE NEIGHBOUR: 'it returns false'. Refute it at one input. -/
def fnDearerNetWrong : ChangeSpec := { name := "fnDearerNet", fn := fun _ => fun
  | [d1, d2] => { results := [.lit (.bool false)], args := [d1, d2] }
  | _ => none }
def FnDearerNetWrongFalsely : Prop := fnDearerNetRow.holds Tryd.pinned (OpenSpec.ofChange fnDearerNetWrong)

/-- 'laws.FnMustMay': WHATEVER THE INPUT: true; the input reads as it did. -/
def fnMustMaySpec : ChangeSpec := { name := "fnMustMay", fn := fun _ => fun
  | [d] => { results := [.lit (.bool true)], args := [d] }
  | _ => none }
def fnMustMayRow : OpenClaim := { program := "ytcfendmhhhggeaadoor", sum := "8d6b402fcea80fe45d4b4665595a305d5b1d03f7d84ca02bfa0098cc1e9b6c32", func := "loop.example/fieldroots/laws.FnMustMay", spec := "fnMustMay", named := ["math/bits.deBruijn32tab", "math/bits.deBruijn64tab"], apart := false, laid := [("math/bits.deBruijn32tab", laid_math_bits_deBruijn32tab), ("math/bits.deBruijn64tab", laid_math_bits_deBruijn64tab)] }
def FnMustMaySaid : Prop := fnMustMayRow.holds Tryd.pinned (OpenSpec.ofChange fnMustMaySpec)

/-- ITS FALSE NEIGHBOUR: 'it returns false'. Refute it at one input. -/
def fnMustMayWrong : ChangeSpec := { name := "fnMustMay", fn := fun _ => fun
  | [d] => { results := [.lit (.bool false)], args := [d] }
  | _ => none }
def FnMustMayWrongFalsely : Prop := fnMustMayRow.holds Tryd.pinned (OpenSpec.ofChange fnMustMayWrong)

/-- 'laws.FnExactCostWithout': WHATEVER THE INPUT: true; the input reads as it did. -/
def fnExactCostWithoutSpec : ChangeSpec := { name := "fnExactCostWithout", fn := fun _ => fun
  | [d1, d2, d3] => { results := [.lit (.bool true)], args := [d1, d2, d3] }
  | _ => none }
def fnExactCostWithoutRow : OpenClaim := { program := "ytcfendmhhhggeaadoor", sum := "8d6b402fcea80fe45d4b4665595a305d5b1d03f7d84ca02bfa0098cc1e9b6c32", func := "loop.example/fieldroots/laws.FnExactCostWithout", spec := "fnExactCostWithout", named := ["math/bits.deBruijn32tab", "math/bits.deBruijn64tab"], apart := false, laid := [("math/bits.deBruijn32tab", laid_math_bits_deBruijn32tab), ("math/bits.deBruijn64tab", laid_math_bits_deBruijn64tab)] }
def FnExactCostWithoutSaid : Prop := fnExactCostWithoutRow.holds Tryd.pinned (OpenSpec.ofChange fnExactCostWithoutSpec)

/-- ITS FALSE NEIGHBOUR: 'it returns false'. Refute it at one input. -/
def fnExactCostWithoutWrong : ChangeSpec := { name := "fnExactCostWithout", fn := fun _ => fun
  | [d1, d2, d3] => { results := [.lit (.bool false)], args := [d1, d2, d3] }
  | _ => none }
def FnExactCostWithoutWrongFalsely : Prop := fnExactCostWithoutRow.holds Tryd.pinned (OpenSpec.ofChange fnExactCostWithoutWrong)

/-- 'laws.FnExactCostWith': WHATEVER THE INPUT: true; the input reads as it did. -/
def fnExactCostWithSpec : ChangeSpec := { name := "fnExactCostWith", fn := fun _ => fun
  | [d1, d2, d3] => { results := [.lit (.bool true)], args := [d1, d2, d3] }
  | _ => none }
def fnExactCostWithRow : OpenClaim := { program := "ytcfendmhhhggeaadoor", sum := "8d6b402fcea80fe45d4b4665595a305d5b1d03f7d84ca02bfa0098cc1e9b6c32", func := "loop.example/fieldroots/laws.FnExactCostWith", spec := "fnExactCostWith", named := ["math/bits.deBruijn32tab", "math/bits.deBruijn64tab"], apart := false, laid := [("math/bits.deBruijn32tab", laid_math_bits_deBruijn32tab), ("math/bits.deBruijn64tab", laid_math_bits_deBruijn64tab)] }
def FnExactCostWithSaid : Prop := fnExactCostWithRow.holds Tryd.pinned (OpenSpec.ofChange fnExactCostWithSpec)

/-- ITS FALSE NEIGHBOUR: 'it returns false'. Refute it at one input. -/
def fnExactCostWithWrong : ChangeSpec := { name := "fnExactCostWith", fn := fun _ => fun
  | [d1, d2, d3] => { results := [.lit (.bool false)], args := [d1, d2, d3] }
  | _ => none }
def FnExactCostWithWrongFalsely : Prop := fnExactCostWithRow.holds Tryd.pinned (OpenSpec.ofChange fnExactCostWithWrong)

/-- 'laws.FnExactMustWays': WHATEVER THE INPUT: true; the input reads as it did. -/
def fnExactMustWaysSpec : ChangeSpec := { name := "fnExactMustWays", fn := fun _ => fun
  | [d1, d2] => { results := [.lit (.bool true)], args := [d1, d2] }
  | _ => none }
def fnExactMustWaysRow : OpenClaim := { program := "ytcfendmhhhggeaadoor", sum := "8d6b402fcea80fe45d4b4665595a305d5b1d03f7d84ca02bfa0098cc1e9b6c32", func := "loop.example/fieldroots/laws.FnExactMustWays", spec := "fnExactMustWays", named := ["math/bits.deBruijn32tab", "math/bits.deBruijn64tab"], apart := false, laid := [("math/bits.deBruijn32tab", laid_math_bits_deBruijn32tab), ("math/bits.deBruijn64tab", laid_math_bits_deBruijn64tab)] }
def FnExactMustWaysSaid : Prop := fnExactMustWaysRow.holds Tryd.pinned (OpenSpec.ofChange fnExactMustWaysSpec)

/-- ITS FALSE NEIGHBOUR: 'it returns false'. Refute it at one input. -/
def fnExactMustWaysWrong : ChangeSpec := { name := "fnExactMustWays", fn := fun _ => fun
  | [d1, d2] => { results := [.lit (.bool false)], args := [d1, d2] }
  | _ => none }
def FnExactMustWaysWrongFalsely : Prop := fnExactMustWaysRow.holds Tryd.pinned (OpenSpec.ofChange fnExactMustWaysWrong)

/-- 'laws.FnExactMayWays': WHATEVER THE INPUT: true; the input reads as it did. -/
def fnExactMayWaysSpec : ChangeSpec := { name := "fnExactMayWays", fn := fun _ => fun
  | [d1, d2] => { results := [.lit (.bool true)], args := [d1, d2] }
  | _ => none }
def fnExactMayWaysRow : OpenClaim := { program := "ytcfendmhhhggeaadoor", sum := "8d6b402fcea80fe45d4b4665595a305d5b1d03f7d84ca02bfa0098cc1e9b6c32", func := "loop.example/fieldroots/laws.FnExactMayWays", spec := "fnExactMayWays", named := ["math/bits.deBruijn32tab", "math/bits.deBruijn64tab"], apart := false, laid := [("math/bits.deBruijn32tab", laid_math_bits_deBruijn32tab), ("math/bits.deBruijn64tab", laid_math_bits_deBruijn64tab)] }
def FnExactMayWaysSaid : Prop := fnExactMayWaysRow.holds Tryd.pinned (OpenSpec.ofChange fnExactMayWaysSpec)

/-- ITS FALSE NEIGHBOUR: 'it returns false'. Refute it at one input. -/
def fnExactMayWaysWrong : ChangeSpec := { name := "fnExactMayWays", fn := fun _ => fun
  | [d1, d2] => { results := [.lit (.bool false)], args := [d1, d2] }
  | _ => none }
def FnExactMayWaysWrongFalsely : Prop := fnExactMayWaysRow.holds Tryd.pinned (OpenSpec.ofChange fnExactMayWaysWrong)

/- THE SECOND FORM. 'bulk': how many values and letters a reading holds, each counted each time it is reached (what is shared counts as often as it is met; a slice's spare places count too). A statement '..UptoSaid' is the law's where the arguments, and the package variables that the reading takes, are together of bulk at most 1048576: NARROWER than '..Said'. Prove '..Said' where nothing that the law and all that it calls make is longer than what came in: it says more and counts as full. Else prove '..UptoSaid'. A law counts once. -/
mutual
def uptoBulk {H : Type} : DataW H → Nat
  | .lit (.string bytes) => bytes.length + 1
  | .lit _ => 1
  | .nil => 1
  | .ptr d => uptoBulk d + 1
  | .slice elems spare => uptoBulkAll elems + uptoBulkAll spare + 1
  | .agg parts => uptoBulkAll parts + 1
  | .iface _ d => uptoBulk d + 1
  | .map entries => uptoBulkEntries entries + 1
  | .held _ => 1
def uptoBulkAll {H : Type} : List (DataW H) → Nat
  | [] => 0
  | d :: r => uptoBulk d + uptoBulkAll r
def uptoBulkEntries {H : Type} : List (Lit × DataW H) → Nat
  | [] => 0
  | x :: r => uptoBulkEntry x + uptoBulkEntries r
def uptoBulkEntry {H : Type} : Lit × DataW H → Nat
  | (.string bytes, d) => bytes.length + uptoBulk d + 1
  | (_, d) => uptoBulk d + 1
 end
def uptoSmall : (H : Type) → List (DataW H) → Bool := fun _ ds => decide (uptoBulkAll ds ≤ 1048576)
def OpenSpec.upto (s : _root_.Go.ChangeSpec) : _root_.Go.OpenSpec := { _root_.Go.OpenSpec.ofChange s with cond := some uptoSmall }

/-- 'laws.FnCostWithout', WHERE WHAT IT READS IS OF BULK AT MOST 1048576: true; the input reads as it did. -/
def fnCostWithoutUptoRow : OpenClaim := { program := "ytcfendmhhhggeaadoor", sum := "8d6b402fcea80fe45d4b4665595a305d5b1d03f7d84ca02bfa0098cc1e9b6c32", func := "loop.example/fieldroots/laws.FnCostWithout", spec := "fnCostWithout", named := ["math/bits.deBruijn32tab", "math/bits.deBruijn64tab"], apart := false, laid := [("math/bits.deBruijn32tab", laid_math_bits_deBruijn32tab), ("math/bits.deBruijn64tab", laid_math_bits_deBruijn64tab)], narrowed := true }
def FnCostWithoutUptoSaid : Prop := fnCostWithoutUptoRow.holds Tryd.pinned (OpenSpec.upto fnCostWithoutSpec)

/-- 'laws.FnCostWith', WHERE WHAT IT READS IS OF BULK AT MOST 1048576: true; the input reads as it did. -/
def fnCostWithUptoRow : OpenClaim := { program := "ytcfendmhhhggeaadoor", sum := "8d6b402fcea80fe45d4b4665595a305d5b1d03f7d84ca02bfa0098cc1e9b6c32", func := "loop.example/fieldroots/laws.FnCostWith", spec := "fnCostWith", named := ["math/bits.deBruijn32tab", "math/bits.deBruijn64tab"], apart := false, laid := [("math/bits.deBruijn32tab", laid_math_bits_deBruijn32tab), ("math/bits.deBruijn64tab", laid_math_bits_deBruijn64tab)], narrowed := true }
def FnCostWithUptoSaid : Prop := fnCostWithUptoRow.holds Tryd.pinned (OpenSpec.upto fnCostWithSpec)

/-- 'laws.FnMustWays', WHERE WHAT IT READS IS OF BULK AT MOST 1048576: true; the input reads as it did. -/
def fnMustWaysUptoRow : OpenClaim := { program := "ytcfendmhhhggeaadoor", sum := "8d6b402fcea80fe45d4b4665595a305d5b1d03f7d84ca02bfa0098cc1e9b6c32", func := "loop.example/fieldroots/laws.FnMustWays", spec := "fnMustWays", named := ["math/bits.deBruijn32tab", "math/bits.deBruijn64tab"], apart := false, laid := [("math/bits.deBruijn32tab", laid_math_bits_deBruijn32tab), ("math/bits.deBruijn64tab", laid_math_bits_deBruijn64tab)], narrowed := true }
def FnMustWaysUptoSaid : Prop := fnMustWaysUptoRow.holds Tryd.pinned (OpenSpec.upto fnMustWaysSpec)

/-- 'laws.FnMayWays', WHERE WHAT IT READS IS OF BULK AT MOST 1048576: true; the input reads as it did. -/
def fnMayWaysUptoRow : OpenClaim := { program := "ytcfendmhhhggeaadoor", sum := "8d6b402fcea80fe45d4b4665595a305d5b1d03f7d84ca02bfa0098cc1e9b6c32", func := "loop.example/fieldroots/laws.FnMayWays", spec := "fnMayWays", named := ["math/bits.deBruijn32tab", "math/bits.deBruijn64tab"], apart := false, laid := [("math/bits.deBruijn32tab", laid_math_bits_deBruijn32tab), ("math/bits.deBruijn64tab", laid_math_bits_deBruijn64tab)], narrowed := true }
def FnMayWaysUptoSaid : Prop := fnMayWaysUptoRow.holds Tryd.pinned (OpenSpec.upto fnMayWaysSpec)

/-- 'laws.FnDearerNet', WHERE WHAT IT READS IS OF BULK AT MOST 1048576: true; the input reads as it did. -/
def fnDearerNetUptoRow : OpenClaim := { program := "ytcfendmhhhggeaadoor", sum := "8d6b402fcea80fe45d4b4665595a305d5b1d03f7d84ca02bfa0098cc1e9b6c32", func := "loop.example/fieldroots/laws.FnDearerNet", spec := "fnDearerNet", named := ["math/bits.deBruijn32tab", "math/bits.deBruijn64tab"], apart := false, laid := [("math/bits.deBruijn32tab", laid_math_bits_deBruijn32tab), ("math/bits.deBruijn64tab", laid_math_bits_deBruijn64tab)], narrowed := true }
def FnDearerNetUptoSaid : Prop := fnDearerNetUptoRow.holds Tryd.pinned (OpenSpec.upto fnDearerNetSpec)

/-- 'laws.FnMustMay', WHERE WHAT IT READS IS OF BULK AT MOST 1048576: true; the input reads as it did. -/
def fnMustMayUptoRow : OpenClaim := { program := "ytcfendmhhhggeaadoor", sum := "8d6b402fcea80fe45d4b4665595a305d5b1d03f7d84ca02bfa0098cc1e9b6c32", func := "loop.example/fieldroots/laws.FnMustMay", spec := "fnMustMay", named := ["math/bits.deBruijn32tab", "math/bits.deBruijn64tab"], apart := false, laid := [("math/bits.deBruijn32tab", laid_math_bits_deBruijn32tab), ("math/bits.deBruijn64tab", laid_math_bits_deBruijn64tab)], narrowed := true }
def FnMustMayUptoSaid : Prop := fnMustMayUptoRow.holds Tryd.pinned (OpenSpec.upto fnMustMaySpec)

/-- 'laws.FnExactCostWithout', WHERE WHAT IT READS IS OF BULK AT MOST 1048576: true; the input reads as it did. -/
def fnExactCostWithoutUptoRow : OpenClaim := { program := "ytcfendmhhhggeaadoor", sum := "8d6b402fcea80fe45d4b4665595a305d5b1d03f7d84ca02bfa0098cc1e9b6c32", func := "loop.example/fieldroots/laws.FnExactCostWithout", spec := "fnExactCostWithout", named := ["math/bits.deBruijn32tab", "math/bits.deBruijn64tab"], apart := false, laid := [("math/bits.deBruijn32tab", laid_math_bits_deBruijn32tab), ("math/bits.deBruijn64tab", laid_math_bits_deBruijn64tab)], narrowed := true }
def FnExactCostWithoutUptoSaid : Prop := fnExactCostWithoutUptoRow.holds Tryd.pinned (OpenSpec.upto fnExactCostWithoutSpec)

/-- 'laws.FnExactCostWith', WHERE WHAT IT READS IS OF BULK AT MOST 1048576: true; the input reads as it did. -/
def fnExactCostWithUptoRow : OpenClaim := { program := "ytcfendmhhhggeaadoor", sum := "8d6b402fcea80fe45d4b4665595a305d5b1d03f7d84ca02bfa0098cc1e9b6c32", func := "loop.example/fieldroots/laws.FnExactCostWith", spec := "fnExactCostWith", named := ["math/bits.deBruijn32tab", "math/bits.deBruijn64tab"], apart := false, laid := [("math/bits.deBruijn32tab", laid_math_bits_deBruijn32tab), ("math/bits.deBruijn64tab", laid_math_bits_deBruijn64tab)], narrowed := true }
def FnExactCostWithUptoSaid : Prop := fnExactCostWithUptoRow.holds Tryd.pinned (OpenSpec.upto fnExactCostWithSpec)

/-- 'laws.FnExactMustWays', WHERE WHAT IT READS IS OF BULK AT MOST 1048576: true; the input reads as it did. -/
def fnExactMustWaysUptoRow : OpenClaim := { program := "ytcfendmhhhggeaadoor", sum := "8d6b402fcea80fe45d4b4665595a305d5b1d03f7d84ca02bfa0098cc1e9b6c32", func := "loop.example/fieldroots/laws.FnExactMustWays", spec := "fnExactMustWays", named := ["math/bits.deBruijn32tab", "math/bits.deBruijn64tab"], apart := false, laid := [("math/bits.deBruijn32tab", laid_math_bits_deBruijn32tab), ("math/bits.deBruijn64tab", laid_math_bits_deBruijn64tab)], narrowed := true }
def FnExactMustWaysUptoSaid : Prop := fnExactMustWaysUptoRow.holds Tryd.pinned (OpenSpec.upto fnExactMustWaysSpec)

/-- 'laws.FnExactMayWays', WHERE WHAT IT READS IS OF BULK AT MOST 1048576: true; the input reads as it did. -/
def fnExactMayWaysUptoRow : OpenClaim := { program := "ytcfendmhhhggeaadoor", sum := "8d6b402fcea80fe45d4b4665595a305d5b1d03f7d84ca02bfa0098cc1e9b6c32", func := "loop.example/fieldroots/laws.FnExactMayWays", spec := "fnExactMayWays", named := ["math/bits.deBruijn32tab", "math/bits.deBruijn64tab"], apart := false, laid := [("math/bits.deBruijn32tab", laid_math_bits_deBruijn32tab), ("math/bits.deBruijn64tab", laid_math_bits_deBruijn64tab)], narrowed := true }
def FnExactMayWaysUptoSaid : Prop := fnExactMayWaysUptoRow.holds Tryd.pinned (OpenSpec.upto fnExactMayWaysSpec)

end Rows
end Go.Proofs.YtcfendmhhhggeaaDoor
