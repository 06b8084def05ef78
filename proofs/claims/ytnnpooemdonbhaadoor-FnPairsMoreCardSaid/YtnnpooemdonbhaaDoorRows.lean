/-
  NARROWER THAN 'FOR EVERY INPUT', by the rows' own cells (each row's printed sentence says how): FnJoinsPairs: laid · FnPairsOf: laid · FnPairsCost: laid · FnPartMany: laid · FnPairsMore: laid · FnExactJoinsPairs: laid · FnExactPairsOf: laid · FnExactPairsCost: laid · FnExactPartMany: laid.
  DERIVED. THE GIVEN ROWS OF THIS SEAT. 9 by the template 'for every input the law returns true; each argument reads behind the call as it read before'; 0 by the template 'total and deterministic' (their statements: YtnnpooemdonbhaaDoorTotals.lean).
  GIVEN WITH THE SEED: the statements are not yours to turn. If you find one false, say at which input.
  Laid BY PROGRAM, IN A SANDBOX (cutbox-rows.mjs): the forced cells as the released guide's own fill.sh prints them over the translation 3f82adecfb4c0d1d… (all of the seat's roots in one cut). By AI agents, Wed Nov 11 2026. No macro, syntax, notation, axiom, sorry.
-/
import Derived.Test.YtnnpooemdonbhaaDoorChecked
import GoSem.Claim
import GoSem.ClaimJoined
import GoSem.ClaimMapViews
import Derived.JoinedTies
import Derived.KernelRfl
namespace Go.Proofs.YtnnpooemdonbhaaDoor
/- THE CELL 'sum', in the pinned program and in every row, IS THE sha256 OF THE DUMP (.gsa) THAT YtnnpooemdonbhaaDoorProg.lean LOADS. Nothing in Lean hashes anything: it is a label: what it is worth is what the hold of that sum in a sandbox is worth. -/
noncomputable def Tryd.pinned : Pinned := { name := "ytnnpooemdonbhaadoor", sum := "3f82adecfb4c0d1da2105f35ba71d57273e661c2388a3b5954a46600a74d1fcb", checked := Tryd.checked }
namespace Rows
def none {H : Type} : Left H := { results := [], args := [] }

/- WHAT THE LISTED PACKAGE-LEVEL VARIABLES READ AS WHEN THE CALL BEGINS. Each datum BY PROGRAM (the guide's laid-datum.mjs) off the statement by which the dump's own 'gosem.cut.vars' lays the variable. In a bare row this is a premise. The card (YtnnpooemdonbhaaDoorCards.lean) ties it to the program's text. -/
def laid_math_bits_deBruijn32tab {H : Type} : DataW H := .agg [.lit (.int .u8 0), .lit (.int .u8 1), .lit (.int .u8 28), .lit (.int .u8 2), .lit (.int .u8 29), .lit (.int .u8 14), .lit (.int .u8 24), .lit (.int .u8 3), .lit (.int .u8 30), .lit (.int .u8 22), .lit (.int .u8 20), .lit (.int .u8 15), .lit (.int .u8 25), .lit (.int .u8 17), .lit (.int .u8 4), .lit (.int .u8 8), .lit (.int .u8 31), .lit (.int .u8 27), .lit (.int .u8 13), .lit (.int .u8 23), .lit (.int .u8 21), .lit (.int .u8 19), .lit (.int .u8 16), .lit (.int .u8 7), .lit (.int .u8 26), .lit (.int .u8 12), .lit (.int .u8 18), .lit (.int .u8 6), .lit (.int .u8 11), .lit (.int .u8 5), .lit (.int .u8 10), .lit (.int .u8 9)]
def laid_math_bits_deBruijn64tab {H : Type} : DataW H := .agg [.lit (.int .u8 0), .lit (.int .u8 1), .lit (.int .u8 56), .lit (.int .u8 2), .lit (.int .u8 57), .lit (.int .u8 49), .lit (.int .u8 28), .lit (.int .u8 3), .lit (.int .u8 61), .lit (.int .u8 58), .lit (.int .u8 42), .lit (.int .u8 50), .lit (.int .u8 38), .lit (.int .u8 29), .lit (.int .u8 17), .lit (.int .u8 4), .lit (.int .u8 62), .lit (.int .u8 47), .lit (.int .u8 59), .lit (.int .u8 36), .lit (.int .u8 45), .lit (.int .u8 43), .lit (.int .u8 51), .lit (.int .u8 22), .lit (.int .u8 53), .lit (.int .u8 39), .lit (.int .u8 33), .lit (.int .u8 30), .lit (.int .u8 24), .lit (.int .u8 18), .lit (.int .u8 12), .lit (.int .u8 5), .lit (.int .u8 63), .lit (.int .u8 55), .lit (.int .u8 48), .lit (.int .u8 27), .lit (.int .u8 60), .lit (.int .u8 41), .lit (.int .u8 37), .lit (.int .u8 16), .lit (.int .u8 46), .lit (.int .u8 35), .lit (.int .u8 44), .lit (.int .u8 21), .lit (.int .u8 52), .lit (.int .u8 32), .lit (.int .u8 23), .lit (.int .u8 11), .lit (.int .u8 54), .lit (.int .u8 26), .lit (.int .u8 40), .lit (.int .u8 15), .lit (.int .u8 34), .lit (.int .u8 20), .lit (.int .u8 31), .lit (.int .u8 10), .lit (.int .u8 25), .lit (.int .u8 14), .lit (.int .u8 19), .lit (.int .u8 9), .lit (.int .u8 13), .lit (.int .u8 8), .lit (.int .u8 7), .lit (.int .u8 6)]

/-- 'laws.FnJoinsPairs': WHATEVER THE INPUT: true; the input reads as it did. -/
def fnJoinsPairsSpec : ChangeSpec := { name := "fnJoinsPairs", fn := fun _ => fun
  | [d] => { results := [.lit (.bool true)], args := [d] }
  | _ => none }
def fnJoinsPairsRow : OpenClaim := { program := "ytnnpooemdonbhaadoor", sum := "3f82adecfb4c0d1da2105f35ba71d57273e661c2388a3b5954a46600a74d1fcb", func := "loop.example/fieldroots/laws.FnJoinsPairs", spec := "fnJoinsPairs", named := ["math/bits.deBruijn32tab", "math/bits.deBruijn64tab"], apart := false, laid := [("math/bits.deBruijn32tab", laid_math_bits_deBruijn32tab), ("math/bits.deBruijn64tab", laid_math_bits_deBruijn64tab)] }
def FnJoinsPairsSaid : Prop := fnJoinsPairsRow.holds Tryd.pinned (OpenSpec.ofChange fnJoinsPairsSpec)

/-- ITS FALSE NEIGHBOUR: 'it returns false'. Refute it at one input. -/
def fnJoinsPairsWrong : ChangeSpec := { name := "fnJoinsPairs", fn := fun _ => fun
  | [d] => { results := [.lit (.bool false)], args := [d] }
  | _ => none }
def FnJoinsPairsWrongFalsely : Prop := fnJoinsPairsRow.holds Tryd.pinned (OpenSpec.ofChange fnJoinsPairsWrong)

/-- 'laws.FnPairsOf': WHATEVER THE INPUT: true; the input reads as it did. -/
def fnPairsOfSpec : ChangeSpec := { name := "fnPairsOf", fn := fun _ => fun
  | [d] => { results := [.lit (.bool true)], args := [d] }
  | _ => none }
def fnPairsOfRow : OpenClaim := { program := "ytnnpooemdonbhaadoor", sum := "3f82adecfb4c0d1da2105f35ba71d57273e661c2388a3b5954a46600a74d1fcb", func := "loop.example/fieldroots/laws.FnPairsOf", spec := "fnPairsOf", named := ["math/bits.deBruijn32tab", "math/bits.deBruijn64tab"], apart := false, laid := [("math/bits.deBruijn32tab", laid_math_bits_deBruijn32tab), ("math/bits.deBruijn64tab", laid_math_bits_deBruijn64tab)] }
def FnPairsOfSaid : Prop := fnPairsOfRow.holds Tryd.pinned (OpenSpec.ofChange fnPairsOfSpec)

/-- ITS FALSE NEIGHBOUR: 'it returns false'. Refute it at one input. -/
def fnPairsOfWrong : ChangeSpec := { name := "fnPairsOf", fn := fun _ => fun
  | [d] => { results := [.lit (.bool false)], args := [d] }
  | _ => none }
def FnPairsOfWrongFalsely : Prop := fnPairsOfRow.holds Tryd.pinned (OpenSpec.ofChange fnPairsOfWrong)

/-- 'laws.FnPairsCost': WHATEVER THE INPUT: true; the input reads as it did. -/
def fnPairsCostSpec : ChangeSpec := { name := "fnPairsCost", fn := fun _ => fun
  | [d] => { results := [.lit (.bool true)], args := [d] }
  | _ => none }
def fnPairsCostRow : OpenClaim := { program := "ytnnpooemdonbhaadoor", sum := "3f82adecfb4c0d1da2105f35ba71d57273e661c2388a3b5954a46600a74d1fcb", func := "loop.example/fieldroots/laws.FnPairsCost", spec := "fnPairsCost", named := ["math/bits.deBruijn32tab", "math/bits.deBruijn64tab"], apart := false, laid := [("math/bits.deBruijn32tab", laid_math_bits_deBruijn32tab), ("math/bits.deBruijn64tab", laid_math_bits_deBruijn64tab)] }
def FnPairsCostSaid : Prop := fnPairsCostRow.holds Tryd.pinned (OpenSpec.ofChange fnPairsCostSpec)

/-- ITS FALSE NEIGHBOUR: 'it returns false'. Refute it at one input. -/
def fnPairsCostWrong : ChangeSpec := { name := "fnPairsCost", fn := fun _ => fun
  | [d] => { results := [.lit (.bool false)], args := [d] }
  | _ => none }
def FnPairsCostWrongFalsely : Prop := fnPairsCostRow.holds Tryd.pinned (OpenSpec.ofChange fnPairsCostWrong)

/-- 'laws.FnPartMany': WHATEVER THE INPUT: true; the input reads as it did. -/
def fnPartManySpec : ChangeSpec := { name := "fnPartMany", fn := fun _ => fun
  | [d] => { results := [.lit (.bool true)], args := [d] }
  | _ => none }
def fnPartManyRow : OpenClaim := { program := "ytnnpooemdonbhaadoor", sum := "3f82adecfb4c0d1da2105f35ba71d57273e661c2388a3b5954a46600a74d1fcb", func := "loop.example/fieldroots/laws.FnPartMany", spec := "fnPartMany", named := ["math/bits.deBruijn32tab", "math/bits.deBruijn64tab"], apart := false, laid := [("math/bits.deBruijn32tab", laid_math_bits_deBruijn32tab), ("math/bits.deBruijn64tab", laid_math_bits_deBruijn64tab)] }
def FnPartManySaid : Prop := fnPartManyRow.holds Tryd.pinned (OpenSpec.ofChange fnPartManySpec)

/-- ITS FALSE NEIGHBOUR: 'it returns false'. Refute it at one input. -/
def fnPartManyWrong : ChangeSpec := { name := "fnPartMany", fn := fun _ => fun
  | [d] => { results := [.lit (.bool false)], args := [d] }
  | _ => none }
def FnPartManyWrongFalsely : Prop := fnPartManyRow.holds Tryd.pinned (OpenSpec.ofChange fnPartManyWrong)

/-- 'laws.FnPairsMore': WHATEVER THE INPUT: true; the input reads as it did. -/
def fnPairsMoreSpec : ChangeSpec := { name := "fnPairsMore", fn := fun _ => fun
  | [d] => { results := [.lit (.bool true)], args := [d] }
  | _ => none }
def fnPairsMoreRow : OpenClaim := { program := "ytnnpooemdonbhaadoor", sum := "3f82adecfb4c0d1da2105f35ba71d57273e661c2388a3b5954a46600a74d1fcb", func := "loop.example/fieldroots/laws.FnPairsMore", spec := "fnPairsMore", named := ["math/bits.deBruijn32tab", "math/bits.deBruijn64tab"], apart := false, laid := [("math/bits.deBruijn32tab", laid_math_bits_deBruijn32tab), ("math/bits.deBruijn64tab", laid_math_bits_deBruijn64tab)] }
def FnPairsMoreSaid : Prop := fnPairsMoreRow.holds Tryd.pinned (OpenSpec.ofChange fnPairsMoreSpec)

/-- ITS FALSE NEIGHBOUR: 'it returns false'. Refute it at one input. -/
def fnPairsMoreWrong : ChangeSpec := { name := "fnPairsMore", fn := fun _ => fun
  | [d] => { results := [.lit (.bool false)], args := [d] }
  | _ => none }
def FnPairsMoreWrongFalsely : Prop := fnPairsMoreRow.holds Tryd.pinned (OpenSpec.ofChange fnPairsMoreWrong)

/-- 'laws.FnExactJoinsPairs': WHATEVER THE INPUT: true; the input reads as it did. -/
def fnExactJoinsPairsSpec : ChangeSpec := { name := "fnExactJoinsPairs", fn := fun _ => fun
  | [d1, d2, d3] => { results := [.lit (.bool true)], args := [d1, d2, d3] }
  | _ => none }
def fnExactJoinsPairsRow : OpenClaim := { program := "ytnnpooemdonbhaadoor", sum := "3f82adecfb4c0d1da2105f35ba71d57273e661c2388a3b5954a46600a74d1fcb", func := "loop.example/fieldroots/laws.FnExactJoinsPairs", spec := "fnExactJoinsPairs", named := ["math/bits.deBruijn32tab", "math/bits.deBruijn64tab"], apart := false, laid := [("math/bits.deBruijn32tab", laid_math_bits_deBruijn32tab), ("math/bits.deBruijn64tab", laid_math_bits_deBruijn64tab)] }
def FnExactJoinsPairsSaid : Prop := fnExactJoinsPairsRow.holds Tryd.pinned (OpenSpec.ofChange fnExactJoinsPairsSpec)

/-- ITS FALSE NEIGHBOUR: 'it returns false'. Refute it at one input. -/
def fnExactJoinsPairsWrong : ChangeSpec := { name := "fnExactJoinsPairs", fn := fun _ => fun
  | [d1, d2, d3] => { results := [.lit (.bool false)], args := [d1, d2, d3] }
  | _ => none }
def FnExactJoinsPairsWrongFalsely : Prop := fnExactJoinsPairsRow.holds Tryd.pinned (OpenSpec.ofChange fnExactJoinsPairsWrong)

/-- 'laws.FnExactPairsOf': WHATEVER THE INPUT: true; the input reads as it did. -/
def fnExactPairsOfSpec : ChangeSpec := { name := "fnExactPairsOf", fn := fun _ => fun
  | [d1, d2] => { results := [.lit (.bool true)], args := [d1, d2] }
  | _ => none }
def fnExactPairsOfRow : OpenClaim := { program := "ytnnpooemdonbhaadoor", sum := "3f82adecfb4c0d1da2105f35ba71d57273e661c2388a3b5954a46600a74d1fcb", func := "loop.example/fieldroots/laws.FnExactPairsOf", spec := "fnExactPairsOf", named := ["math/bits.deBruijn32tab", "math/bits.deBruijn64tab"], apart := false, laid := [("math/bits.deBruijn32tab", laid_math_bits_deBruijn32tab), ("math/bits.deBruijn64tab", laid_math_bits_deBruijn64tab)] }
def FnExactPairsOfSaid : Prop := fnExactPairsOfRow.holds Tryd.pinned (OpenSpec.ofChange fnExactPairsOfSpec)

/-- ITS FALSE NEIGHBOUR: 'it returns false'. Refute it at one input. -/
def fnExactPairsOfWrong : ChangeSpec := { name := "fnExactPairsOf", fn := fun _ => fun
  | [d1, d2] => { results := [.lit (.bool false)], args := [d1, d2] }
  | _ => none }
def FnExactPairsOfWrongFalsely : Prop := fnExactPairsOfRow.holds Tryd.pinned (OpenSpec.ofChange fnExactPairsOfWrong)

/-- 'laws.FnExactPairsCost': WHATEVER THE INPUT: true; the input reads as it did. -/
def fnExactPairsCostSpec : ChangeSpec := { name := "fnExactPairsCost", fn := fun _ => fun
  | [d1, d2] => { results := [.lit (.bool true)], args := [d1, d2] }
  | _ => none }
def fnExactPairsCostRow : OpenClaim := { program := "ytnnpooemdonbhaadoor", sum := "3f82adecfb4c0d1da2105f35ba71d57273e661c2388a3b5954a46600a74d1fcb", func := "loop.example/fieldroots/laws.FnExactPairsCost", spec := "fnExactPairsCost", named := ["math/bits.deBruijn32tab", "math/bits.deBruijn64tab"], apart := false, laid := [("math/bits.deBruijn32tab", laid_math_bits_deBruijn32tab), ("math/bits.deBruijn64tab", laid_math_bits_deBruijn64tab)] }
def FnExactPairsCostSaid : Prop := fnExactPairsCostRow.holds Tryd.pinned (OpenSpec.ofChange fnExactPairsCostSpec)

/-- ITS FALSE NEIGHBOUR: 'it returns false'. Refute it at one input. -/
def fnExactPairsCostWrong : ChangeSpec := { name := "fnExactPairsCost", fn := fun _ => fun
  | [d1, d2] => { results := [.lit (.bool false)], args := [d1, d2] }
  | _ => none }
def FnExactPairsCostWrongFalsely : Prop := fnExactPairsCostRow.holds Tryd.pinned (OpenSpec.ofChange fnExactPairsCostWrong)

/-- 'laws.FnExactPartMany': WHATEVER THE INPUT: true; the input reads as it did. -/
def fnExactPartManySpec : ChangeSpec := { name := "fnExactPartMany", fn := fun _ => fun
  | [d1, d2] => { results := [.lit (.bool true)], args := [d1, d2] }
  | _ => none }
def fnExactPartManyRow : OpenClaim := { program := "ytnnpooemdonbhaadoor", sum := "3f82adecfb4c0d1da2105f35ba71d57273e661c2388a3b5954a46600a74d1fcb", func := "loop.example/fieldroots/laws.FnExactPartMany", spec := "fnExactPartMany", named := ["math/bits.deBruijn32tab", "math/bits.deBruijn64tab"], apart := false, laid := [("math/bits.deBruijn32tab", laid_math_bits_deBruijn32tab), ("math/bits.deBruijn64tab", laid_math_bits_deBruijn64tab)] }
def FnExactPartManySaid : Prop := fnExactPartManyRow.holds Tryd.pinned (OpenSpec.ofChange fnExactPartManySpec)

/-- ITS FALSE NEIGHBOUR: 'it returns false'. Refute it at one input. -/
def fnExactPartManyWrong : ChangeSpec := { name := "fnExactPartMany", fn := fun _ => fun
  | [d1, d2] => { results := [.lit (.bool false)], args := [d1, d2] }
  | _ => none }
def FnExactPartManyWrongFalsely : Prop := fnExactPartManyRow.holds Tryd.pinned (OpenSpec.ofChange fnExactPartManyWrong)

/- THE SECOND FORM. 'bulk': how many values and letters a reading holds, each counted each time it is reached (what is shared counts as often as it is met; a slice's spare places count too). A statement '..UptoSaid' is the law's where the arguments, and the package variables that the reading takes, are together of bulk at most 1048576: NARROWER than '..Said'. Prove '..Said' where nothing that the law and all that it calls make is longer than what came in: it says more and counts as full. Else prove '..UptoSaid'. A law counts once. -/
mutual
def uptoBulk {H : Type} : DataW H → Nat
  | .lit (.string bytes) => bytes.length + 1
  | .lit _ => 1
  | .nil => 1
  | .ptr d => uptoBulk d + 1
  | .slice elems spare => uptoBulkAll elems + uptoBulkAll spare + 1
  | .agg parts => uptoBulkAll parts + 1
  | .iface _ d => uptoBulk d + 1
  | .map entries => uptoBulkEntries entries + 1
  | .held _ => 1
def uptoBulkAll {H : Type} : List (DataW H) → Nat
  | [] => 0
  | d :: r => uptoBulk d + uptoBulkAll r
def uptoBulkEntries {H : Type} : List (Lit × DataW H) → Nat
  | [] => 0
  | x :: r => uptoBulkEntry x + uptoBulkEntries r
def uptoBulkEntry {H : Type} : Lit × DataW H → Nat
  | (.string bytes, d) => bytes.length + uptoBulk d + 1
  | (_, d) => uptoBulk d + 1
 end
def uptoSmall : (H : Type) → List (DataW H) → Bool := fun _ ds => decide (uptoBulkAll ds ≤ 1048576)
def OpenSpec.upto (s : _root_.Go.ChangeSpec) : _root_.Go.OpenSpec := { _root_.Go.OpenSpec.ofChange s with cond := some uptoSmall }

/-- 'laws.FnJoinsPairs', WHERE WHAT IT READS IS OF BULK AT MOST 1048576: true; the input reads as it did. -/
def fnJoinsPairsUptoRow : OpenClaim := { program := "ytnnpooemdonbhaadoor", sum := "3f82adecfb4c0d1da2105f35ba71d57273e661c2388a3b5954a46600a74d1fcb", func := "loop.example/fieldroots/laws.FnJoinsPairs", spec := "fnJoinsPairs", named := ["math/bits.deBruijn32tab", "math/bits.deBruijn64tab"], apart := false, laid := [("math/bits.deBruijn32tab", laid_math_bits_deBruijn32tab), ("math/bits.deBruijn64tab", laid_math_bits_deBruijn64tab)], narrowed := true }
def FnJoinsPairsUptoSaid : Prop := fnJoinsPairsUptoRow.holds Tryd.pinned (OpenSpec.upto fnJoinsPairsSpec)

/-- 'laws.FnPairsOf', WHERE WHAT IT READS IS OF BULK AT MOST 1048576: true; the input reads as it did. -/
def fnPairsOfUptoRow : OpenClaim := { program := "ytnnpooemdonbhaadoor", sum := "3f82adecfb4c0d1da2105f35ba71d57273e661c2388a3b5954a46600a74d1fcb", func := "loop.example/fieldroots/laws.FnPairsOf", spec := "fnPairsOf", named := ["math/bits.deBruijn32tab", "math/bits.deBruijn64tab"], apart := false, laid := [("math/bits.deBruijn32tab", laid_math_bits_deBruijn32tab), ("math/bits.deBruijn64tab", laid_math_bits_deBruijn64tab)], narrowed := true }
def FnPairsOfUptoSaid : Prop := fnPairsOfUptoRow.holds Tryd.pinned (OpenSpec.upto fnPairsOfSpec)

/-- 'laws.FnPairsCost', WHERE WHAT IT READS IS OF BULK AT MOST 1048576: true; the input reads as it did. -/
def fnPairsCostUptoRow : OpenClaim := { program := "ytnnpooemdonbhaadoor", sum := "3f82adecfb4c0d1da2105f35ba71d57273e661c2388a3b5954a46600a74d1fcb", func := "loop.example/fieldroots/laws.FnPairsCost", spec := "fnPairsCost", named := ["math/bits.deBruijn32tab", "math/bits.deBruijn64tab"], apart := false, laid := [("math/bits.deBruijn32tab", laid_math_bits_deBruijn32tab), ("math/bits.deBruijn64tab", laid_math_bits_deBruijn64tab)], narrowed := true }
def FnPairsCostUptoSaid : Prop := fnPairsCostUptoRow.holds Tryd.pinned (OpenSpec.upto fnPairsCostSpec)

/-- 'laws.FnPartMany', WHERE WHAT IT READS IS OF BULK AT MOST 1048576: true; the input reads as it did. -/
def fnPartManyUptoRow : OpenClaim := { program := "ytnnpooemdonbhaadoor", sum := "3f82adecfb4c0d1da2105f35ba71d57273e661c2388a3b5954a46600a74d1fcb", func := "loop.example/fieldroots/laws.FnPartMany", spec := "fnPartMany", named := ["math/bits.deBruijn32tab", "math/bits.deBruijn64tab"], apart := false, laid := [("math/bits.deBruijn32tab", laid_math_bits_deBruijn32tab), ("math/bits.deBruijn64tab", laid_math_bits_deBruijn64tab)], narrowed := true }
def FnPartManyUptoSaid : Prop := fnPartManyUptoRow.holds Tryd.pinned (OpenSpec.upto fnPartManySpec)

/-- 'laws.FnPairsMore', WHERE WHAT IT READS IS OF BULK AT MOST 1048576: true; the input reads as it did. -/
def fnPairsMoreUptoRow : OpenClaim := { program := "ytnnpooemdonbhaadoor", sum := "3f82adecfb4c0d1da2105f35ba71d57273e661c2388a3b5954a46600a74d1fcb", func := "loop.example/fieldroots/laws.FnPairsMore", spec := "fnPairsMore", named := ["math/bits.deBruijn32tab", "math/bits.deBruijn64tab"], apart := false, laid := [("math/bits.deBruijn32tab", laid_math_bits_deBruijn32tab), ("math/bits.deBruijn64tab", laid_math_bits_deBruijn64tab)], narrowed := true }
def FnPairsMoreUptoSaid : Prop := fnPairsMoreUptoRow.holds Tryd.pinned (OpenSpec.upto fnPairsMoreSpec)

/-- 'laws.FnExactJoinsPairs', WHERE WHAT IT READS IS OF BULK AT MOST 1048576: true; the input reads as it did. -/
def fnExactJoinsPairsUptoRow : OpenClaim := { program := "ytnnpooemdonbhaadoor", sum := "3f82adecfb4c0d1da2105f35ba71d57273e661c2388a3b5954a46600a74d1fcb", func := "loop.example/fieldroots/laws.FnExactJoinsPairs", spec := "fnExactJoinsPairs", named := ["math/bits.deBruijn32tab", "math/bits.deBruijn64tab"], apart := false, laid := [("math/bits.deBruijn32tab", laid_math_bits_deBruijn32tab), ("math/bits.deBruijn64tab", laid_math_bits_deBruijn64tab)], narrowed := true }
def FnExactJoinsPairsUptoSaid : Prop := fnExactJoinsPairsUptoRow.holds Tryd.pinned (OpenSpec.upto fnExactJoinsPairsSpec)

/-- 'laws.FnExactPairsOf', WHERE WHAT IT READS IS OF BULK AT MOST 1048576: true; the input reads as it did. -/
def fnExactPairsOfUptoRow : OpenClaim := { program := "ytnnpooemdonbhaadoor", sum := "3f82adecfb4c0d1da2105f35ba71d57273e661c2388a3b5954a46600a74d1fcb", func := "loop.example/fieldroots/laws.FnExactPairsOf", spec := "fnExactPairsOf", named := ["math/bits.deBruijn32tab", "math/bits.deBruijn64tab"], apart := false, laid := [("math/bits.deBruijn32tab", laid_math_bits_deBruijn32tab), ("math/bits.deBruijn64tab", laid_math_bits_deBruijn64tab)], narrowed := true }
def FnExactPairsOfUptoSaid : Prop := fnExactPairsOfUptoRow.holds Tryd.pinned (OpenSpec.upto fnExactPairsOfSpec)

/-- 'laws.FnExactPairsCost', WHERE WHAT IT READS IS OF BULK AT MOST 1048576: true; the input reads as it did. -/
def fnExactPairsCostUptoRow : OpenClaim := { program := "ytnnpooemdonbhaadoor", sum := "3f82adecfb4c0d1da2105f35ba71d57273e661c2388a3b5954a46600a74d1fcb", func := "loop.example/fieldroots/laws.FnExactPairsCost", spec := "fnExactPairsCost", named := ["math/bits.deBruijn32tab", "math/bits.deBruijn64tab"], apart := false, laid := [("math/bits.deBruijn32tab", laid_math_bits_deBruijn32tab), ("math/bits.deBruijn64tab", laid_math_bits_deBruijn64tab)], narrowed := true }
def FnExactPairsCostUptoSaid : Prop := fnExactPairsCostUptoRow.holds Tryd.pinned (OpenSpec.upto fnExactPairsCostSpec)

/-- 'laws.FnExactPartMany', WHERE WHAT IT READS IS OF BULK AT MOST 1048576: true; the input reads as it did. -/
def fnExactPartManyUptoRow : OpenClaim := { program := "ytnnpooemdonbhaadoor", sum := "3f82adecfb4c0d1da2105f35ba71d57273e661c2388a3b5954a46600a74d1fcb", func := "loop.example/fieldroots/laws.FnExactPartMany", spec := "fnExactPartMany", named := ["math/bits.deBruijn32tab", "math/bits.deBruijn64tab"], apart := false, laid := [("math/bits.deBruijn32tab", laid_math_bits_deBruijn32tab), ("math/bits.deBruijn64tab", laid_math_bits_deBruijn64tab)], narrowed := true }
def FnExactPartManyUptoSaid : Prop := fnExactPartManyUptoRow.holds Tryd.pinned (OpenSpec.upto fnExactPartManySpec)

end Rows
end Go.Proofs.YtnnpooemdonbhaaDoor
