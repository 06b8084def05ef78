/-
  No cell of these rows narrows 'for every input' (looked for: loops, veiled, ifaces, maps, wideKeys, modest, calm, conditions, laid).
  DERIVED. THE GIVEN ROWS OF THIS SEAT. 10 by the template 'for every input the law returns true; each argument reads behind the call as it read before'; 0 by the template 'total and deterministic' (their statements: YtoekaembfieigaaTotals.lean).
  GIVEN WITH THE SEED: the statements are not yours to turn. If you find one false, say at which input.
  Laid BY PROGRAM, IN A SANDBOX (cutbox-rows.mjs): the forced cells as the released guide's own fill.sh prints them over the translation 39dd1db6992cfb3e… (all of the seat's roots in one cut). By AI agents, Wed Nov 11 2026. No macro, syntax, notation, axiom, sorry.
-/
import Derived.Test.YtoekaembfieigaaChecked
import GoSem.Claim
import GoSem.ClaimJoined
import GoSem.ClaimMapViews
import Derived.JoinedTies
import Derived.KernelRfl
namespace Go.Proofs.Ytoekaembfieigaa
/- THE CELL 'sum', in the pinned program and in every row, IS THE sha256 OF THE DUMP (.gsa) THAT YtoekaembfieigaaProg.lean LOADS. Nothing in Lean hashes anything: it is a label: what it is worth is what the hold of that sum in a sandbox is worth. -/
noncomputable def Try.pinned : Pinned := { name := "ytoekaembfieigaa", sum := "39dd1db6992cfb3e4921a04d8d0d18231f2cfa9d49df9aa7c18dcc38063ba2f3", checked := Try.checked }
namespace Rows
def none {H : Type} : Left H := { results := [], args := [] }

/-- 'laws.FnPrizesOk': WHATEVER THE INPUT: true; the input reads as it did. -/
def fnPrizesOkSpec : ChangeSpec := { name := "fnPrizesOk", fn := fun _ => fun
  | [d] => { results := [.lit (.bool true)], args := [d] }
  | _ => none }
def fnPrizesOkRow : OpenClaim := { program := "ytoekaembfieigaa", sum := "39dd1db6992cfb3e4921a04d8d0d18231f2cfa9d49df9aa7c18dcc38063ba2f3", func := "loop.example/fieldroots/laws.FnPrizesOk", spec := "fnPrizesOk", apart := false }
def FnPrizesOkSaid : Prop := fnPrizesOkRow.holds Try.pinned (OpenSpec.ofChange fnPrizesOkSpec)

/-- ITS FALSE NEIGHBOUR: 'it returns false'. Refute it at one input. -/
def fnPrizesOkWrong : ChangeSpec := { name := "fnPrizesOk", fn := fun _ => fun
  | [d] => { results := [.lit (.bool false)], args := [d] }
  | _ => none }
def FnPrizesOkWrongFalsely : Prop := fnPrizesOkRow.holds Try.pinned (OpenSpec.ofChange fnPrizesOkWrong)

/-- 'laws.FnGainOf': WHATEVER THE INPUT: true; the input reads as it did. -/
def fnGainOfSpec : ChangeSpec := { name := "fnGainOf", fn := fun _ => fun
  | [d] => { results := [.lit (.bool true)], args := [d] }
  | _ => none }
def fnGainOfRow : OpenClaim := { program := "ytoekaembfieigaa", sum := "39dd1db6992cfb3e4921a04d8d0d18231f2cfa9d49df9aa7c18dcc38063ba2f3", func := "loop.example/fieldroots/laws.FnGainOf", spec := "fnGainOf", apart := false }
def FnGainOfSaid : Prop := fnGainOfRow.holds Try.pinned (OpenSpec.ofChange fnGainOfSpec)

/-- ITS FALSE NEIGHBOUR: 'it returns false'. Refute it at one input. -/
def fnGainOfWrong : ChangeSpec := { name := "fnGainOf", fn := fun _ => fun
  | [d] => { results := [.lit (.bool false)], args := [d] }
  | _ => none }
def FnGainOfWrongFalsely : Prop := fnGainOfRow.holds Try.pinned (OpenSpec.ofChange fnGainOfWrong)

/-- 'laws.FnBestGain': WHATEVER THE INPUT: true; the input reads as it did. -/
def fnBestGainSpec : ChangeSpec := { name := "fnBestGain", fn := fun _ => fun
  | [d] => { results := [.lit (.bool true)], args := [d] }
  | _ => none }
def fnBestGainRow : OpenClaim := { program := "ytoekaembfieigaa", sum := "39dd1db6992cfb3e4921a04d8d0d18231f2cfa9d49df9aa7c18dcc38063ba2f3", func := "loop.example/fieldroots/laws.FnBestGain", spec := "fnBestGain", apart := false }
def FnBestGainSaid : Prop := fnBestGainRow.holds Try.pinned (OpenSpec.ofChange fnBestGainSpec)

/-- ITS FALSE NEIGHBOUR: 'it returns false'. Refute it at one input. -/
def fnBestGainWrong : ChangeSpec := { name := "fnBestGain", fn := fun _ => fun
  | [d] => { results := [.lit (.bool false)], args := [d] }
  | _ => none }
def FnBestGainWrongFalsely : Prop := fnBestGainRow.holds Try.pinned (OpenSpec.ofChange fnBestGainWrong)

/-- 'laws.FnEndsGain': WHATEVER THE INPUT: true; the input reads as it did. -/
def fnEndsGainSpec : ChangeSpec := { name := "fnEndsGain", fn := fun _ => fun
  | [d] => { results := [.lit (.bool true)], args := [d] }
  | _ => none }
def fnEndsGainRow : OpenClaim := { program := "ytoekaembfieigaa", sum := "39dd1db6992cfb3e4921a04d8d0d18231f2cfa9d49df9aa7c18dcc38063ba2f3", func := "loop.example/fieldroots/laws.FnEndsGain", spec := "fnEndsGain", apart := false }
def FnEndsGainSaid : Prop := fnEndsGainRow.holds Try.pinned (OpenSpec.ofChange fnEndsGainSpec)

/-- ITS FALSE NEIGHBOUR: 'it returns false'. Refute it at one input. -/
def fnEndsGainWrong : ChangeSpec := { name := "fnEndsGain", fn := fun _ => fun
  | [d] => { results := [.lit (.bool false)], args := [d] }
  | _ => none }
def FnEndsGainWrongFalsely : Prop := fnEndsGainRow.holds Try.pinned (OpenSpec.ofChange fnEndsGainWrong)

/-- 'laws.FnPrizeMore': WHATEVER THE INPUT: true; the input reads as it did. -/
def fnPrizeMoreSpec : ChangeSpec := { name := "fnPrizeMore", fn := fun _ => fun
  | [d] => { results := [.lit (.bool true)], args := [d] }
  | _ => none }
def fnPrizeMoreRow : OpenClaim := { program := "ytoekaembfieigaa", sum := "39dd1db6992cfb3e4921a04d8d0d18231f2cfa9d49df9aa7c18dcc38063ba2f3", func := "loop.example/fieldroots/laws.FnPrizeMore", spec := "fnPrizeMore", apart := false }
def FnPrizeMoreSaid : Prop := fnPrizeMoreRow.holds Try.pinned (OpenSpec.ofChange fnPrizeMoreSpec)

/-- ITS FALSE NEIGHBOUR: 'it returns false'. Refute it at one input. -/
def fnPrizeMoreWrong : ChangeSpec := { name := "fnPrizeMore", fn := fun _ => fun
  | [d] => { results := [.lit (.bool false)], args := [d] }
  | _ => none }
def FnPrizeMoreWrongFalsely : Prop := fnPrizeMoreRow.holds Try.pinned (OpenSpec.ofChange fnPrizeMoreWrong)

/-- 'laws.FnExactPrizesOk': WHATEVER THE INPUT: true; the input reads as it did. -/
def fnExactPrizesOkSpec : ChangeSpec := { name := "fnExactPrizesOk", fn := fun _ => fun
  | [d1, d2] => { results := [.lit (.bool true)], args := [d1, d2] }
  | _ => none }
def fnExactPrizesOkRow : OpenClaim := { program := "ytoekaembfieigaa", sum := "39dd1db6992cfb3e4921a04d8d0d18231f2cfa9d49df9aa7c18dcc38063ba2f3", func := "loop.example/fieldroots/laws.FnExactPrizesOk", spec := "fnExactPrizesOk", apart := false }
def FnExactPrizesOkSaid : Prop := fnExactPrizesOkRow.holds Try.pinned (OpenSpec.ofChange fnExactPrizesOkSpec)

/-- ITS FALSE NEIGHBOUR: 'it returns false'. Refute it at one input. -/
def fnExactPrizesOkWrong : ChangeSpec := { name := "fnExactPrizesOk", fn := fun _ => fun
  | [d1, d2] => { results := [.lit (.bool false)], args := [d1, d2] }
  | _ => none }
def FnExactPrizesOkWrongFalsely : Prop := fnExactPrizesOkRow.holds Try.pinned (OpenSpec.ofChange fnExactPrizesOkWrong)

/-- 'laws.FnExactGainOf': WHATEVER THE INPUT: true; the input reads as it did. -/
def fnExactGainOfSpec : ChangeSpec := { name := "fnExactGainOf", fn := fun _ => fun
  | [d1, d2, d3] => { results := [.lit (.bool true)], args := [d1, d2, d3] }
  | _ => none }
def fnExactGainOfRow : OpenClaim := { program := "ytoekaembfieigaa", sum := "39dd1db6992cfb3e4921a04d8d0d18231f2cfa9d49df9aa7c18dcc38063ba2f3", func := "loop.example/fieldroots/laws.FnExactGainOf", spec := "fnExactGainOf", apart := false }
def FnExactGainOfSaid : Prop := fnExactGainOfRow.holds Try.pinned (OpenSpec.ofChange fnExactGainOfSpec)

/-- ITS FALSE NEIGHBOUR: 'it returns false'. Refute it at one input. -/
def fnExactGainOfWrong : ChangeSpec := { name := "fnExactGainOf", fn := fun _ => fun
  | [d1, d2, d3] => { results := [.lit (.bool false)], args := [d1, d2, d3] }
  | _ => none }
def FnExactGainOfWrongFalsely : Prop := fnExactGainOfRow.holds Try.pinned (OpenSpec.ofChange fnExactGainOfWrong)

/-- 'laws.FnExactBestGain': WHATEVER THE INPUT: true; the input reads as it did. -/
def fnExactBestGainSpec : ChangeSpec := { name := "fnExactBestGain", fn := fun _ => fun
  | [d1, d2] => { results := [.lit (.bool true)], args := [d1, d2] }
  | _ => none }
def fnExactBestGainRow : OpenClaim := { program := "ytoekaembfieigaa", sum := "39dd1db6992cfb3e4921a04d8d0d18231f2cfa9d49df9aa7c18dcc38063ba2f3", func := "loop.example/fieldroots/laws.FnExactBestGain", spec := "fnExactBestGain", apart := false }
def FnExactBestGainSaid : Prop := fnExactBestGainRow.holds Try.pinned (OpenSpec.ofChange fnExactBestGainSpec)

/-- ITS FALSE NEIGHBOUR: 'it returns false'. Refute it at one input. -/
def fnExactBestGainWrong : ChangeSpec := { name := "fnExactBestGain", fn := fun _ => fun
  | [d1, d2] => { results := [.lit (.bool false)], args := [d1, d2] }
  | _ => none }
def FnExactBestGainWrongFalsely : Prop := fnExactBestGainRow.holds Try.pinned (OpenSpec.ofChange fnExactBestGainWrong)

/-- 'laws.FnExactBestWays': WHATEVER THE INPUT: true; the input reads as it did. -/
def fnExactBestWaysSpec : ChangeSpec := { name := "fnExactBestWays", fn := fun _ => fun
  | [d1, d2] => { results := [.lit (.bool true)], args := [d1, d2] }
  | _ => none }
def fnExactBestWaysRow : OpenClaim := { program := "ytoekaembfieigaa", sum := "39dd1db6992cfb3e4921a04d8d0d18231f2cfa9d49df9aa7c18dcc38063ba2f3", func := "loop.example/fieldroots/laws.FnExactBestWays", spec := "fnExactBestWays", apart := false }
def FnExactBestWaysSaid : Prop := fnExactBestWaysRow.holds Try.pinned (OpenSpec.ofChange fnExactBestWaysSpec)

/-- ITS FALSE NEIGHBOUR: 'it returns false'. Refute it at one input. -/
def fnExactBestWaysWrong : ChangeSpec := { name := "fnExactBestWays", fn := fun _ => fun
  | [d1, d2] => { results := [.lit (.bool false)], args := [d1, d2] }
  | _ => none }
def FnExactBestWaysWrongFalsely : Prop := fnExactBestWaysRow.holds Try.pinned (OpenSpec.ofChange fnExactBestWaysWrong)

/-- 'laws.FnExactEndsGain': WHATEVER THE INPUT: true; the input reads as it did. -/
def fnExactEndsGainSpec : ChangeSpec := { name := "fnExactEndsGain", fn := fun _ => fun
  | [d1, d2, d3] => { results := [.lit (.bool true)], args := [d1, d2, d3] }
  | _ => none }
def fnExactEndsGainRow : OpenClaim := { program := "ytoekaembfieigaa", sum := "39dd1db6992cfb3e4921a04d8d0d18231f2cfa9d49df9aa7c18dcc38063ba2f3", func := "loop.example/fieldroots/laws.FnExactEndsGain", spec := "fnExactEndsGain", apart := false }
def FnExactEndsGainSaid : Prop := fnExactEndsGainRow.holds Try.pinned (OpenSpec.ofChange fnExactEndsGainSpec)

/-- ITS FALSE NEIGHBOUR: 'it returns false'. Refute it at one input. -/
def fnExactEndsGainWrong : ChangeSpec := { name := "fnExactEndsGain", fn := fun _ => fun
  | [d1, d2, d3] => { results := [.lit (.bool false)], args := [d1, d2, d3] }
  | _ => none }
def FnExactEndsGainWrongFalsely : Prop := fnExactEndsGainRow.holds Try.pinned (OpenSpec.ofChange fnExactEndsGainWrong)

/- THE SECOND FORM. 'bulk': how many values and letters a reading holds, each counted each time it is reached (what is shared counts as often as it is met; a slice's spare places count too). A statement '..UptoSaid' is the law's where the arguments, and the package variables that the reading takes, are together of bulk at most 1048576: NARROWER than '..Said'. Prove '..Said' where nothing that the law and all that it calls make is longer than what came in: it says more and counts as full. Else prove '..UptoSaid'. A law counts once. -/
mutual
def uptoBulk {H : Type} : DataW H → Nat
  | .lit (.string bytes) => bytes.length + 1
  | .lit _ => 1
  | .nil => 1
  | .ptr d => uptoBulk d + 1
  | .slice elems spare => uptoBulkAll elems + uptoBulkAll spare + 1
  | .agg parts => uptoBulkAll parts + 1
  | .iface _ d => uptoBulk d + 1
  | .map entries => uptoBulkEntries entries + 1
  | .held _ => 1
def uptoBulkAll {H : Type} : List (DataW H) → Nat
  | [] => 0
  | d :: r => uptoBulk d + uptoBulkAll r
def uptoBulkEntries {H : Type} : List (Lit × DataW H) → Nat
  | [] => 0
  | x :: r => uptoBulkEntry x + uptoBulkEntries r
def uptoBulkEntry {H : Type} : Lit × DataW H → Nat
  | (.string bytes, d) => bytes.length + uptoBulk d + 1
  | (_, d) => uptoBulk d + 1
 end
def uptoSmall : (H : Type) → List (DataW H) → Bool := fun _ ds => decide (uptoBulkAll ds ≤ 1048576)
def OpenSpec.upto (s : _root_.Go.ChangeSpec) : _root_.Go.OpenSpec := { _root_.Go.OpenSpec.ofChange s with cond := some uptoSmall }

/-- 'laws.FnPrizesOk', WHERE WHAT IT READS IS OF BULK AT MOST 1048576: true; the input reads as it did. -/
def fnPrizesOkUptoRow : OpenClaim := { program := "ytoekaembfieigaa", sum := "39dd1db6992cfb3e4921a04d8d0d18231f2cfa9d49df9aa7c18dcc38063ba2f3", func := "loop.example/fieldroots/laws.FnPrizesOk", spec := "fnPrizesOk", apart := false, narrowed := true }
def FnPrizesOkUptoSaid : Prop := fnPrizesOkUptoRow.holds Try.pinned (OpenSpec.upto fnPrizesOkSpec)

/-- 'laws.FnGainOf', WHERE WHAT IT READS IS OF BULK AT MOST 1048576: true; the input reads as it did. -/
def fnGainOfUptoRow : OpenClaim := { program := "ytoekaembfieigaa", sum := "39dd1db6992cfb3e4921a04d8d0d18231f2cfa9d49df9aa7c18dcc38063ba2f3", func := "loop.example/fieldroots/laws.FnGainOf", spec := "fnGainOf", apart := false, narrowed := true }
def FnGainOfUptoSaid : Prop := fnGainOfUptoRow.holds Try.pinned (OpenSpec.upto fnGainOfSpec)

/-- 'laws.FnBestGain', WHERE WHAT IT READS IS OF BULK AT MOST 1048576: true; the input reads as it did. -/
def fnBestGainUptoRow : OpenClaim := { program := "ytoekaembfieigaa", sum := "39dd1db6992cfb3e4921a04d8d0d18231f2cfa9d49df9aa7c18dcc38063ba2f3", func := "loop.example/fieldroots/laws.FnBestGain", spec := "fnBestGain", apart := false, narrowed := true }
def FnBestGainUptoSaid : Prop := fnBestGainUptoRow.holds Try.pinned (OpenSpec.upto fnBestGainSpec)

/-- 'laws.FnEndsGain', WHERE WHAT IT READS IS OF BULK AT MOST 1048576: true; the input reads as it did. -/
def fnEndsGainUptoRow : OpenClaim := { program := "ytoekaembfieigaa", sum := "39dd1db6992cfb3e4921a04d8d0d18231f2cfa9d49df9aa7c18dcc38063ba2f3", func := "loop.example/fieldroots/laws.FnEndsGain", spec := "fnEndsGain", apart := false, narrowed := true }
def FnEndsGainUptoSaid : Prop := fnEndsGainUptoRow.holds Try.pinned (OpenSpec.upto fnEndsGainSpec)

/-- 'laws.FnPrizeMore', WHERE WHAT IT READS IS OF BULK AT MOST 1048576: true; the input reads as it did. -/
def fnPrizeMoreUptoRow : OpenClaim := { program := "ytoekaembfieigaa", sum := "39dd1db6992cfb3e4921a04d8d0d18231f2cfa9d49df9aa7c18dcc38063ba2f3", func := "loop.example/fieldroots/laws.FnPrizeMore", spec := "fnPrizeMore", apart := false, narrowed := true }
def FnPrizeMoreUptoSaid : Prop := fnPrizeMoreUptoRow.holds Try.pinned (OpenSpec.upto fnPrizeMoreSpec)

/-- 'laws.FnExactPrizesOk', WHERE WHAT IT READS IS OF BULK AT MOST 1048576: true; the input reads as it did. -/
def fnExactPrizesOkUptoRow : OpenClaim := { program := "ytoekaembfieigaa", sum := "39dd1db6992cfb3e4921a04d8d0d18231f2cfa9d49df9aa7c18dcc38063ba2f3", func := "loop.example/fieldroots/laws.FnExactPrizesOk", spec := "fnExactPrizesOk", apart := false, narrowed := true }
def FnExactPrizesOkUptoSaid : Prop := fnExactPrizesOkUptoRow.holds Try.pinned (OpenSpec.upto fnExactPrizesOkSpec)

/-- 'laws.FnExactGainOf', WHERE WHAT IT READS IS OF BULK AT MOST 1048576: true; the input reads as it did. -/
def fnExactGainOfUptoRow : OpenClaim := { program := "ytoekaembfieigaa", sum := "39dd1db6992cfb3e4921a04d8d0d18231f2cfa9d49df9aa7c18dcc38063ba2f3", func := "loop.example/fieldroots/laws.FnExactGainOf", spec := "fnExactGainOf", apart := false, narrowed := true }
def FnExactGainOfUptoSaid : Prop := fnExactGainOfUptoRow.holds Try.pinned (OpenSpec.upto fnExactGainOfSpec)

/-- 'laws.FnExactBestGain', WHERE WHAT IT READS IS OF BULK AT MOST 1048576: true; the input reads as it did. -/
def fnExactBestGainUptoRow : OpenClaim := { program := "ytoekaembfieigaa", sum := "39dd1db6992cfb3e4921a04d8d0d18231f2cfa9d49df9aa7c18dcc38063ba2f3", func := "loop.example/fieldroots/laws.FnExactBestGain", spec := "fnExactBestGain", apart := false, narrowed := true }
def FnExactBestGainUptoSaid : Prop := fnExactBestGainUptoRow.holds Try.pinned (OpenSpec.upto fnExactBestGainSpec)

/-- 'laws.FnExactBestWays', WHERE WHAT IT READS IS OF BULK AT MOST 1048576: true; the input reads as it did. -/
def fnExactBestWaysUptoRow : OpenClaim := { program := "ytoekaembfieigaa", sum := "39dd1db6992cfb3e4921a04d8d0d18231f2cfa9d49df9aa7c18dcc38063ba2f3", func := "loop.example/fieldroots/laws.FnExactBestWays", spec := "fnExactBestWays", apart := false, narrowed := true }
def FnExactBestWaysUptoSaid : Prop := fnExactBestWaysUptoRow.holds Try.pinned (OpenSpec.upto fnExactBestWaysSpec)

/-- 'laws.FnExactEndsGain', WHERE WHAT IT READS IS OF BULK AT MOST 1048576: true; the input reads as it did. -/
def fnExactEndsGainUptoRow : OpenClaim := { program := "ytoekaembfieigaa", sum := "39dd1db6992cfb3e4921a04d8d0d18231f2cfa9d49df9aa7c18dcc38063ba2f3", func := "loop.example/fieldroots/laws.FnExactEndsGain", spec := "fnExactEndsGain", apart := false, narrowed := true }
def FnExactEndsGainUptoSaid : Prop := fnExactEndsGainUptoRow.holds Try.pinned (OpenSpec.upto fnExactEndsGainSpec)

end Rows
end Go.Proofs.Ytoekaembfieigaa
