/-
  No cell of these rows narrows 'for every input' (looked for: loops, veiled, ifaces, maps, wideKeys, modest, calm, conditions, laid).
  DERIVED. THE GIVEN ROWS OF THIS SEAT. 9 by the template 'for every input the law returns true; each argument reads behind the call as it read before'; 0 by the template 'total and deterministic' (their statements: YtiioojjjpabaeaaTotals.lean).
  GIVEN WITH THE SEED: the statements are not yours to turn. If you find one false, say at which input.
  Laid BY PROGRAM, IN A SANDBOX (cutbox-rows.mjs): the forced cells as the released guide's own fill.sh prints them over the translation 74cc17636200bbea… (all of the seat's roots in one cut). By AI agents, Wed Nov 11 2026. No macro, syntax, notation, axiom, sorry.
-/
import Derived.Test.YtiioojjjpabaeaaChecked
import GoSem.Claim
import GoSem.ClaimJoined
import GoSem.ClaimMapViews
import Derived.JoinedTies
import Derived.KernelRfl
namespace Go.Proofs.Ytiioojjjpabaeaa
/- THE CELL 'sum', in the pinned program and in every row, IS THE sha256 OF THE DUMP (.gsa) THAT YtiioojjjpabaeaaProg.lean LOADS. Nothing in Lean hashes anything: it is a label: what it is worth is what the hold of that sum in a sandbox is worth. -/
noncomputable def Try.pinned : Pinned := { name := "ytiioojjjpabaeaa", sum := "74cc17636200bbea2d1b7781cae975e59b048954fa7133ea97eca9005b1109d5", checked := Try.checked }
namespace Rows
def none {H : Type} : Left H := { results := [], args := [] }

/-- 'laws.FnCutWays': WHATEVER THE INPUT: true; the input reads as it did. -/
def fnCutWaysSpec : ChangeSpec := { name := "fnCutWays", fn := fun _ => fun
  | [d] => { results := [.lit (.bool true)], args := [d] }
  | _ => none }
def fnCutWaysRow : OpenClaim := { program := "ytiioojjjpabaeaa", sum := "74cc17636200bbea2d1b7781cae975e59b048954fa7133ea97eca9005b1109d5", func := "loop.example/fieldroots/laws.FnCutWays", spec := "fnCutWays", apart := false }
def FnCutWaysSaid : Prop := fnCutWaysRow.holds Try.pinned (OpenSpec.ofChange fnCutWaysSpec)

/-- ITS FALSE NEIGHBOUR: 'it returns false'. Refute it at one input. -/
def fnCutWaysWrong : ChangeSpec := { name := "fnCutWays", fn := fun _ => fun
  | [d] => { results := [.lit (.bool false)], args := [d] }
  | _ => none }
def FnCutWaysWrongFalsely : Prop := fnCutWaysRow.holds Try.pinned (OpenSpec.ofChange fnCutWaysWrong)

/-- 'laws.FnPacksOk': WHATEVER THE INPUT: true; the input reads as it did. -/
def fnPacksOkSpec : ChangeSpec := { name := "fnPacksOk", fn := fun _ => fun
  | [d] => { results := [.lit (.bool true)], args := [d] }
  | _ => none }
def fnPacksOkRow : OpenClaim := { program := "ytiioojjjpabaeaa", sum := "74cc17636200bbea2d1b7781cae975e59b048954fa7133ea97eca9005b1109d5", func := "loop.example/fieldroots/laws.FnPacksOk", spec := "fnPacksOk", apart := false }
def FnPacksOkSaid : Prop := fnPacksOkRow.holds Try.pinned (OpenSpec.ofChange fnPacksOkSpec)

/-- ITS FALSE NEIGHBOUR: 'it returns false'. Refute it at one input. -/
def fnPacksOkWrong : ChangeSpec := { name := "fnPacksOk", fn := fun _ => fun
  | [d] => { results := [.lit (.bool false)], args := [d] }
  | _ => none }
def FnPacksOkWrongFalsely : Prop := fnPacksOkRow.holds Try.pinned (OpenSpec.ofChange fnPacksOkWrong)

/-- 'laws.FnPathCuts': WHATEVER THE INPUT: true; the input reads as it did. -/
def fnPathCutsSpec : ChangeSpec := { name := "fnPathCuts", fn := fun _ => fun
  | [d] => { results := [.lit (.bool true)], args := [d] }
  | _ => none }
def fnPathCutsRow : OpenClaim := { program := "ytiioojjjpabaeaa", sum := "74cc17636200bbea2d1b7781cae975e59b048954fa7133ea97eca9005b1109d5", func := "loop.example/fieldroots/laws.FnPathCuts", spec := "fnPathCuts", apart := false }
def FnPathCutsSaid : Prop := fnPathCutsRow.holds Try.pinned (OpenSpec.ofChange fnPathCutsSpec)

/-- ITS FALSE NEIGHBOUR: 'it returns false'. Refute it at one input. -/
def fnPathCutsWrong : ChangeSpec := { name := "fnPathCuts", fn := fun _ => fun
  | [d] => { results := [.lit (.bool false)], args := [d] }
  | _ => none }
def FnPathCutsWrongFalsely : Prop := fnPathCutsRow.holds Try.pinned (OpenSpec.ofChange fnPathCutsWrong)

/-- 'laws.FnCutsBack': WHATEVER THE INPUT: true; the input reads as it did. -/
def fnCutsBackSpec : ChangeSpec := { name := "fnCutsBack", fn := fun _ => fun
  | [d] => { results := [.lit (.bool true)], args := [d] }
  | _ => none }
def fnCutsBackRow : OpenClaim := { program := "ytiioojjjpabaeaa", sum := "74cc17636200bbea2d1b7781cae975e59b048954fa7133ea97eca9005b1109d5", func := "loop.example/fieldroots/laws.FnCutsBack", spec := "fnCutsBack", apart := false }
def FnCutsBackSaid : Prop := fnCutsBackRow.holds Try.pinned (OpenSpec.ofChange fnCutsBackSpec)

/-- ITS FALSE NEIGHBOUR: 'it returns false'. Refute it at one input. -/
def fnCutsBackWrong : ChangeSpec := { name := "fnCutsBack", fn := fun _ => fun
  | [d] => { results := [.lit (.bool false)], args := [d] }
  | _ => none }
def FnCutsBackWrongFalsely : Prop := fnCutsBackRow.holds Try.pinned (OpenSpec.ofChange fnCutsBackWrong)

/-- 'laws.FnExactCutWays': WHATEVER THE INPUT: true; the input reads as it did. -/
def fnExactCutWaysSpec : ChangeSpec := { name := "fnExactCutWays", fn := fun _ => fun
  | [d1, d2] => { results := [.lit (.bool true)], args := [d1, d2] }
  | _ => none }
def fnExactCutWaysRow : OpenClaim := { program := "ytiioojjjpabaeaa", sum := "74cc17636200bbea2d1b7781cae975e59b048954fa7133ea97eca9005b1109d5", func := "loop.example/fieldroots/laws.FnExactCutWays", spec := "fnExactCutWays", apart := false }
def FnExactCutWaysSaid : Prop := fnExactCutWaysRow.holds Try.pinned (OpenSpec.ofChange fnExactCutWaysSpec)

/-- ITS FALSE NEIGHBOUR: 'it returns false'. Refute it at one input. -/
def fnExactCutWaysWrong : ChangeSpec := { name := "fnExactCutWays", fn := fun _ => fun
  | [d1, d2] => { results := [.lit (.bool false)], args := [d1, d2] }
  | _ => none }
def FnExactCutWaysWrongFalsely : Prop := fnExactCutWaysRow.holds Try.pinned (OpenSpec.ofChange fnExactCutWaysWrong)

/-- 'laws.FnExactPartsEnds': WHATEVER THE INPUT: true; the input reads as it did. -/
def fnExactPartsEndsSpec : ChangeSpec := { name := "fnExactPartsEnds", fn := fun _ => fun
  | [d1, d2, d3] => { results := [.lit (.bool true)], args := [d1, d2, d3] }
  | _ => none }
def fnExactPartsEndsRow : OpenClaim := { program := "ytiioojjjpabaeaa", sum := "74cc17636200bbea2d1b7781cae975e59b048954fa7133ea97eca9005b1109d5", func := "loop.example/fieldroots/laws.FnExactPartsEnds", spec := "fnExactPartsEnds", apart := false }
def FnExactPartsEndsSaid : Prop := fnExactPartsEndsRow.holds Try.pinned (OpenSpec.ofChange fnExactPartsEndsSpec)

/-- ITS FALSE NEIGHBOUR: 'it returns false'. Refute it at one input. -/
def fnExactPartsEndsWrong : ChangeSpec := { name := "fnExactPartsEnds", fn := fun _ => fun
  | [d1, d2, d3] => { results := [.lit (.bool false)], args := [d1, d2, d3] }
  | _ => none }
def FnExactPartsEndsWrongFalsely : Prop := fnExactPartsEndsRow.holds Try.pinned (OpenSpec.ofChange fnExactPartsEndsWrong)

/-- 'laws.FnExactPacksOk': WHATEVER THE INPUT: true; the input reads as it did. -/
def fnExactPacksOkSpec : ChangeSpec := { name := "fnExactPacksOk", fn := fun _ => fun
  | [d1, d2, d3] => { results := [.lit (.bool true)], args := [d1, d2, d3] }
  | _ => none }
def fnExactPacksOkRow : OpenClaim := { program := "ytiioojjjpabaeaa", sum := "74cc17636200bbea2d1b7781cae975e59b048954fa7133ea97eca9005b1109d5", func := "loop.example/fieldroots/laws.FnExactPacksOk", spec := "fnExactPacksOk", apart := false }
def FnExactPacksOkSaid : Prop := fnExactPacksOkRow.holds Try.pinned (OpenSpec.ofChange fnExactPacksOkSpec)

/-- ITS FALSE NEIGHBOUR: 'it returns false'. Refute it at one input. -/
def fnExactPacksOkWrong : ChangeSpec := { name := "fnExactPacksOk", fn := fun _ => fun
  | [d1, d2, d3] => { results := [.lit (.bool false)], args := [d1, d2, d3] }
  | _ => none }
def FnExactPacksOkWrongFalsely : Prop := fnExactPacksOkRow.holds Try.pinned (OpenSpec.ofChange fnExactPacksOkWrong)

/-- 'laws.FnExactPackSum': WHATEVER THE INPUT: true; the input reads as it did. -/
def fnExactPackSumSpec : ChangeSpec := { name := "fnExactPackSum", fn := fun _ => fun
  | [d1, d2, d3] => { results := [.lit (.bool true)], args := [d1, d2, d3] }
  | _ => none }
def fnExactPackSumRow : OpenClaim := { program := "ytiioojjjpabaeaa", sum := "74cc17636200bbea2d1b7781cae975e59b048954fa7133ea97eca9005b1109d5", func := "loop.example/fieldroots/laws.FnExactPackSum", spec := "fnExactPackSum", apart := false }
def FnExactPackSumSaid : Prop := fnExactPackSumRow.holds Try.pinned (OpenSpec.ofChange fnExactPackSumSpec)

/-- ITS FALSE NEIGHBOUR: 'it returns false'. Refute it at one input. -/
def fnExactPackSumWrong : ChangeSpec := { name := "fnExactPackSum", fn := fun _ => fun
  | [d1, d2, d3] => { results := [.lit (.bool false)], args := [d1, d2, d3] }
  | _ => none }
def FnExactPackSumWrongFalsely : Prop := fnExactPackSumRow.holds Try.pinned (OpenSpec.ofChange fnExactPackSumWrong)

/-- 'laws.FnExactPathCuts': WHATEVER THE INPUT: true; the input reads as it did. -/
def fnExactPathCutsSpec : ChangeSpec := { name := "fnExactPathCuts", fn := fun _ => fun
  | [d1, d2, d3] => { results := [.lit (.bool true)], args := [d1, d2, d3] }
  | _ => none }
def fnExactPathCutsRow : OpenClaim := { program := "ytiioojjjpabaeaa", sum := "74cc17636200bbea2d1b7781cae975e59b048954fa7133ea97eca9005b1109d5", func := "loop.example/fieldroots/laws.FnExactPathCuts", spec := "fnExactPathCuts", apart := false }
def FnExactPathCutsSaid : Prop := fnExactPathCutsRow.holds Try.pinned (OpenSpec.ofChange fnExactPathCutsSpec)

/-- ITS FALSE NEIGHBOUR: 'it returns false'. Refute it at one input. -/
def fnExactPathCutsWrong : ChangeSpec := { name := "fnExactPathCuts", fn := fun _ => fun
  | [d1, d2, d3] => { results := [.lit (.bool false)], args := [d1, d2, d3] }
  | _ => none }
def FnExactPathCutsWrongFalsely : Prop := fnExactPathCutsRow.holds Try.pinned (OpenSpec.ofChange fnExactPathCutsWrong)

/- THE SECOND FORM. 'bulk': how many values and letters a reading holds, each counted each time it is reached (what is shared counts as often as it is met; a slice's spare places count too). A statement '..UptoSaid' is the law's where the arguments, and the package variables that the reading takes, are together of bulk at most 1048576: NARROWER than '..Said'. Prove '..Said' where nothing that the law and all that it calls make is longer than what came in: it says more and counts as full. Else prove '..UptoSaid'. A law counts once. -/
mutual
def uptoBulk {H : Type} : DataW H → Nat
  | .lit (.string bytes) => bytes.length + 1
  | .lit _ => 1
  | .nil => 1
  | .ptr d => uptoBulk d + 1
  | .slice elems spare => uptoBulkAll elems + uptoBulkAll spare + 1
  | .agg parts => uptoBulkAll parts + 1
  | .iface _ d => uptoBulk d + 1
  | .map entries => uptoBulkEntries entries + 1
  | .held _ => 1
def uptoBulkAll {H : Type} : List (DataW H) → Nat
  | [] => 0
  | d :: r => uptoBulk d + uptoBulkAll r
def uptoBulkEntries {H : Type} : List (Lit × DataW H) → Nat
  | [] => 0
  | x :: r => uptoBulkEntry x + uptoBulkEntries r
def uptoBulkEntry {H : Type} : Lit × DataW H → Nat
  | (.string bytes, d) => bytes.length + uptoBulk d + 1
  | (_, d) => uptoBulk d + 1
 end
def uptoSmall : (H : Type) → List (DataW H) → Bool := fun _ ds => decide (uptoBulkAll ds ≤ 1048576)
def OpenSpec.upto (s : _root_.Go.ChangeSpec) : _root_.Go.OpenSpec := { _root_.Go.OpenSpec.ofChange s with cond := some uptoSmall }

/-- 'laws.FnCutWays', WHERE WHAT IT READS IS OF BULK AT MOST 1048576: true; the input reads as it did. -/
def fnCutWaysUptoRow : OpenClaim := { program := "ytiioojjjpabaeaa", sum := "74cc17636200bbea2d1b7781cae975e59b048954fa7133ea97eca9005b1109d5", func := "loop.example/fieldroots/laws.FnCutWays", spec := "fnCutWays", apart := false, narrowed := true }
def FnCutWaysUptoSaid : Prop := fnCutWaysUptoRow.holds Try.pinned (OpenSpec.upto fnCutWaysSpec)

/-- 'laws.FnPacksOk', WHERE WHAT IT READS IS OF BULK AT MOST 1048576: true; the input reads as it did. -/
def fnPacksOkUptoRow : OpenClaim := { program := "ytiioojjjpabaeaa", sum := "74cc17636200bbea2d1b7781cae975e59b048954fa7133ea97eca9005b1109d5", func := "loop.example/fieldroots/laws.FnPacksOk", spec := "fnPacksOk", apart := false, narrowed := true }
def FnPacksOkUptoSaid : Prop := fnPacksOkUptoRow.holds Try.pinned (OpenSpec.upto fnPacksOkSpec)

/-- 'laws.FnPathCuts', WHERE WHAT IT READS IS OF BULK AT MOST 1048576: true; the input reads as it did. -/
def fnPathCutsUptoRow : OpenClaim := { program := "ytiioojjjpabaeaa", sum := "74cc17636200bbea2d1b7781cae975e59b048954fa7133ea97eca9005b1109d5", func := "loop.example/fieldroots/laws.FnPathCuts", spec := "fnPathCuts", apart := false, narrowed := true }
def FnPathCutsUptoSaid : Prop := fnPathCutsUptoRow.holds Try.pinned (OpenSpec.upto fnPathCutsSpec)

/-- 'laws.FnCutsBack', WHERE WHAT IT READS IS OF BULK AT MOST 1048576: true; the input reads as it did. -/
def fnCutsBackUptoRow : OpenClaim := { program := "ytiioojjjpabaeaa", sum := "74cc17636200bbea2d1b7781cae975e59b048954fa7133ea97eca9005b1109d5", func := "loop.example/fieldroots/laws.FnCutsBack", spec := "fnCutsBack", apart := false, narrowed := true }
def FnCutsBackUptoSaid : Prop := fnCutsBackUptoRow.holds Try.pinned (OpenSpec.upto fnCutsBackSpec)

/-- 'laws.FnExactCutWays', WHERE WHAT IT READS IS OF BULK AT MOST 1048576: true; the input reads as it did. -/
def fnExactCutWaysUptoRow : OpenClaim := { program := "ytiioojjjpabaeaa", sum := "74cc17636200bbea2d1b7781cae975e59b048954fa7133ea97eca9005b1109d5", func := "loop.example/fieldroots/laws.FnExactCutWays", spec := "fnExactCutWays", apart := false, narrowed := true }
def FnExactCutWaysUptoSaid : Prop := fnExactCutWaysUptoRow.holds Try.pinned (OpenSpec.upto fnExactCutWaysSpec)

/-- 'laws.FnExactPartsEnds', WHERE WHAT IT READS IS OF BULK AT MOST 1048576: true; the input reads as it did. -/
def fnExactPartsEndsUptoRow : OpenClaim := { program := "ytiioojjjpabaeaa", sum := "74cc17636200bbea2d1b7781cae975e59b048954fa7133ea97eca9005b1109d5", func := "loop.example/fieldroots/laws.FnExactPartsEnds", spec := "fnExactPartsEnds", apart := false, narrowed := true }
def FnExactPartsEndsUptoSaid : Prop := fnExactPartsEndsUptoRow.holds Try.pinned (OpenSpec.upto fnExactPartsEndsSpec)

/-- 'laws.FnExactPacksOk', WHERE WHAT IT READS IS OF BULK AT MOST 1048576: true; the input reads as it did. -/
def fnExactPacksOkUptoRow : OpenClaim := { program := "ytiioojjjpabaeaa", sum := "74cc17636200bbea2d1b7781cae975e59b048954fa7133ea97eca9005b1109d5", func := "loop.example/fieldroots/laws.FnExactPacksOk", spec := "fnExactPacksOk", apart := false, narrowed := true }
def FnExactPacksOkUptoSaid : Prop := fnExactPacksOkUptoRow.holds Try.pinned (OpenSpec.upto fnExactPacksOkSpec)

/-- 'laws.FnExactPackSum', WHERE WHAT IT READS IS OF BULK AT MOST 1048576: true; the input reads as it did. -/
def fnExactPackSumUptoRow : OpenClaim := { program := "ytiioojjjpabaeaa", sum := "74cc17636200bbea2d1b7781cae975e59b048954fa7133ea97eca9005b1109d5", func := "loop.example/fieldroots/laws.FnExactPackSum", spec := "fnExactPackSum", apart := false, narrowed := true }
def FnExactPackSumUptoSaid : Prop := fnExactPackSumUptoRow.holds Try.pinned (OpenSpec.upto fnExactPackSumSpec)

/-- 'laws.FnExactPathCuts', WHERE WHAT IT READS IS OF BULK AT MOST 1048576: true; the input reads as it did. -/
def fnExactPathCutsUptoRow : OpenClaim := { program := "ytiioojjjpabaeaa", sum := "74cc17636200bbea2d1b7781cae975e59b048954fa7133ea97eca9005b1109d5", func := "loop.example/fieldroots/laws.FnExactPathCuts", spec := "fnExactPathCuts", apart := false, narrowed := true }
def FnExactPathCutsUptoSaid : Prop := fnExactPathCutsUptoRow.holds Try.pinned (OpenSpec.upto fnExactPathCutsSpec)

end Rows
end Go.Proofs.Ytiioojjjpabaeaa
