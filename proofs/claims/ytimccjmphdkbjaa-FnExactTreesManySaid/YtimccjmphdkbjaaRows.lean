/-
  No cell of these rows narrows 'for every input' (looked for: loops, veiled, ifaces, maps, wideKeys, modest, calm, conditions, laid).
  DERIVED. THE GIVEN ROWS OF THIS SEAT. 5 by the template 'for every input the law returns true; each argument reads behind the call as it read before'; 0 by the template 'total and deterministic' (their statements: YtimccjmphdkbjaaTotals.lean).
  GIVEN WITH THE SEED: the statements are not yours to turn. If you find one false, say at which input.
  Laid BY PROGRAM, IN A SANDBOX (cutbox-rows.mjs): the forced cells as the released guide's own fill.sh prints them over the translation b47d0460cfc71594… (all of the seat's roots in one cut). By AI agents, Wed Nov 11 2026. No macro, syntax, notation, axiom, sorry.
-/
import Derived.Test.YtimccjmphdkbjaaChecked
import GoSem.Claim
import GoSem.ClaimJoined
import GoSem.ClaimMapViews
import Derived.JoinedTies
import Derived.KernelRfl
namespace Go.Proofs.Ytimccjmphdkbjaa
/- THE CELL 'sum', in the pinned program and in every row, IS THE sha256 OF THE DUMP (.gsa) THAT YtimccjmphdkbjaaProg.lean LOADS. Nothing in Lean hashes anything: it is a label: what it is worth is what the hold of that sum in a sandbox is worth. -/
noncomputable def Try.pinned : Pinned := { name := "ytimccjmphdkbjaa", sum := "b47d0460cfc7159447746ee7f54d820979ee4d9dddb35c3cd18fc7316447f93b", checked := Try.checked }
namespace Rows
def none {H : Type} : Left H := { results := [], args := [] }

/-- 'laws.FnCodeOk': WHATEVER THE INPUT: true; the input reads as it did. -/
def fnCodeOkSpec : ChangeSpec := { name := "fnCodeOk", fn := fun _ => fun
  | [d] => { results := [.lit (.bool true)], args := [d] }
  | _ => none }
def fnCodeOkRow : OpenClaim := { program := "ytimccjmphdkbjaa", sum := "b47d0460cfc7159447746ee7f54d820979ee4d9dddb35c3cd18fc7316447f93b", func := "loop.example/fieldroots/laws.FnCodeOk", spec := "fnCodeOk", apart := false }
def FnCodeOkSaid : Prop := fnCodeOkRow.holds Try.pinned (OpenSpec.ofChange fnCodeOkSpec)

/-- ITS FALSE NEIGHBOUR: 'it returns false'. Refute it at one input. -/
def fnCodeOkWrong : ChangeSpec := { name := "fnCodeOk", fn := fun _ => fun
  | [d] => { results := [.lit (.bool false)], args := [d] }
  | _ => none }
def FnCodeOkWrongFalsely : Prop := fnCodeOkRow.holds Try.pinned (OpenSpec.ofChange fnCodeOkWrong)

/-- 'laws.FnCodeLeaves': WHATEVER THE INPUT: true; the input reads as it did. -/
def fnCodeLeavesSpec : ChangeSpec := { name := "fnCodeLeaves", fn := fun _ => fun
  | [d] => { results := [.lit (.bool true)], args := [d] }
  | _ => none }
def fnCodeLeavesRow : OpenClaim := { program := "ytimccjmphdkbjaa", sum := "b47d0460cfc7159447746ee7f54d820979ee4d9dddb35c3cd18fc7316447f93b", func := "loop.example/fieldroots/laws.FnCodeLeaves", spec := "fnCodeLeaves", unfollowed := true, recurses := true, apart := false }
def FnCodeLeavesSaid : Prop := fnCodeLeavesRow.holds Try.pinned (OpenSpec.ofChange fnCodeLeavesSpec)

/-- ITS FALSE NEIGHBOUR: 'it returns false'. Refute it at one input. -/
def fnCodeLeavesWrong : ChangeSpec := { name := "fnCodeLeaves", fn := fun _ => fun
  | [d] => { results := [.lit (.bool false)], args := [d] }
  | _ => none }
def FnCodeLeavesWrongFalsely : Prop := fnCodeLeavesRow.holds Try.pinned (OpenSpec.ofChange fnCodeLeavesWrong)

/-- 'laws.FnExactCodeOk': WHATEVER THE INPUT: true; the input reads as it did. -/
def fnExactCodeOkSpec : ChangeSpec := { name := "fnExactCodeOk", fn := fun _ => fun
  | [d1, d2] => { results := [.lit (.bool true)], args := [d1, d2] }
  | _ => none }
def fnExactCodeOkRow : OpenClaim := { program := "ytimccjmphdkbjaa", sum := "b47d0460cfc7159447746ee7f54d820979ee4d9dddb35c3cd18fc7316447f93b", func := "loop.example/fieldroots/laws.FnExactCodeOk", spec := "fnExactCodeOk", apart := false }
def FnExactCodeOkSaid : Prop := fnExactCodeOkRow.holds Try.pinned (OpenSpec.ofChange fnExactCodeOkSpec)

/-- ITS FALSE NEIGHBOUR: 'it returns false'. Refute it at one input. -/
def fnExactCodeOkWrong : ChangeSpec := { name := "fnExactCodeOk", fn := fun _ => fun
  | [d1, d2] => { results := [.lit (.bool false)], args := [d1, d2] }
  | _ => none }
def FnExactCodeOkWrongFalsely : Prop := fnExactCodeOkRow.holds Try.pinned (OpenSpec.ofChange fnExactCodeOkWrong)

/-- 'laws.FnExactTreeOfCode': WHATEVER THE INPUT: true; the input reads as it did. -/
def fnExactTreeOfCodeSpec : ChangeSpec := { name := "fnExactTreeOfCode", fn := fun _ => fun
  | [d1, d2] => { results := [.lit (.bool true)], args := [d1, d2] }
  | _ => none }
def fnExactTreeOfCodeRow : OpenClaim := { program := "ytimccjmphdkbjaa", sum := "b47d0460cfc7159447746ee7f54d820979ee4d9dddb35c3cd18fc7316447f93b", func := "loop.example/fieldroots/laws.FnExactTreeOfCode", spec := "fnExactTreeOfCode", unfollowed := true, recurses := true, apart := false }
def FnExactTreeOfCodeSaid : Prop := fnExactTreeOfCodeRow.holds Try.pinned (OpenSpec.ofChange fnExactTreeOfCodeSpec)

/-- ITS FALSE NEIGHBOUR: 'it returns false'. Refute it at one input. -/
def fnExactTreeOfCodeWrong : ChangeSpec := { name := "fnExactTreeOfCode", fn := fun _ => fun
  | [d1, d2] => { results := [.lit (.bool false)], args := [d1, d2] }
  | _ => none }
def FnExactTreeOfCodeWrongFalsely : Prop := fnExactTreeOfCodeRow.holds Try.pinned (OpenSpec.ofChange fnExactTreeOfCodeWrong)

/-- 'laws.FnExactTreesMany': WHATEVER THE INPUT: true; the input reads as it did. -/
def fnExactTreesManySpec : ChangeSpec := { name := "fnExactTreesMany", fn := fun _ => fun
  | [d] => { results := [.lit (.bool true)], args := [d] }
  | _ => none }
def fnExactTreesManyRow : OpenClaim := { program := "ytimccjmphdkbjaa", sum := "b47d0460cfc7159447746ee7f54d820979ee4d9dddb35c3cd18fc7316447f93b", func := "loop.example/fieldroots/laws.FnExactTreesMany", spec := "fnExactTreesMany", apart := false }
def FnExactTreesManySaid : Prop := fnExactTreesManyRow.holds Try.pinned (OpenSpec.ofChange fnExactTreesManySpec)

/-- ITS FALSE NEIGHBOUR: 'it returns false'. Refute it at one input. -/
def fnExactTreesManyWrong : ChangeSpec := { name := "fnExactTreesMany", fn := fun _ => fun
  | [d] => { results := [.lit (.bool false)], args := [d] }
  | _ => none }
def FnExactTreesManyWrongFalsely : Prop := fnExactTreesManyRow.holds Try.pinned (OpenSpec.ofChange fnExactTreesManyWrong)

/- THE SECOND FORM. 'bulk': how many values and letters a reading holds, each counted each time it is reached (what is shared counts as often as it is met; a slice's spare places count too). A statement '..UptoSaid' is the law's where the arguments, and the package variables that the reading takes, are together of bulk at most 1048576: NARROWER than '..Said'. Prove '..Said' where nothing that the law and all that it calls make is longer than what came in: it says more and counts as full. Else prove '..UptoSaid'. A law counts once. -/
mutual
def uptoBulk {H : Type} : DataW H → Nat
  | .lit (.string bytes) => bytes.length + 1
  | .lit _ => 1
  | .nil => 1
  | .ptr d => uptoBulk d + 1
  | .slice elems spare => uptoBulkAll elems + uptoBulkAll spare + 1
  | .agg parts => uptoBulkAll parts + 1
  | .iface _ d => uptoBulk d + 1
  | .map entries => uptoBulkEntries entries + 1
  | .held _ => 1
def uptoBulkAll {H : Type} : List (DataW H) → Nat
  | [] => 0
  | d :: r => uptoBulk d + uptoBulkAll r
def uptoBulkEntries {H : Type} : List (Lit × DataW H) → Nat
  | [] => 0
  | x :: r => uptoBulkEntry x + uptoBulkEntries r
def uptoBulkEntry {H : Type} : Lit × DataW H → Nat
  | (.string bytes, d) => bytes.length + uptoBulk d + 1
  | (_, d) => uptoBulk d + 1
 end
def uptoSmall : (H : Type) → List (DataW H) → Bool := fun _ ds => decide (uptoBulkAll ds ≤ 1048576)
def OpenSpec.upto (s : _root_.Go.ChangeSpec) : _root_.Go.OpenSpec := { _root_.Go.OpenSpec.ofChange s with cond := some uptoSmall }

/-- 'laws.FnCodeOk', WHERE WHAT IT READS IS OF BULK AT MOST 1048576: true; the input reads as it did. -/
def fnCodeOkUptoRow : OpenClaim := { program := "ytimccjmphdkbjaa", sum := "b47d0460cfc7159447746ee7f54d820979ee4d9dddb35c3cd18fc7316447f93b", func := "loop.example/fieldroots/laws.FnCodeOk", spec := "fnCodeOk", apart := false, narrowed := true }
def FnCodeOkUptoSaid : Prop := fnCodeOkUptoRow.holds Try.pinned (OpenSpec.upto fnCodeOkSpec)

/-- 'laws.FnCodeLeaves', WHERE WHAT IT READS IS OF BULK AT MOST 1048576: true; the input reads as it did. -/
def fnCodeLeavesUptoRow : OpenClaim := { program := "ytimccjmphdkbjaa", sum := "b47d0460cfc7159447746ee7f54d820979ee4d9dddb35c3cd18fc7316447f93b", func := "loop.example/fieldroots/laws.FnCodeLeaves", spec := "fnCodeLeaves", unfollowed := true, recurses := true, apart := false, narrowed := true }
def FnCodeLeavesUptoSaid : Prop := fnCodeLeavesUptoRow.holds Try.pinned (OpenSpec.upto fnCodeLeavesSpec)

/-- 'laws.FnExactCodeOk', WHERE WHAT IT READS IS OF BULK AT MOST 1048576: true; the input reads as it did. -/
def fnExactCodeOkUptoRow : OpenClaim := { program := "ytimccjmphdkbjaa", sum := "b47d0460cfc7159447746ee7f54d820979ee4d9dddb35c3cd18fc7316447f93b", func := "loop.example/fieldroots/laws.FnExactCodeOk", spec := "fnExactCodeOk", apart := false, narrowed := true }
def FnExactCodeOkUptoSaid : Prop := fnExactCodeOkUptoRow.holds Try.pinned (OpenSpec.upto fnExactCodeOkSpec)

/-- 'laws.FnExactTreeOfCode', WHERE WHAT IT READS IS OF BULK AT MOST 1048576: true; the input reads as it did. -/
def fnExactTreeOfCodeUptoRow : OpenClaim := { program := "ytimccjmphdkbjaa", sum := "b47d0460cfc7159447746ee7f54d820979ee4d9dddb35c3cd18fc7316447f93b", func := "loop.example/fieldroots/laws.FnExactTreeOfCode", spec := "fnExactTreeOfCode", unfollowed := true, recurses := true, apart := false, narrowed := true }
def FnExactTreeOfCodeUptoSaid : Prop := fnExactTreeOfCodeUptoRow.holds Try.pinned (OpenSpec.upto fnExactTreeOfCodeSpec)

/-- 'laws.FnExactTreesMany', WHERE WHAT IT READS IS OF BULK AT MOST 1048576: true; the input reads as it did. -/
def fnExactTreesManyUptoRow : OpenClaim := { program := "ytimccjmphdkbjaa", sum := "b47d0460cfc7159447746ee7f54d820979ee4d9dddb35c3cd18fc7316447f93b", func := "loop.example/fieldroots/laws.FnExactTreesMany", spec := "fnExactTreesMany", apart := false, narrowed := true }
def FnExactTreesManyUptoSaid : Prop := fnExactTreesManyUptoRow.holds Try.pinned (OpenSpec.upto fnExactTreesManySpec)

end Rows
end Go.Proofs.Ytimccjmphdkbjaa
