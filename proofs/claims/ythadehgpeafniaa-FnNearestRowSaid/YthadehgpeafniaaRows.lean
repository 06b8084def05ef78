/-
  No cell of these rows narrows 'for every input' (looked for: loops, veiled, ifaces, maps, wideKeys, modest, calm, conditions, laid).
  DERIVED. THE GIVEN ROWS OF THIS SEAT. 7 by the template 'for every input the law returns true; each argument reads behind the call as it read before'; 0 by the template 'total and deterministic' (their statements: YthadehgpeafniaaTotals.lean).
  GIVEN WITH THE SEED: the statements are not yours to turn. If you find one false, say at which input.
  Laid BY PROGRAM, IN A SANDBOX (cutbox-rows.mjs): the forced cells as the released guide's own fill.sh prints them over the translation ce14a5794dbf405d… (all of the seat's roots in one cut). By AI agents, Wed Nov 11 2026. No macro, syntax, notation, axiom, sorry.
-/
import Derived.Test.YthadehgpeafniaaChecked
import GoSem.Claim
import GoSem.ClaimJoined
import GoSem.ClaimMapViews
import Derived.JoinedTies
import Derived.KernelRfl
namespace Go.Proofs.Ythadehgpeafniaa
/- THE CELL 'sum', in the pinned program and in every row, IS THE sha256 OF THE DUMP (.gsa) THAT YthadehgpeafniaaProg.lean LOADS. Nothing in Lean hashes anything: it is a label: what it is worth is what the hold of that sum in a sandbox is worth. -/
noncomputable def Try.pinned : Pinned := { name := "ythadehgpeafniaa", sum := "ce14a5794dbf405d6e020888137bdc711602a3c94469de7472b947d337ef5b7b", checked := Try.checked }
namespace Rows
def none {H : Type} : Left H := { results := [], args := [] }

/-- 'laws.FnDearestOf': WHATEVER THE INPUT: true; the input reads as it did. -/
def fnDearestOfSpec : ChangeSpec := { name := "fnDearestOf", fn := fun _ => fun
  | [d] => { results := [.lit (.bool true)], args := [d] }
  | _ => none }
def fnDearestOfRow : OpenClaim := { program := "ythadehgpeafniaa", sum := "ce14a5794dbf405d6e020888137bdc711602a3c94469de7472b947d337ef5b7b", func := "loop.example/fieldroots/laws.FnDearestOf", spec := "fnDearestOf", apart := false }
def FnDearestOfSaid : Prop := fnDearestOfRow.holds Try.pinned (OpenSpec.ofChange fnDearestOfSpec)

/-- ITS FALSE NEIGHBOUR: 'it returns false'. Refute it at one input. -/
def fnDearestOfWrong : ChangeSpec := { name := "fnDearestOf", fn := fun _ => fun
  | [d] => { results := [.lit (.bool false)], args := [d] }
  | _ => none }
def FnDearestOfWrongFalsely : Prop := fnDearestOfRow.holds Try.pinned (OpenSpec.ofChange fnDearestOfWrong)

/-- 'laws.FnNearestRow': WHATEVER THE INPUT: true; the input reads as it did. -/
def fnNearestRowSpec : ChangeSpec := { name := "fnNearestRow", fn := fun _ => fun
  | [d] => { results := [.lit (.bool true)], args := [d] }
  | _ => none }
def fnNearestRowRow : OpenClaim := { program := "ythadehgpeafniaa", sum := "ce14a5794dbf405d6e020888137bdc711602a3c94469de7472b947d337ef5b7b", func := "loop.example/fieldroots/laws.FnNearestRow", spec := "fnNearestRow", apart := false }
def FnNearestRowSaid : Prop := fnNearestRowRow.holds Try.pinned (OpenSpec.ofChange fnNearestRowSpec)

/-- ITS FALSE NEIGHBOUR: 'it returns false'. Refute it at one input. -/
def fnNearestRowWrong : ChangeSpec := { name := "fnNearestRow", fn := fun _ => fun
  | [d] => { results := [.lit (.bool false)], args := [d] }
  | _ => none }
def FnNearestRowWrongFalsely : Prop := fnNearestRowRow.holds Try.pinned (OpenSpec.ofChange fnNearestRowWrong)

/-- 'laws.FnCoverCost': WHATEVER THE INPUT: true; the input reads as it did. -/
def fnCoverCostSpec : ChangeSpec := { name := "fnCoverCost", fn := fun _ => fun
  | [d1, d2] => { results := [.lit (.bool true)], args := [d1, d2] }
  | _ => none }
def fnCoverCostRow : OpenClaim := { program := "ythadehgpeafniaa", sum := "ce14a5794dbf405d6e020888137bdc711602a3c94469de7472b947d337ef5b7b", func := "loop.example/fieldroots/laws.FnCoverCost", spec := "fnCoverCost", apart := false }
def FnCoverCostSaid : Prop := fnCoverCostRow.holds Try.pinned (OpenSpec.ofChange fnCoverCostSpec)

/-- ITS FALSE NEIGHBOUR: 'it returns false'. Refute it at one input. -/
def fnCoverCostWrong : ChangeSpec := { name := "fnCoverCost", fn := fun _ => fun
  | [d1, d2] => { results := [.lit (.bool false)], args := [d1, d2] }
  | _ => none }
def FnCoverCostWrongFalsely : Prop := fnCoverCostRow.holds Try.pinned (OpenSpec.ofChange fnCoverCostWrong)

/-- 'laws.FnFewestEnds': WHATEVER THE INPUT: true; the input reads as it did. -/
def fnFewestEndsSpec : ChangeSpec := { name := "fnFewestEnds", fn := fun _ => fun
  | [d] => { results := [.lit (.bool true)], args := [d] }
  | _ => none }
def fnFewestEndsRow : OpenClaim := { program := "ythadehgpeafniaa", sum := "ce14a5794dbf405d6e020888137bdc711602a3c94469de7472b947d337ef5b7b", func := "loop.example/fieldroots/laws.FnFewestEnds", spec := "fnFewestEnds", apart := false }
def FnFewestEndsSaid : Prop := fnFewestEndsRow.holds Try.pinned (OpenSpec.ofChange fnFewestEndsSpec)

/-- ITS FALSE NEIGHBOUR: 'it returns false'. Refute it at one input. -/
def fnFewestEndsWrong : ChangeSpec := { name := "fnFewestEnds", fn := fun _ => fun
  | [d] => { results := [.lit (.bool false)], args := [d] }
  | _ => none }
def FnFewestEndsWrongFalsely : Prop := fnFewestEndsRow.holds Try.pinned (OpenSpec.ofChange fnFewestEndsWrong)

/-- 'laws.FnNearestMore': WHATEVER THE INPUT: true; the input reads as it did. -/
def fnNearestMoreSpec : ChangeSpec := { name := "fnNearestMore", fn := fun _ => fun
  | [d1, d2] => { results := [.lit (.bool true)], args := [d1, d2] }
  | _ => none }
def fnNearestMoreRow : OpenClaim := { program := "ythadehgpeafniaa", sum := "ce14a5794dbf405d6e020888137bdc711602a3c94469de7472b947d337ef5b7b", func := "loop.example/fieldroots/laws.FnNearestMore", spec := "fnNearestMore", apart := false }
def FnNearestMoreSaid : Prop := fnNearestMoreRow.holds Try.pinned (OpenSpec.ofChange fnNearestMoreSpec)

/-- ITS FALSE NEIGHBOUR: 'it returns false'. Refute it at one input. -/
def fnNearestMoreWrong : ChangeSpec := { name := "fnNearestMore", fn := fun _ => fun
  | [d1, d2] => { results := [.lit (.bool false)], args := [d1, d2] }
  | _ => none }
def FnNearestMoreWrongFalsely : Prop := fnNearestMoreRow.holds Try.pinned (OpenSpec.ofChange fnNearestMoreWrong)

/-- 'laws.FnExactDearestOf': WHATEVER THE INPUT: true; the input reads as it did. -/
def fnExactDearestOfSpec : ChangeSpec := { name := "fnExactDearestOf", fn := fun _ => fun
  | [d1, d2] => { results := [.lit (.bool true)], args := [d1, d2] }
  | _ => none }
def fnExactDearestOfRow : OpenClaim := { program := "ythadehgpeafniaa", sum := "ce14a5794dbf405d6e020888137bdc711602a3c94469de7472b947d337ef5b7b", func := "loop.example/fieldroots/laws.FnExactDearestOf", spec := "fnExactDearestOf", apart := false }
def FnExactDearestOfSaid : Prop := fnExactDearestOfRow.holds Try.pinned (OpenSpec.ofChange fnExactDearestOfSpec)

/-- ITS FALSE NEIGHBOUR: 'it returns false'. Refute it at one input. -/
def fnExactDearestOfWrong : ChangeSpec := { name := "fnExactDearestOf", fn := fun _ => fun
  | [d1, d2] => { results := [.lit (.bool false)], args := [d1, d2] }
  | _ => none }
def FnExactDearestOfWrongFalsely : Prop := fnExactDearestOfRow.holds Try.pinned (OpenSpec.ofChange fnExactDearestOfWrong)

/-- 'laws.FnExactNearestRow': WHATEVER THE INPUT: true; the input reads as it did. -/
def fnExactNearestRowSpec : ChangeSpec := { name := "fnExactNearestRow", fn := fun _ => fun
  | [d1, d2] => { results := [.lit (.bool true)], args := [d1, d2] }
  | _ => none }
def fnExactNearestRowRow : OpenClaim := { program := "ythadehgpeafniaa", sum := "ce14a5794dbf405d6e020888137bdc711602a3c94469de7472b947d337ef5b7b", func := "loop.example/fieldroots/laws.FnExactNearestRow", spec := "fnExactNearestRow", apart := false }
def FnExactNearestRowSaid : Prop := fnExactNearestRowRow.holds Try.pinned (OpenSpec.ofChange fnExactNearestRowSpec)

/-- ITS FALSE NEIGHBOUR: 'it returns false'. Refute it at one input. -/
def fnExactNearestRowWrong : ChangeSpec := { name := "fnExactNearestRow", fn := fun _ => fun
  | [d1, d2] => { results := [.lit (.bool false)], args := [d1, d2] }
  | _ => none }
def FnExactNearestRowWrongFalsely : Prop := fnExactNearestRowRow.holds Try.pinned (OpenSpec.ofChange fnExactNearestRowWrong)

/- THE SECOND FORM. 'bulk': how many values and letters a reading holds, each counted each time it is reached (what is shared counts as often as it is met; a slice's spare places count too). A statement '..UptoSaid' is the law's where the arguments, and the package variables that the reading takes, are together of bulk at most 1048576: NARROWER than '..Said'. Prove '..Said' where nothing that the law and all that it calls make is longer than what came in: it says more and counts as full. Else prove '..UptoSaid'. A law counts once. -/
mutual
def uptoBulk {H : Type} : DataW H → Nat
  | .lit (.string bytes) => bytes.length + 1
  | .lit _ => 1
  | .nil => 1
  | .ptr d => uptoBulk d + 1
  | .slice elems spare => uptoBulkAll elems + uptoBulkAll spare + 1
  | .agg parts => uptoBulkAll parts + 1
  | .iface _ d => uptoBulk d + 1
  | .map entries => uptoBulkEntries entries + 1
  | .held _ => 1
def uptoBulkAll {H : Type} : List (DataW H) → Nat
  | [] => 0
  | d :: r => uptoBulk d + uptoBulkAll r
def uptoBulkEntries {H : Type} : List (Lit × DataW H) → Nat
  | [] => 0
  | x :: r => uptoBulkEntry x + uptoBulkEntries r
def uptoBulkEntry {H : Type} : Lit × DataW H → Nat
  | (.string bytes, d) => bytes.length + uptoBulk d + 1
  | (_, d) => uptoBulk d + 1
 end
def uptoSmall : (H : Type) → List (DataW H) → Bool := fun _ ds => decide (uptoBulkAll ds ≤ 1048576)
def OpenSpec.upto (s : _root_.Go.ChangeSpec) : _root_.Go.OpenSpec := { _root_.Go.OpenSpec.ofChange s with cond := some uptoSmall }

/-- 'laws.FnDearestOf', WHERE WHAT IT READS IS OF BULK AT MOST 1048576: true; the input reads as it did. -/
def fnDearestOfUptoRow : OpenClaim := { program := "ythadehgpeafniaa", sum := "ce14a5794dbf405d6e020888137bdc711602a3c94469de7472b947d337ef5b7b", func := "loop.example/fieldroots/laws.FnDearestOf", spec := "fnDearestOf", apart := false, narrowed := true }
def FnDearestOfUptoSaid : Prop := fnDearestOfUptoRow.holds Try.pinned (OpenSpec.upto fnDearestOfSpec)

/-- 'laws.FnNearestRow', WHERE WHAT IT READS IS OF BULK AT MOST 1048576: true; the input reads as it did. -/
def fnNearestRowUptoRow : OpenClaim := { program := "ythadehgpeafniaa", sum := "ce14a5794dbf405d6e020888137bdc711602a3c94469de7472b947d337ef5b7b", func := "loop.example/fieldroots/laws.FnNearestRow", spec := "fnNearestRow", apart := false, narrowed := true }
def FnNearestRowUptoSaid : Prop := fnNearestRowUptoRow.holds Try.pinned (OpenSpec.upto fnNearestRowSpec)

/-- 'laws.FnCoverCost', WHERE WHAT IT READS IS OF BULK AT MOST 1048576: true; the input reads as it did. -/
def fnCoverCostUptoRow : OpenClaim := { program := "ythadehgpeafniaa", sum := "ce14a5794dbf405d6e020888137bdc711602a3c94469de7472b947d337ef5b7b", func := "loop.example/fieldroots/laws.FnCoverCost", spec := "fnCoverCost", apart := false, narrowed := true }
def FnCoverCostUptoSaid : Prop := fnCoverCostUptoRow.holds Try.pinned (OpenSpec.upto fnCoverCostSpec)

/-- 'laws.FnFewestEnds', WHERE WHAT IT READS IS OF BULK AT MOST 1048576: true; the input reads as it did. -/
def fnFewestEndsUptoRow : OpenClaim := { program := "ythadehgpeafniaa", sum := "ce14a5794dbf405d6e020888137bdc711602a3c94469de7472b947d337ef5b7b", func := "loop.example/fieldroots/laws.FnFewestEnds", spec := "fnFewestEnds", apart := false, narrowed := true }
def FnFewestEndsUptoSaid : Prop := fnFewestEndsUptoRow.holds Try.pinned (OpenSpec.upto fnFewestEndsSpec)

/-- 'laws.FnNearestMore', WHERE WHAT IT READS IS OF BULK AT MOST 1048576: true; the input reads as it did. -/
def fnNearestMoreUptoRow : OpenClaim := { program := "ythadehgpeafniaa", sum := "ce14a5794dbf405d6e020888137bdc711602a3c94469de7472b947d337ef5b7b", func := "loop.example/fieldroots/laws.FnNearestMore", spec := "fnNearestMore", apart := false, narrowed := true }
def FnNearestMoreUptoSaid : Prop := fnNearestMoreUptoRow.holds Try.pinned (OpenSpec.upto fnNearestMoreSpec)

/-- 'laws.FnExactDearestOf', WHERE WHAT IT READS IS OF BULK AT MOST 1048576: true; the input reads as it did. -/
def fnExactDearestOfUptoRow : OpenClaim := { program := "ythadehgpeafniaa", sum := "ce14a5794dbf405d6e020888137bdc711602a3c94469de7472b947d337ef5b7b", func := "loop.example/fieldroots/laws.FnExactDearestOf", spec := "fnExactDearestOf", apart := false, narrowed := true }
def FnExactDearestOfUptoSaid : Prop := fnExactDearestOfUptoRow.holds Try.pinned (OpenSpec.upto fnExactDearestOfSpec)

/-- 'laws.FnExactNearestRow', WHERE WHAT IT READS IS OF BULK AT MOST 1048576: true; the input reads as it did. -/
def fnExactNearestRowUptoRow : OpenClaim := { program := "ythadehgpeafniaa", sum := "ce14a5794dbf405d6e020888137bdc711602a3c94469de7472b947d337ef5b7b", func := "loop.example/fieldroots/laws.FnExactNearestRow", spec := "fnExactNearestRow", apart := false, narrowed := true }
def FnExactNearestRowUptoSaid : Prop := fnExactNearestRowUptoRow.holds Try.pinned (OpenSpec.upto fnExactNearestRowSpec)

end Rows
end Go.Proofs.Ythadehgpeafniaa
