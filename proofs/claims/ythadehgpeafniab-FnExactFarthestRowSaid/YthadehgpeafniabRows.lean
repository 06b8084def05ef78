/-
  No cell of these rows narrows 'for every input' (looked for: loops, veiled, ifaces, maps, wideKeys, modest, calm, conditions, laid).
  DERIVED. THE GIVEN ROWS OF THIS SEAT. 3 by the template 'for every input the law returns true; each argument reads behind the call as it read before'; 0 by the template 'total and deterministic' (their statements: YthadehgpeafniabTotals.lean).
  GIVEN WITH THE SEED: the statements are not yours to turn. If you find one false, say at which input.
  Laid BY PROGRAM, IN A SANDBOX (cutbox-rows.mjs): the forced cells as the released guide's own fill.sh prints them over the translation 3f3e9f1f634dfb9a… (all of the seat's roots in one cut). By AI agents, Wed Nov 11 2026. No macro, syntax, notation, axiom, sorry.
-/
import Derived.Test.YthadehgpeafniabChecked
import GoSem.Claim
import GoSem.ClaimJoined
import GoSem.ClaimMapViews
import Derived.JoinedTies
import Derived.KernelRfl
namespace Go.Proofs.Ythadehgpeafniab
/- THE CELL 'sum', in the pinned program and in every row, IS THE sha256 OF THE DUMP (.gsa) THAT YthadehgpeafniabProg.lean LOADS. Nothing in Lean hashes anything: it is a label: what it is worth is what the hold of that sum in a sandbox is worth. -/
noncomputable def Try.pinned : Pinned := { name := "ythadehgpeafniab", sum := "3f3e9f1f634dfb9a17823c54eb2491bba4af6d0685b3c5a1f6665d7b930c5067", checked := Try.checked }
namespace Rows
def none {H : Type} : Left H := { results := [], args := [] }

/-- 'laws.FnExactCoverCost': WHATEVER THE INPUT: true; the input reads as it did. -/
def fnExactCoverCostSpec : ChangeSpec := { name := "fnExactCoverCost", fn := fun _ => fun
  | [d1, d2] => { results := [.lit (.bool true)], args := [d1, d2] }
  | _ => none }
def fnExactCoverCostRow : OpenClaim := { program := "ythadehgpeafniab", sum := "3f3e9f1f634dfb9a17823c54eb2491bba4af6d0685b3c5a1f6665d7b930c5067", func := "loop.example/fieldroots/laws.FnExactCoverCost", spec := "fnExactCoverCost", apart := false }
def FnExactCoverCostSaid : Prop := fnExactCoverCostRow.holds Try.pinned (OpenSpec.ofChange fnExactCoverCostSpec)

/-- ITS FALSE NEIGHBOUR: 'it returns false'. Refute it at one input. -/
def fnExactCoverCostWrong : ChangeSpec := { name := "fnExactCoverCost", fn := fun _ => fun
  | [d1, d2] => { results := [.lit (.bool false)], args := [d1, d2] }
  | _ => none }
def FnExactCoverCostWrongFalsely : Prop := fnExactCoverCostRow.holds Try.pinned (OpenSpec.ofChange fnExactCoverCostWrong)

/-- 'laws.FnExactFewestEnds': WHATEVER THE INPUT: true; the input reads as it did. -/
def fnExactFewestEndsSpec : ChangeSpec := { name := "fnExactFewestEnds", fn := fun _ => fun
  | [d1, d2] => { results := [.lit (.bool true)], args := [d1, d2] }
  | _ => none }
def fnExactFewestEndsRow : OpenClaim := { program := "ythadehgpeafniab", sum := "3f3e9f1f634dfb9a17823c54eb2491bba4af6d0685b3c5a1f6665d7b930c5067", func := "loop.example/fieldroots/laws.FnExactFewestEnds", spec := "fnExactFewestEnds", apart := false }
def FnExactFewestEndsSaid : Prop := fnExactFewestEndsRow.holds Try.pinned (OpenSpec.ofChange fnExactFewestEndsSpec)

/-- ITS FALSE NEIGHBOUR: 'it returns false'. Refute it at one input. -/
def fnExactFewestEndsWrong : ChangeSpec := { name := "fnExactFewestEnds", fn := fun _ => fun
  | [d1, d2] => { results := [.lit (.bool false)], args := [d1, d2] }
  | _ => none }
def FnExactFewestEndsWrongFalsely : Prop := fnExactFewestEndsRow.holds Try.pinned (OpenSpec.ofChange fnExactFewestEndsWrong)

/-- 'laws.FnExactFarthestRow': WHATEVER THE INPUT: true; the input reads as it did. -/
def fnExactFarthestRowSpec : ChangeSpec := { name := "fnExactFarthestRow", fn := fun _ => fun
  | [d] => { results := [.lit (.bool true)], args := [d] }
  | _ => none }
def fnExactFarthestRowRow : OpenClaim := { program := "ythadehgpeafniab", sum := "3f3e9f1f634dfb9a17823c54eb2491bba4af6d0685b3c5a1f6665d7b930c5067", func := "loop.example/fieldroots/laws.FnExactFarthestRow", spec := "fnExactFarthestRow", apart := false }
def FnExactFarthestRowSaid : Prop := fnExactFarthestRowRow.holds Try.pinned (OpenSpec.ofChange fnExactFarthestRowSpec)

/-- ITS FALSE NEIGHBOUR: 'it returns false'. Refute it at one input. -/
def fnExactFarthestRowWrong : ChangeSpec := { name := "fnExactFarthestRow", fn := fun _ => fun
  | [d] => { results := [.lit (.bool false)], args := [d] }
  | _ => none }
def FnExactFarthestRowWrongFalsely : Prop := fnExactFarthestRowRow.holds Try.pinned (OpenSpec.ofChange fnExactFarthestRowWrong)

/- THE SECOND FORM. 'bulk': how many values and letters a reading holds, each counted each time it is reached (what is shared counts as often as it is met; a slice's spare places count too). A statement '..UptoSaid' is the law's where the arguments, and the package variables that the reading takes, are together of bulk at most 1048576: NARROWER than '..Said'. Prove '..Said' where nothing that the law and all that it calls make is longer than what came in: it says more and counts as full. Else prove '..UptoSaid'. A law counts once. -/
mutual
def uptoBulk {H : Type} : DataW H → Nat
  | .lit (.string bytes) => bytes.length + 1
  | .lit _ => 1
  | .nil => 1
  | .ptr d => uptoBulk d + 1
  | .slice elems spare => uptoBulkAll elems + uptoBulkAll spare + 1
  | .agg parts => uptoBulkAll parts + 1
  | .iface _ d => uptoBulk d + 1
  | .map entries => uptoBulkEntries entries + 1
  | .held _ => 1
def uptoBulkAll {H : Type} : List (DataW H) → Nat
  | [] => 0
  | d :: r => uptoBulk d + uptoBulkAll r
def uptoBulkEntries {H : Type} : List (Lit × DataW H) → Nat
  | [] => 0
  | x :: r => uptoBulkEntry x + uptoBulkEntries r
def uptoBulkEntry {H : Type} : Lit × DataW H → Nat
  | (.string bytes, d) => bytes.length + uptoBulk d + 1
  | (_, d) => uptoBulk d + 1
 end
def uptoSmall : (H : Type) → List (DataW H) → Bool := fun _ ds => decide (uptoBulkAll ds ≤ 1048576)
def OpenSpec.upto (s : _root_.Go.ChangeSpec) : _root_.Go.OpenSpec := { _root_.Go.OpenSpec.ofChange s with cond := some uptoSmall }

/-- 'laws.FnExactCoverCost', WHERE WHAT IT READS IS OF BULK AT MOST 1048576: true; the input reads as it did. -/
def fnExactCoverCostUptoRow : OpenClaim := { program := "ythadehgpeafniab", sum := "3f3e9f1f634dfb9a17823c54eb2491bba4af6d0685b3c5a1f6665d7b930c5067", func := "loop.example/fieldroots/laws.FnExactCoverCost", spec := "fnExactCoverCost", apart := false, narrowed := true }
def FnExactCoverCostUptoSaid : Prop := fnExactCoverCostUptoRow.holds Try.pinned (OpenSpec.upto fnExactCoverCostSpec)

/-- 'laws.FnExactFewestEnds', WHERE WHAT IT READS IS OF BULK AT MOST 1048576: true; the input reads as it did. -/
def fnExactFewestEndsUptoRow : OpenClaim := { program := "ythadehgpeafniab", sum := "3f3e9f1f634dfb9a17823c54eb2491bba4af6d0685b3c5a1f6665d7b930c5067", func := "loop.example/fieldroots/laws.FnExactFewestEnds", spec := "fnExactFewestEnds", apart := false, narrowed := true }
def FnExactFewestEndsUptoSaid : Prop := fnExactFewestEndsUptoRow.holds Try.pinned (OpenSpec.upto fnExactFewestEndsSpec)

/-- 'laws.FnExactFarthestRow', WHERE WHAT IT READS IS OF BULK AT MOST 1048576: true; the input reads as it did. -/
def fnExactFarthestRowUptoRow : OpenClaim := { program := "ythadehgpeafniab", sum := "3f3e9f1f634dfb9a17823c54eb2491bba4af6d0685b3c5a1f6665d7b930c5067", func := "loop.example/fieldroots/laws.FnExactFarthestRow", spec := "fnExactFarthestRow", apart := false, narrowed := true }
def FnExactFarthestRowUptoSaid : Prop := fnExactFarthestRowUptoRow.holds Try.pinned (OpenSpec.upto fnExactFarthestRowSpec)

end Rows
end Go.Proofs.Ythadehgpeafniab
