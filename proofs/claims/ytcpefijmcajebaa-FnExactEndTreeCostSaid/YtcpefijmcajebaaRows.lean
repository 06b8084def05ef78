/-
  No cell of these rows narrows 'for every input' (looked for: loops, veiled, ifaces, maps, wideKeys, modest, calm, conditions, laid).
  DERIVED. THE GIVEN ROWS OF THIS SEAT. 2 by the template 'for every input the law returns true; each argument reads behind the call as it read before'; 0 by the template 'total and deterministic' (their statements: YtcpefijmcajebaaTotals.lean).
  GIVEN WITH THE SEED: the statements are not yours to turn. If you find one false, say at which input.
  Laid BY PROGRAM, IN A SANDBOX (cutbox-rows.mjs): the forced cells as the released guide's own fill.sh prints them over the translation 2d9b45b89ef0576c… (all of the seat's roots in one cut). By AI agents, Wed Nov 11 2026. No macro, syntax, notation, axiom, sorry.
-/
import Derived.Test.YtcpefijmcajebaaChecked
import GoSem.Claim
import GoSem.ClaimJoined
import GoSem.ClaimMapViews
import Derived.JoinedTies
import Derived.KernelRfl
namespace Go.Proofs.Ytcpefijmcajebaa
/- THE CELL 'sum', in the pinned program and in every row, IS THE sha256 OF THE DUMP (.gsa) THAT YtcpefijmcajebaaProg.lean LOADS. Nothing in Lean hashes anything: it is a label: what it is worth is what the hold of that sum in a sandbox is worth. -/
noncomputable def Try.pinned : Pinned := { name := "ytcpefijmcajebaa", sum := "2d9b45b89ef0576cc39e43da4121163fe44f49b6bfe20c0d2a84e8e5c4bb5eba", checked := Try.checked }
namespace Rows
def none {H : Type} : Left H := { results := [], args := [] }

/-- 'laws.FnExactEndLinks': WHATEVER THE INPUT: true; the input reads as it did. -/
def fnExactEndLinksSpec : ChangeSpec := { name := "fnExactEndLinks", fn := fun _ => fun
  | [d1, d2] => { results := [.lit (.bool true)], args := [d1, d2] }
  | _ => none }
def fnExactEndLinksRow : OpenClaim := { program := "ytcpefijmcajebaa", sum := "2d9b45b89ef0576cc39e43da4121163fe44f49b6bfe20c0d2a84e8e5c4bb5eba", func := "loop.example/fieldroots/laws.FnExactEndLinks", spec := "fnExactEndLinks", apart := false }
def FnExactEndLinksSaid : Prop := fnExactEndLinksRow.holds Try.pinned (OpenSpec.ofChange fnExactEndLinksSpec)

/-- ITS FALSE NEIGHBOUR: 'it returns false'. Refute it at one input. -/
def fnExactEndLinksWrong : ChangeSpec := { name := "fnExactEndLinks", fn := fun _ => fun
  | [d1, d2] => { results := [.lit (.bool false)], args := [d1, d2] }
  | _ => none }
def FnExactEndLinksWrongFalsely : Prop := fnExactEndLinksRow.holds Try.pinned (OpenSpec.ofChange fnExactEndLinksWrong)

/-- 'laws.FnExactEndTreeCost': WHATEVER THE INPUT: true; the input reads as it did. -/
def fnExactEndTreeCostSpec : ChangeSpec := { name := "fnExactEndTreeCost", fn := fun _ => fun
  | [d1, d2] => { results := [.lit (.bool true)], args := [d1, d2] }
  | _ => none }
def fnExactEndTreeCostRow : OpenClaim := { program := "ytcpefijmcajebaa", sum := "2d9b45b89ef0576cc39e43da4121163fe44f49b6bfe20c0d2a84e8e5c4bb5eba", func := "loop.example/fieldroots/laws.FnExactEndTreeCost", spec := "fnExactEndTreeCost", apart := false }
def FnExactEndTreeCostSaid : Prop := fnExactEndTreeCostRow.holds Try.pinned (OpenSpec.ofChange fnExactEndTreeCostSpec)

/-- ITS FALSE NEIGHBOUR: 'it returns false'. Refute it at one input. -/
def fnExactEndTreeCostWrong : ChangeSpec := { name := "fnExactEndTreeCost", fn := fun _ => fun
  | [d1, d2] => { results := [.lit (.bool false)], args := [d1, d2] }
  | _ => none }
def FnExactEndTreeCostWrongFalsely : Prop := fnExactEndTreeCostRow.holds Try.pinned (OpenSpec.ofChange fnExactEndTreeCostWrong)

/- THE SECOND FORM. 'bulk': how many values and letters a reading holds, each counted each time it is reached (what is shared counts as often as it is met; a slice's spare places count too). A statement '..UptoSaid' is the law's where the arguments, and the package variables that the reading takes, are together of bulk at most 1048576: NARROWER than '..Said'. Prove '..Said' where nothing that the law and all that it calls make is longer than what came in: it says more and counts as full. Else prove '..UptoSaid'. A law counts once. -/
mutual
def uptoBulk {H : Type} : DataW H → Nat
  | .lit (.string bytes) => bytes.length + 1
  | .lit _ => 1
  | .nil => 1
  | .ptr d => uptoBulk d + 1
  | .slice elems spare => uptoBulkAll elems + uptoBulkAll spare + 1
  | .agg parts => uptoBulkAll parts + 1
  | .iface _ d => uptoBulk d + 1
  | .map entries => uptoBulkEntries entries + 1
  | .held _ => 1
def uptoBulkAll {H : Type} : List (DataW H) → Nat
  | [] => 0
  | d :: r => uptoBulk d + uptoBulkAll r
def uptoBulkEntries {H : Type} : List (Lit × DataW H) → Nat
  | [] => 0
  | x :: r => uptoBulkEntry x + uptoBulkEntries r
def uptoBulkEntry {H : Type} : Lit × DataW H → Nat
  | (.string bytes, d) => bytes.length + uptoBulk d + 1
  | (_, d) => uptoBulk d + 1
 end
def uptoSmall : (H : Type) → List (DataW H) → Bool := fun _ ds => decide (uptoBulkAll ds ≤ 1048576)
def OpenSpec.upto (s : _root_.Go.ChangeSpec) : _root_.Go.OpenSpec := { _root_.Go.OpenSpec.ofChange s with cond := some uptoSmall }

/-- 'laws.FnExactEndLinks', WHERE WHAT IT READS IS OF BULK AT MOST 1048576: true; the input reads as it did. -/
def fnExactEndLinksUptoRow : OpenClaim := { program := "ytcpefijmcajebaa", sum := "2d9b45b89ef0576cc39e43da4121163fe44f49b6bfe20c0d2a84e8e5c4bb5eba", func := "loop.example/fieldroots/laws.FnExactEndLinks", spec := "fnExactEndLinks", apart := false, narrowed := true }
def FnExactEndLinksUptoSaid : Prop := fnExactEndLinksUptoRow.holds Try.pinned (OpenSpec.upto fnExactEndLinksSpec)

/-- 'laws.FnExactEndTreeCost', WHERE WHAT IT READS IS OF BULK AT MOST 1048576: true; the input reads as it did. -/
def fnExactEndTreeCostUptoRow : OpenClaim := { program := "ytcpefijmcajebaa", sum := "2d9b45b89ef0576cc39e43da4121163fe44f49b6bfe20c0d2a84e8e5c4bb5eba", func := "loop.example/fieldroots/laws.FnExactEndTreeCost", spec := "fnExactEndTreeCost", apart := false, narrowed := true }
def FnExactEndTreeCostUptoSaid : Prop := fnExactEndTreeCostUptoRow.holds Try.pinned (OpenSpec.upto fnExactEndTreeCostSpec)

end Rows
end Go.Proofs.Ytcpefijmcajebaa
