/-
  No cell of these rows narrows 'for every input' (looked for: loops, veiled, ifaces, maps, wideKeys, modest, calm, conditions, laid).
  DERIVED. THE GIVEN ROWS OF THIS SEAT. 3 by the template 'for every input the law returns true; each argument reads behind the call as it read before'; 0 by the template 'total and deterministic' (their statements: YtnbihejoglgdhaaTotals.lean).
  GIVEN WITH THE SEED: the statements are not yours to turn. If you find one false, say at which input.
  Laid BY PROGRAM, IN A SANDBOX (cutbox-rows.mjs): the forced cells as the released guide's own fill.sh prints them over the translation 4687265f60cf43c1… (all of the seat's roots in one cut). By AI agents, Wed Nov 11 2026. No macro, syntax, notation, axiom, sorry.
-/
import Derived.Test.YtnbihejoglgdhaaChecked
import GoSem.Claim
import GoSem.ClaimJoined
import GoSem.ClaimMapViews
import Derived.JoinedTies
import Derived.KernelRfl
namespace Go.Proofs.Ytnbihejoglgdhaa
/- THE CELL 'sum', in the pinned program and in every row, IS THE sha256 OF THE DUMP (.gsa) THAT YtnbihejoglgdhaaProg.lean LOADS. Nothing in Lean hashes anything: it is a label: what it is worth is what the hold of that sum in a sandbox is worth. -/
noncomputable def Try.pinned : Pinned := { name := "ytnbihejoglgdhaa", sum := "4687265f60cf43c134c1e81fdb5f03dd79cb8663356a0ad4495f07dc86e55d18", checked := Try.checked }
namespace Rows
def none {H : Type} : Left H := { results := [], args := [] }

/-- 'laws.FnDegreeRow': WHATEVER THE INPUT: true; the input reads as it did. -/
def fnDegreeRowSpec : ChangeSpec := { name := "fnDegreeRow", fn := fun _ => fun
  | [d] => { results := [.lit (.bool true)], args := [d] }
  | _ => none }
def fnDegreeRowRow : OpenClaim := { program := "ytnbihejoglgdhaa", sum := "4687265f60cf43c134c1e81fdb5f03dd79cb8663356a0ad4495f07dc86e55d18", func := "loop.example/fieldroots/laws.FnDegreeRow", spec := "fnDegreeRow", apart := false }
def FnDegreeRowSaid : Prop := fnDegreeRowRow.holds Try.pinned (OpenSpec.ofChange fnDegreeRowSpec)

/-- ITS FALSE NEIGHBOUR: 'it returns false'. Refute it at one input. -/
def fnDegreeRowWrong : ChangeSpec := { name := "fnDegreeRow", fn := fun _ => fun
  | [d] => { results := [.lit (.bool false)], args := [d] }
  | _ => none }
def FnDegreeRowWrongFalsely : Prop := fnDegreeRowRow.holds Try.pinned (OpenSpec.ofChange fnDegreeRowWrong)

/-- 'laws.FnExactForksOf': WHATEVER THE INPUT: true; the input reads as it did. -/
def fnExactForksOfSpec : ChangeSpec := { name := "fnExactForksOf", fn := fun _ => fun
  | [d1, d2] => { results := [.lit (.bool true)], args := [d1, d2] }
  | _ => none }
def fnExactForksOfRow : OpenClaim := { program := "ytnbihejoglgdhaa", sum := "4687265f60cf43c134c1e81fdb5f03dd79cb8663356a0ad4495f07dc86e55d18", func := "loop.example/fieldroots/laws.FnExactForksOf", spec := "fnExactForksOf", apart := false }
def FnExactForksOfSaid : Prop := fnExactForksOfRow.holds Try.pinned (OpenSpec.ofChange fnExactForksOfSpec)

/-- ITS FALSE NEIGHBOUR: 'it returns false'. Refute it at one input. -/
def fnExactForksOfWrong : ChangeSpec := { name := "fnExactForksOf", fn := fun _ => fun
  | [d1, d2] => { results := [.lit (.bool false)], args := [d1, d2] }
  | _ => none }
def FnExactForksOfWrongFalsely : Prop := fnExactForksOfRow.holds Try.pinned (OpenSpec.ofChange fnExactForksOfWrong)

/-- 'laws.FnExactDegreeRow': WHATEVER THE INPUT: true; the input reads as it did. -/
def fnExactDegreeRowSpec : ChangeSpec := { name := "fnExactDegreeRow", fn := fun _ => fun
  | [d1, d2] => { results := [.lit (.bool true)], args := [d1, d2] }
  | _ => none }
def fnExactDegreeRowRow : OpenClaim := { program := "ytnbihejoglgdhaa", sum := "4687265f60cf43c134c1e81fdb5f03dd79cb8663356a0ad4495f07dc86e55d18", func := "loop.example/fieldroots/laws.FnExactDegreeRow", spec := "fnExactDegreeRow", apart := false }
def FnExactDegreeRowSaid : Prop := fnExactDegreeRowRow.holds Try.pinned (OpenSpec.ofChange fnExactDegreeRowSpec)

/-- ITS FALSE NEIGHBOUR: 'it returns false'. Refute it at one input. -/
def fnExactDegreeRowWrong : ChangeSpec := { name := "fnExactDegreeRow", fn := fun _ => fun
  | [d1, d2] => { results := [.lit (.bool false)], args := [d1, d2] }
  | _ => none }
def FnExactDegreeRowWrongFalsely : Prop := fnExactDegreeRowRow.holds Try.pinned (OpenSpec.ofChange fnExactDegreeRowWrong)

/- THE SECOND FORM. 'bulk': how many values and letters a reading holds, each counted each time it is reached (what is shared counts as often as it is met; a slice's spare places count too). A statement '..UptoSaid' is the law's where the arguments, and the package variables that the reading takes, are together of bulk at most 1048576: NARROWER than '..Said'. Prove '..Said' where nothing that the law and all that it calls make is longer than what came in: it says more and counts as full. Else prove '..UptoSaid'. A law counts once. -/
mutual
def uptoBulk {H : Type} : DataW H → Nat
  | .lit (.string bytes) => bytes.length + 1
  | .lit _ => 1
  | .nil => 1
  | .ptr d => uptoBulk d + 1
  | .slice elems spare => uptoBulkAll elems + uptoBulkAll spare + 1
  | .agg parts => uptoBulkAll parts + 1
  | .iface _ d => uptoBulk d + 1
  | .map entries => uptoBulkEntries entries + 1
  | .held _ => 1
def uptoBulkAll {H : Type} : List (DataW H) → Nat
  | [] => 0
  | d :: r => uptoBulk d + uptoBulkAll r
def uptoBulkEntries {H : Type} : List (Lit × DataW H) → Nat
  | [] => 0
  | x :: r => uptoBulkEntry x + uptoBulkEntries r
def uptoBulkEntry {H : Type} : Lit × DataW H → Nat
  | (.string bytes, d) => bytes.length + uptoBulk d + 1
  | (_, d) => uptoBulk d + 1
 end
def uptoSmall : (H : Type) → List (DataW H) → Bool := fun _ ds => decide (uptoBulkAll ds ≤ 1048576)
def OpenSpec.upto (s : _root_.Go.ChangeSpec) : _root_.Go.OpenSpec := { _root_.Go.OpenSpec.ofChange s with cond := some uptoSmall }

/-- 'laws.FnDegreeRow', WHERE WHAT IT READS IS OF BULK AT MOST 1048576: true; the input reads as it did. -/
def fnDegreeRowUptoRow : OpenClaim := { program := "ytnbihejoglgdhaa", sum := "4687265f60cf43c134c1e81fdb5f03dd79cb8663356a0ad4495f07dc86e55d18", func := "loop.example/fieldroots/laws.FnDegreeRow", spec := "fnDegreeRow", apart := false, narrowed := true }
def FnDegreeRowUptoSaid : Prop := fnDegreeRowUptoRow.holds Try.pinned (OpenSpec.upto fnDegreeRowSpec)

/-- 'laws.FnExactForksOf', WHERE WHAT IT READS IS OF BULK AT MOST 1048576: true; the input reads as it did. -/
def fnExactForksOfUptoRow : OpenClaim := { program := "ytnbihejoglgdhaa", sum := "4687265f60cf43c134c1e81fdb5f03dd79cb8663356a0ad4495f07dc86e55d18", func := "loop.example/fieldroots/laws.FnExactForksOf", spec := "fnExactForksOf", apart := false, narrowed := true }
def FnExactForksOfUptoSaid : Prop := fnExactForksOfUptoRow.holds Try.pinned (OpenSpec.upto fnExactForksOfSpec)

/-- 'laws.FnExactDegreeRow', WHERE WHAT IT READS IS OF BULK AT MOST 1048576: true; the input reads as it did. -/
def fnExactDegreeRowUptoRow : OpenClaim := { program := "ytnbihejoglgdhaa", sum := "4687265f60cf43c134c1e81fdb5f03dd79cb8663356a0ad4495f07dc86e55d18", func := "loop.example/fieldroots/laws.FnExactDegreeRow", spec := "fnExactDegreeRow", apart := false, narrowed := true }
def FnExactDegreeRowUptoSaid : Prop := fnExactDegreeRowUptoRow.holds Try.pinned (OpenSpec.upto fnExactDegreeRowSpec)

end Rows
end Go.Proofs.Ytnbihejoglgdhaa
