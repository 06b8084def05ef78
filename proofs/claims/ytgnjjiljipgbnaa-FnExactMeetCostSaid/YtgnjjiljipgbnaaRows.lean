/-
  No cell of these rows narrows 'for every input' (looked for: loops, veiled, ifaces, maps, wideKeys, modest, calm, conditions, laid).
  DERIVED. THE GIVEN ROWS OF THIS SEAT. 11 by the template 'for every input the law returns true; each argument reads behind the call as it read before'; 0 by the template 'total and deterministic' (their statements: YtgnjjiljipgbnaaTotals.lean).
  GIVEN WITH THE SEED: the statements are not yours to turn. If you find one false, say at which input.
  Laid BY PROGRAM, IN A SANDBOX (cutbox-rows.mjs): the forced cells as the released guide's own fill.sh prints them over the translation 26deb56bf02baa17… (all of the seat's roots in one cut). By AI agents, Wed Nov 11 2026. No macro, syntax, notation, axiom, sorry.
-/
import Derived.Test.YtgnjjiljipgbnaaChecked
import GoSem.Claim
import GoSem.ClaimJoined
import GoSem.ClaimMapViews
import Derived.JoinedTies
import Derived.KernelRfl
namespace Go.Proofs.Ytgnjjiljipgbnaa
/- THE CELL 'sum', in the pinned program and in every row, IS THE sha256 OF THE DUMP (.gsa) THAT YtgnjjiljipgbnaaProg.lean LOADS. Nothing in Lean hashes anything: it is a label: what it is worth is what the hold of that sum in a sandbox is worth. -/
noncomputable def Try.pinned : Pinned := { name := "ytgnjjiljipgbnaa", sum := "26deb56bf02baa17f3f71307a0e288aa63d62cdae79cd9865080ed1fec136db1", checked := Try.checked }
namespace Rows
def none {H : Type} : Left H := { results := [], args := [] }

/-- 'laws.FnPointsOk': WHATEVER THE INPUT: true; the input reads as it did. -/
def fnPointsOkSpec : ChangeSpec := { name := "fnPointsOk", fn := fun _ => fun
  | [d] => { results := [.lit (.bool true)], args := [d] }
  | _ => none }
def fnPointsOkRow : OpenClaim := { program := "ytgnjjiljipgbnaa", sum := "26deb56bf02baa17f3f71307a0e288aa63d62cdae79cd9865080ed1fec136db1", func := "loop.example/fieldroots/laws.FnPointsOk", spec := "fnPointsOk", apart := false }
def FnPointsOkSaid : Prop := fnPointsOkRow.holds Try.pinned (OpenSpec.ofChange fnPointsOkSpec)

/-- ITS FALSE NEIGHBOUR: 'it returns false'. Refute it at one input. -/
def fnPointsOkWrong : ChangeSpec := { name := "fnPointsOk", fn := fun _ => fun
  | [d] => { results := [.lit (.bool false)], args := [d] }
  | _ => none }
def FnPointsOkWrongFalsely : Prop := fnPointsOkRow.holds Try.pinned (OpenSpec.ofChange fnPointsOkWrong)

/-- 'laws.FnPointsFar': WHATEVER THE INPUT: true; the input reads as it did. -/
def fnPointsFarSpec : ChangeSpec := { name := "fnPointsFar", fn := fun _ => fun
  | [d] => { results := [.lit (.bool true)], args := [d] }
  | _ => none }
def fnPointsFarRow : OpenClaim := { program := "ytgnjjiljipgbnaa", sum := "26deb56bf02baa17f3f71307a0e288aa63d62cdae79cd9865080ed1fec136db1", func := "loop.example/fieldroots/laws.FnPointsFar", spec := "fnPointsFar", apart := false }
def FnPointsFarSaid : Prop := fnPointsFarRow.holds Try.pinned (OpenSpec.ofChange fnPointsFarSpec)

/-- ITS FALSE NEIGHBOUR: 'it returns false'. Refute it at one input. -/
def fnPointsFarWrong : ChangeSpec := { name := "fnPointsFar", fn := fun _ => fun
  | [d] => { results := [.lit (.bool false)], args := [d] }
  | _ => none }
def FnPointsFarWrongFalsely : Prop := fnPointsFarRow.holds Try.pinned (OpenSpec.ofChange fnPointsFarWrong)

/-- 'laws.FnHalfRound': WHATEVER THE INPUT: true; the input reads as it did. -/
def fnHalfRoundSpec : ChangeSpec := { name := "fnHalfRound", fn := fun _ => fun
  | [d] => { results := [.lit (.bool true)], args := [d] }
  | _ => none }
def fnHalfRoundRow : OpenClaim := { program := "ytgnjjiljipgbnaa", sum := "26deb56bf02baa17f3f71307a0e288aa63d62cdae79cd9865080ed1fec136db1", func := "loop.example/fieldroots/laws.FnHalfRound", spec := "fnHalfRound", apart := false }
def FnHalfRoundSaid : Prop := fnHalfRoundRow.holds Try.pinned (OpenSpec.ofChange fnHalfRoundSpec)

/-- ITS FALSE NEIGHBOUR: 'it returns false'. Refute it at one input. -/
def fnHalfRoundWrong : ChangeSpec := { name := "fnHalfRound", fn := fun _ => fun
  | [d] => { results := [.lit (.bool false)], args := [d] }
  | _ => none }
def FnHalfRoundWrongFalsely : Prop := fnHalfRoundRow.holds Try.pinned (OpenSpec.ofChange fnHalfRoundWrong)

/-- 'laws.FnMiddleOf': WHATEVER THE INPUT: true; the input reads as it did. -/
def fnMiddleOfSpec : ChangeSpec := { name := "fnMiddleOf", fn := fun _ => fun
  | [d] => { results := [.lit (.bool true)], args := [d] }
  | _ => none }
def fnMiddleOfRow : OpenClaim := { program := "ytgnjjiljipgbnaa", sum := "26deb56bf02baa17f3f71307a0e288aa63d62cdae79cd9865080ed1fec136db1", func := "loop.example/fieldroots/laws.FnMiddleOf", spec := "fnMiddleOf", recurses := true, apart := false }
def FnMiddleOfSaid : Prop := fnMiddleOfRow.holds Try.pinned (OpenSpec.ofChange fnMiddleOfSpec)

/-- ITS FALSE NEIGHBOUR: 'it returns false'. Refute it at one input. -/
def fnMiddleOfWrong : ChangeSpec := { name := "fnMiddleOf", fn := fun _ => fun
  | [d] => { results := [.lit (.bool false)], args := [d] }
  | _ => none }
def FnMiddleOfWrongFalsely : Prop := fnMiddleOfRow.holds Try.pinned (OpenSpec.ofChange fnMiddleOfWrong)

/-- 'laws.FnMeetCost': WHATEVER THE INPUT: true; the input reads as it did. -/
def fnMeetCostSpec : ChangeSpec := { name := "fnMeetCost", fn := fun _ => fun
  | [d] => { results := [.lit (.bool true)], args := [d] }
  | _ => none }
def fnMeetCostRow : OpenClaim := { program := "ytgnjjiljipgbnaa", sum := "26deb56bf02baa17f3f71307a0e288aa63d62cdae79cd9865080ed1fec136db1", func := "loop.example/fieldroots/laws.FnMeetCost", spec := "fnMeetCost", recurses := true, apart := false }
def FnMeetCostSaid : Prop := fnMeetCostRow.holds Try.pinned (OpenSpec.ofChange fnMeetCostSpec)

/-- ITS FALSE NEIGHBOUR: 'it returns false'. Refute it at one input. -/
def fnMeetCostWrong : ChangeSpec := { name := "fnMeetCost", fn := fun _ => fun
  | [d] => { results := [.lit (.bool false)], args := [d] }
  | _ => none }
def FnMeetCostWrongFalsely : Prop := fnMeetCostRow.holds Try.pinned (OpenSpec.ofChange fnMeetCostWrong)

/-- 'laws.FnHalfJoin': WHATEVER THE INPUT: true; the input reads as it did. -/
def fnHalfJoinSpec : ChangeSpec := { name := "fnHalfJoin", fn := fun _ => fun
  | [d] => { results := [.lit (.bool true)], args := [d] }
  | _ => none }
def fnHalfJoinRow : OpenClaim := { program := "ytgnjjiljipgbnaa", sum := "26deb56bf02baa17f3f71307a0e288aa63d62cdae79cd9865080ed1fec136db1", func := "loop.example/fieldroots/laws.FnHalfJoin", spec := "fnHalfJoin", apart := false }
def FnHalfJoinSaid : Prop := fnHalfJoinRow.holds Try.pinned (OpenSpec.ofChange fnHalfJoinSpec)

/-- ITS FALSE NEIGHBOUR: 'it returns false'. Refute it at one input. -/
def fnHalfJoinWrong : ChangeSpec := { name := "fnHalfJoin", fn := fun _ => fun
  | [d] => { results := [.lit (.bool false)], args := [d] }
  | _ => none }
def FnHalfJoinWrongFalsely : Prop := fnHalfJoinRow.holds Try.pinned (OpenSpec.ofChange fnHalfJoinWrong)

/-- 'laws.FnExactPointsOk': WHATEVER THE INPUT: true; the input reads as it did. -/
def fnExactPointsOkSpec : ChangeSpec := { name := "fnExactPointsOk", fn := fun _ => fun
  | [d] => { results := [.lit (.bool true)], args := [d] }
  | _ => none }
def fnExactPointsOkRow : OpenClaim := { program := "ytgnjjiljipgbnaa", sum := "26deb56bf02baa17f3f71307a0e288aa63d62cdae79cd9865080ed1fec136db1", func := "loop.example/fieldroots/laws.FnExactPointsOk", spec := "fnExactPointsOk", apart := false }
def FnExactPointsOkSaid : Prop := fnExactPointsOkRow.holds Try.pinned (OpenSpec.ofChange fnExactPointsOkSpec)

/-- ITS FALSE NEIGHBOUR: 'it returns false'. Refute it at one input. -/
def fnExactPointsOkWrong : ChangeSpec := { name := "fnExactPointsOk", fn := fun _ => fun
  | [d] => { results := [.lit (.bool false)], args := [d] }
  | _ => none }
def FnExactPointsOkWrongFalsely : Prop := fnExactPointsOkRow.holds Try.pinned (OpenSpec.ofChange fnExactPointsOkWrong)

/-- 'laws.FnExactPointsFar': WHATEVER THE INPUT: true; the input reads as it did. -/
def fnExactPointsFarSpec : ChangeSpec := { name := "fnExactPointsFar", fn := fun _ => fun
  | [d1, d2, d3] => { results := [.lit (.bool true)], args := [d1, d2, d3] }
  | _ => none }
def fnExactPointsFarRow : OpenClaim := { program := "ytgnjjiljipgbnaa", sum := "26deb56bf02baa17f3f71307a0e288aa63d62cdae79cd9865080ed1fec136db1", func := "loop.example/fieldroots/laws.FnExactPointsFar", spec := "fnExactPointsFar", apart := false }
def FnExactPointsFarSaid : Prop := fnExactPointsFarRow.holds Try.pinned (OpenSpec.ofChange fnExactPointsFarSpec)

/-- ITS FALSE NEIGHBOUR: 'it returns false'. Refute it at one input. -/
def fnExactPointsFarWrong : ChangeSpec := { name := "fnExactPointsFar", fn := fun _ => fun
  | [d1, d2, d3] => { results := [.lit (.bool false)], args := [d1, d2, d3] }
  | _ => none }
def FnExactPointsFarWrongFalsely : Prop := fnExactPointsFarRow.holds Try.pinned (OpenSpec.ofChange fnExactPointsFarWrong)

/-- 'laws.FnExactHalfRound': WHATEVER THE INPUT: true; the input reads as it did. -/
def fnExactHalfRoundSpec : ChangeSpec := { name := "fnExactHalfRound", fn := fun _ => fun
  | [d] => { results := [.lit (.bool true)], args := [d] }
  | _ => none }
def fnExactHalfRoundRow : OpenClaim := { program := "ytgnjjiljipgbnaa", sum := "26deb56bf02baa17f3f71307a0e288aa63d62cdae79cd9865080ed1fec136db1", func := "loop.example/fieldroots/laws.FnExactHalfRound", spec := "fnExactHalfRound", apart := false }
def FnExactHalfRoundSaid : Prop := fnExactHalfRoundRow.holds Try.pinned (OpenSpec.ofChange fnExactHalfRoundSpec)

/-- ITS FALSE NEIGHBOUR: 'it returns false'. Refute it at one input. -/
def fnExactHalfRoundWrong : ChangeSpec := { name := "fnExactHalfRound", fn := fun _ => fun
  | [d] => { results := [.lit (.bool false)], args := [d] }
  | _ => none }
def FnExactHalfRoundWrongFalsely : Prop := fnExactHalfRoundRow.holds Try.pinned (OpenSpec.ofChange fnExactHalfRoundWrong)

/-- 'laws.FnExactMiddleOf': WHATEVER THE INPUT: true; the input reads as it did. -/
def fnExactMiddleOfSpec : ChangeSpec := { name := "fnExactMiddleOf", fn := fun _ => fun
  | [d] => { results := [.lit (.bool true)], args := [d] }
  | _ => none }
def fnExactMiddleOfRow : OpenClaim := { program := "ytgnjjiljipgbnaa", sum := "26deb56bf02baa17f3f71307a0e288aa63d62cdae79cd9865080ed1fec136db1", func := "loop.example/fieldroots/laws.FnExactMiddleOf", spec := "fnExactMiddleOf", recurses := true, apart := false }
def FnExactMiddleOfSaid : Prop := fnExactMiddleOfRow.holds Try.pinned (OpenSpec.ofChange fnExactMiddleOfSpec)

/-- ITS FALSE NEIGHBOUR: 'it returns false'. Refute it at one input. -/
def fnExactMiddleOfWrong : ChangeSpec := { name := "fnExactMiddleOf", fn := fun _ => fun
  | [d] => { results := [.lit (.bool false)], args := [d] }
  | _ => none }
def FnExactMiddleOfWrongFalsely : Prop := fnExactMiddleOfRow.holds Try.pinned (OpenSpec.ofChange fnExactMiddleOfWrong)

/-- 'laws.FnExactMeetCost': WHATEVER THE INPUT: true; the input reads as it did. -/
def fnExactMeetCostSpec : ChangeSpec := { name := "fnExactMeetCost", fn := fun _ => fun
  | [d1, d2] => { results := [.lit (.bool true)], args := [d1, d2] }
  | _ => none }
def fnExactMeetCostRow : OpenClaim := { program := "ytgnjjiljipgbnaa", sum := "26deb56bf02baa17f3f71307a0e288aa63d62cdae79cd9865080ed1fec136db1", func := "loop.example/fieldroots/laws.FnExactMeetCost", spec := "fnExactMeetCost", apart := false }
def FnExactMeetCostSaid : Prop := fnExactMeetCostRow.holds Try.pinned (OpenSpec.ofChange fnExactMeetCostSpec)

/-- ITS FALSE NEIGHBOUR: 'it returns false'. Refute it at one input. -/
def fnExactMeetCostWrong : ChangeSpec := { name := "fnExactMeetCost", fn := fun _ => fun
  | [d1, d2] => { results := [.lit (.bool false)], args := [d1, d2] }
  | _ => none }
def FnExactMeetCostWrongFalsely : Prop := fnExactMeetCostRow.holds Try.pinned (OpenSpec.ofChange fnExactMeetCostWrong)

/- THE SECOND FORM. 'bulk': how many values and letters a reading holds, each counted each time it is reached (what is shared counts as often as it is met; a slice's spare places count too). A statement '..UptoSaid' is the law's where the arguments, and the package variables that the reading takes, are together of bulk at most 1048576: NARROWER than '..Said'. Prove '..Said' where nothing that the law and all that it calls make is longer than what came in: it says more and counts as full. Else prove '..UptoSaid'. A law counts once. -/
mutual
def uptoBulk {H : Type} : DataW H → Nat
  | .lit (.string bytes) => bytes.length + 1
  | .lit _ => 1
  | .nil => 1
  | .ptr d => uptoBulk d + 1
  | .slice elems spare => uptoBulkAll elems + uptoBulkAll spare + 1
  | .agg parts => uptoBulkAll parts + 1
  | .iface _ d => uptoBulk d + 1
  | .map entries => uptoBulkEntries entries + 1
  | .held _ => 1
def uptoBulkAll {H : Type} : List (DataW H) → Nat
  | [] => 0
  | d :: r => uptoBulk d + uptoBulkAll r
def uptoBulkEntries {H : Type} : List (Lit × DataW H) → Nat
  | [] => 0
  | x :: r => uptoBulkEntry x + uptoBulkEntries r
def uptoBulkEntry {H : Type} : Lit × DataW H → Nat
  | (.string bytes, d) => bytes.length + uptoBulk d + 1
  | (_, d) => uptoBulk d + 1
 end
def uptoSmall : (H : Type) → List (DataW H) → Bool := fun _ ds => decide (uptoBulkAll ds ≤ 1048576)
def OpenSpec.upto (s : _root_.Go.ChangeSpec) : _root_.Go.OpenSpec := { _root_.Go.OpenSpec.ofChange s with cond := some uptoSmall }

/-- 'laws.FnPointsOk', WHERE WHAT IT READS IS OF BULK AT MOST 1048576: true; the input reads as it did. -/
def fnPointsOkUptoRow : OpenClaim := { program := "ytgnjjiljipgbnaa", sum := "26deb56bf02baa17f3f71307a0e288aa63d62cdae79cd9865080ed1fec136db1", func := "loop.example/fieldroots/laws.FnPointsOk", spec := "fnPointsOk", apart := false, narrowed := true }
def FnPointsOkUptoSaid : Prop := fnPointsOkUptoRow.holds Try.pinned (OpenSpec.upto fnPointsOkSpec)

/-- 'laws.FnPointsFar', WHERE WHAT IT READS IS OF BULK AT MOST 1048576: true; the input reads as it did. -/
def fnPointsFarUptoRow : OpenClaim := { program := "ytgnjjiljipgbnaa", sum := "26deb56bf02baa17f3f71307a0e288aa63d62cdae79cd9865080ed1fec136db1", func := "loop.example/fieldroots/laws.FnPointsFar", spec := "fnPointsFar", apart := false, narrowed := true }
def FnPointsFarUptoSaid : Prop := fnPointsFarUptoRow.holds Try.pinned (OpenSpec.upto fnPointsFarSpec)

/-- 'laws.FnHalfRound', WHERE WHAT IT READS IS OF BULK AT MOST 1048576: true; the input reads as it did. -/
def fnHalfRoundUptoRow : OpenClaim := { program := "ytgnjjiljipgbnaa", sum := "26deb56bf02baa17f3f71307a0e288aa63d62cdae79cd9865080ed1fec136db1", func := "loop.example/fieldroots/laws.FnHalfRound", spec := "fnHalfRound", apart := false, narrowed := true }
def FnHalfRoundUptoSaid : Prop := fnHalfRoundUptoRow.holds Try.pinned (OpenSpec.upto fnHalfRoundSpec)

/-- 'laws.FnMiddleOf', WHERE WHAT IT READS IS OF BULK AT MOST 1048576: true; the input reads as it did. -/
def fnMiddleOfUptoRow : OpenClaim := { program := "ytgnjjiljipgbnaa", sum := "26deb56bf02baa17f3f71307a0e288aa63d62cdae79cd9865080ed1fec136db1", func := "loop.example/fieldroots/laws.FnMiddleOf", spec := "fnMiddleOf", recurses := true, apart := false, narrowed := true }
def FnMiddleOfUptoSaid : Prop := fnMiddleOfUptoRow.holds Try.pinned (OpenSpec.upto fnMiddleOfSpec)

/-- 'laws.FnMeetCost', WHERE WHAT IT READS IS OF BULK AT MOST 1048576: true; the input reads as it did. -/
def fnMeetCostUptoRow : OpenClaim := { program := "ytgnjjiljipgbnaa", sum := "26deb56bf02baa17f3f71307a0e288aa63d62cdae79cd9865080ed1fec136db1", func := "loop.example/fieldroots/laws.FnMeetCost", spec := "fnMeetCost", recurses := true, apart := false, narrowed := true }
def FnMeetCostUptoSaid : Prop := fnMeetCostUptoRow.holds Try.pinned (OpenSpec.upto fnMeetCostSpec)

/-- 'laws.FnHalfJoin', WHERE WHAT IT READS IS OF BULK AT MOST 1048576: true; the input reads as it did. -/
def fnHalfJoinUptoRow : OpenClaim := { program := "ytgnjjiljipgbnaa", sum := "26deb56bf02baa17f3f71307a0e288aa63d62cdae79cd9865080ed1fec136db1", func := "loop.example/fieldroots/laws.FnHalfJoin", spec := "fnHalfJoin", apart := false, narrowed := true }
def FnHalfJoinUptoSaid : Prop := fnHalfJoinUptoRow.holds Try.pinned (OpenSpec.upto fnHalfJoinSpec)

/-- 'laws.FnExactPointsOk', WHERE WHAT IT READS IS OF BULK AT MOST 1048576: true; the input reads as it did. -/
def fnExactPointsOkUptoRow : OpenClaim := { program := "ytgnjjiljipgbnaa", sum := "26deb56bf02baa17f3f71307a0e288aa63d62cdae79cd9865080ed1fec136db1", func := "loop.example/fieldroots/laws.FnExactPointsOk", spec := "fnExactPointsOk", apart := false, narrowed := true }
def FnExactPointsOkUptoSaid : Prop := fnExactPointsOkUptoRow.holds Try.pinned (OpenSpec.upto fnExactPointsOkSpec)

/-- 'laws.FnExactPointsFar', WHERE WHAT IT READS IS OF BULK AT MOST 1048576: true; the input reads as it did. -/
def fnExactPointsFarUptoRow : OpenClaim := { program := "ytgnjjiljipgbnaa", sum := "26deb56bf02baa17f3f71307a0e288aa63d62cdae79cd9865080ed1fec136db1", func := "loop.example/fieldroots/laws.FnExactPointsFar", spec := "fnExactPointsFar", apart := false, narrowed := true }
def FnExactPointsFarUptoSaid : Prop := fnExactPointsFarUptoRow.holds Try.pinned (OpenSpec.upto fnExactPointsFarSpec)

/-- 'laws.FnExactHalfRound', WHERE WHAT IT READS IS OF BULK AT MOST 1048576: true; the input reads as it did. -/
def fnExactHalfRoundUptoRow : OpenClaim := { program := "ytgnjjiljipgbnaa", sum := "26deb56bf02baa17f3f71307a0e288aa63d62cdae79cd9865080ed1fec136db1", func := "loop.example/fieldroots/laws.FnExactHalfRound", spec := "fnExactHalfRound", apart := false, narrowed := true }
def FnExactHalfRoundUptoSaid : Prop := fnExactHalfRoundUptoRow.holds Try.pinned (OpenSpec.upto fnExactHalfRoundSpec)

/-- 'laws.FnExactMiddleOf', WHERE WHAT IT READS IS OF BULK AT MOST 1048576: true; the input reads as it did. -/
def fnExactMiddleOfUptoRow : OpenClaim := { program := "ytgnjjiljipgbnaa", sum := "26deb56bf02baa17f3f71307a0e288aa63d62cdae79cd9865080ed1fec136db1", func := "loop.example/fieldroots/laws.FnExactMiddleOf", spec := "fnExactMiddleOf", recurses := true, apart := false, narrowed := true }
def FnExactMiddleOfUptoSaid : Prop := fnExactMiddleOfUptoRow.holds Try.pinned (OpenSpec.upto fnExactMiddleOfSpec)

/-- 'laws.FnExactMeetCost', WHERE WHAT IT READS IS OF BULK AT MOST 1048576: true; the input reads as it did. -/
def fnExactMeetCostUptoRow : OpenClaim := { program := "ytgnjjiljipgbnaa", sum := "26deb56bf02baa17f3f71307a0e288aa63d62cdae79cd9865080ed1fec136db1", func := "loop.example/fieldroots/laws.FnExactMeetCost", spec := "fnExactMeetCost", apart := false, narrowed := true }
def FnExactMeetCostUptoSaid : Prop := fnExactMeetCostUptoRow.holds Try.pinned (OpenSpec.upto fnExactMeetCostSpec)

end Rows
end Go.Proofs.Ytgnjjiljipgbnaa
