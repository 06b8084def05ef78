/-
  NARROWER THAN 'FOR EVERY INPUT', by the rows' own cells (each row's printed sentence says how): FnSpanOn: laid · FnChosenCost: laid · FnBestChoice: laid · FnForksOf: laid · FnChoiceSmall: laid · FnExactSpanOn: laid · FnExactChosenCost: laid · FnExactBestChoice: laid.
  DERIVED. THE GIVEN ROWS OF THIS SEAT. 8 by the template 'for every input the law returns true; each argument reads behind the call as it read before'; 0 by the template 'total and deterministic' (their statements: YtnbihejoglgdhaaDoorTotals.lean).
  GIVEN WITH THE SEED: the statements are not yours to turn. If you find one false, say at which input.
  Laid BY PROGRAM, IN A SANDBOX (cutbox-rows.mjs): the forced cells as the released guide's own fill.sh prints them over the translation 3ca96e1bb8d8391d… (all of the seat's roots in one cut). By AI agents, Wed Nov 11 2026. No macro, syntax, notation, axiom, sorry.
-/
import Derived.Test.YtnbihejoglgdhaaDoorChecked
import GoSem.Claim
import GoSem.ClaimJoined
import GoSem.ClaimMapViews
import Derived.JoinedTies
import Derived.KernelRfl
namespace Go.Proofs.YtnbihejoglgdhaaDoor
/- THE CELL 'sum', in the pinned program and in every row, IS THE sha256 OF THE DUMP (.gsa) THAT YtnbihejoglgdhaaDoorProg.lean LOADS. Nothing in Lean hashes anything: it is a label: what it is worth is what the hold of that sum in a sandbox is worth. -/
noncomputable def Tryd.pinned : Pinned := { name := "ytnbihejoglgdhaadoor", sum := "3ca96e1bb8d8391df76a6754268245bf6459e9ea5ed3e6e034e3e9e106ea4cad", checked := Tryd.checked }
namespace Rows
def none {H : Type} : Left H := { results := [], args := [] }

/- WHAT THE LISTED PACKAGE-LEVEL VARIABLES READ AS WHEN THE CALL BEGINS. Each datum BY PROGRAM (the guide's laid-datum.mjs) off the statement by which the dump's own 'gosem.cut.vars' lays the variable. In a bare row this is a premise. The card (YtnbihejoglgdhaaDoorCards.lean) ties it to the program's text. -/
def laid_math_bits_deBruijn32tab {H : Type} : DataW H := .agg [.lit (.int .u8 0), .lit (.int .u8 1), .lit (.int .u8 28), .lit (.int .u8 2), .lit (.int .u8 29), .lit (.int .u8 14), .lit (.int .u8 24), .lit (.int .u8 3), .lit (.int .u8 30), .lit (.int .u8 22), .lit (.int .u8 20), .lit (.int .u8 15), .lit (.int .u8 25), .lit (.int .u8 17), .lit (.int .u8 4), .lit (.int .u8 8), .lit (.int .u8 31), .lit (.int .u8 27), .lit (.int .u8 13), .lit (.int .u8 23), .lit (.int .u8 21), .lit (.int .u8 19), .lit (.int .u8 16), .lit (.int .u8 7), .lit (.int .u8 26), .lit (.int .u8 12), .lit (.int .u8 18), .lit (.int .u8 6), .lit (.int .u8 11), .lit (.int .u8 5), .lit (.int .u8 10), .lit (.int .u8 9)]
def laid_math_bits_deBruijn64tab {H : Type} : DataW H := .agg [.lit (.int .u8 0), .lit (.int .u8 1), .lit (.int .u8 56), .lit (.int .u8 2), .lit (.int .u8 57), .lit (.int .u8 49), .lit (.int .u8 28), .lit (.int .u8 3), .lit (.int .u8 61), .lit (.int .u8 58), .lit (.int .u8 42), .lit (.int .u8 50), .lit (.int .u8 38), .lit (.int .u8 29), .lit (.int .u8 17), .lit (.int .u8 4), .lit (.int .u8 62), .lit (.int .u8 47), .lit (.int .u8 59), .lit (.int .u8 36), .lit (.int .u8 45), .lit (.int .u8 43), .lit (.int .u8 51), .lit (.int .u8 22), .lit (.int .u8 53), .lit (.int .u8 39), .lit (.int .u8 33), .lit (.int .u8 30), .lit (.int .u8 24), .lit (.int .u8 18), .lit (.int .u8 12), .lit (.int .u8 5), .lit (.int .u8 63), .lit (.int .u8 55), .lit (.int .u8 48), .lit (.int .u8 27), .lit (.int .u8 60), .lit (.int .u8 41), .lit (.int .u8 37), .lit (.int .u8 16), .lit (.int .u8 46), .lit (.int .u8 35), .lit (.int .u8 44), .lit (.int .u8 21), .lit (.int .u8 52), .lit (.int .u8 32), .lit (.int .u8 23), .lit (.int .u8 11), .lit (.int .u8 54), .lit (.int .u8 26), .lit (.int .u8 40), .lit (.int .u8 15), .lit (.int .u8 34), .lit (.int .u8 20), .lit (.int .u8 31), .lit (.int .u8 10), .lit (.int .u8 25), .lit (.int .u8 14), .lit (.int .u8 19), .lit (.int .u8 9), .lit (.int .u8 13), .lit (.int .u8 8), .lit (.int .u8 7), .lit (.int .u8 6)]

/-- 'laws.FnSpanOn': WHATEVER THE INPUT: true; the input reads as it did. -/
def fnSpanOnSpec : ChangeSpec := { name := "fnSpanOn", fn := fun _ => fun
  | [d] => { results := [.lit (.bool true)], args := [d] }
  | _ => none }
def fnSpanOnRow : OpenClaim := { program := "ytnbihejoglgdhaadoor", sum := "3ca96e1bb8d8391df76a6754268245bf6459e9ea5ed3e6e034e3e9e106ea4cad", func := "loop.example/fieldroots/laws.FnSpanOn", spec := "fnSpanOn", unfollowed := true, recurses := true, named := ["math/bits.deBruijn32tab", "math/bits.deBruijn64tab"], apart := false, laid := [("math/bits.deBruijn32tab", laid_math_bits_deBruijn32tab), ("math/bits.deBruijn64tab", laid_math_bits_deBruijn64tab)] }
def FnSpanOnSaid : Prop := fnSpanOnRow.holds Tryd.pinned (OpenSpec.ofChange fnSpanOnSpec)

/-- ITS FALSE NEIGHBOUR: 'it returns false'. Refute it at one input. -/
def fnSpanOnWrong : ChangeSpec := { name := "fnSpanOn", fn := fun _ => fun
  | [d] => { results := [.lit (.bool false)], args := [d] }
  | _ => none }
def FnSpanOnWrongFalsely : Prop := fnSpanOnRow.holds Tryd.pinned (OpenSpec.ofChange fnSpanOnWrong)

/-- 'laws.FnChosenCost': WHATEVER THE INPUT: true; the input reads as it did. -/
def fnChosenCostSpec : ChangeSpec := { name := "fnChosenCost", fn := fun _ => fun
  | [d] => { results := [.lit (.bool true)], args := [d] }
  | _ => none }
def fnChosenCostRow : OpenClaim := { program := "ytnbihejoglgdhaadoor", sum := "3ca96e1bb8d8391df76a6754268245bf6459e9ea5ed3e6e034e3e9e106ea4cad", func := "loop.example/fieldroots/laws.FnChosenCost", spec := "fnChosenCost", unfollowed := true, recurses := true, named := ["math/bits.deBruijn32tab", "math/bits.deBruijn64tab"], apart := false, laid := [("math/bits.deBruijn32tab", laid_math_bits_deBruijn32tab), ("math/bits.deBruijn64tab", laid_math_bits_deBruijn64tab)] }
def FnChosenCostSaid : Prop := fnChosenCostRow.holds Tryd.pinned (OpenSpec.ofChange fnChosenCostSpec)

/-- ITS FALSE NEIGHBOUR: 'it returns false'. Refute it at one input. -/
def fnChosenCostWrong : ChangeSpec := { name := "fnChosenCost", fn := fun _ => fun
  | [d] => { results := [.lit (.bool false)], args := [d] }
  | _ => none }
def FnChosenCostWrongFalsely : Prop := fnChosenCostRow.holds Tryd.pinned (OpenSpec.ofChange fnChosenCostWrong)

/-- 'laws.FnBestChoice': WHATEVER THE INPUT: true; the input reads as it did. -/
def fnBestChoiceSpec : ChangeSpec := { name := "fnBestChoice", fn := fun _ => fun
  | [d] => { results := [.lit (.bool true)], args := [d] }
  | _ => none }
def fnBestChoiceRow : OpenClaim := { program := "ytnbihejoglgdhaadoor", sum := "3ca96e1bb8d8391df76a6754268245bf6459e9ea5ed3e6e034e3e9e106ea4cad", func := "loop.example/fieldroots/laws.FnBestChoice", spec := "fnBestChoice", unfollowed := true, recurses := true, named := ["math/bits.deBruijn32tab", "math/bits.deBruijn64tab"], apart := false, laid := [("math/bits.deBruijn32tab", laid_math_bits_deBruijn32tab), ("math/bits.deBruijn64tab", laid_math_bits_deBruijn64tab)] }
def FnBestChoiceSaid : Prop := fnBestChoiceRow.holds Tryd.pinned (OpenSpec.ofChange fnBestChoiceSpec)

/-- ITS FALSE NEIGHBOUR: 'it returns false'. Refute it at one input. -/
def fnBestChoiceWrong : ChangeSpec := { name := "fnBestChoice", fn := fun _ => fun
  | [d] => { results := [.lit (.bool false)], args := [d] }
  | _ => none }
def FnBestChoiceWrongFalsely : Prop := fnBestChoiceRow.holds Tryd.pinned (OpenSpec.ofChange fnBestChoiceWrong)

/-- 'laws.FnForksOf': WHATEVER THE INPUT: true; the input reads as it did. -/
def fnForksOfSpec : ChangeSpec := { name := "fnForksOf", fn := fun _ => fun
  | [d] => { results := [.lit (.bool true)], args := [d] }
  | _ => none }
def fnForksOfRow : OpenClaim := { program := "ytnbihejoglgdhaadoor", sum := "3ca96e1bb8d8391df76a6754268245bf6459e9ea5ed3e6e034e3e9e106ea4cad", func := "loop.example/fieldroots/laws.FnForksOf", spec := "fnForksOf", named := ["math/bits.deBruijn32tab", "math/bits.deBruijn64tab"], apart := false, laid := [("math/bits.deBruijn32tab", laid_math_bits_deBruijn32tab), ("math/bits.deBruijn64tab", laid_math_bits_deBruijn64tab)] }
def FnForksOfSaid : Prop := fnForksOfRow.holds Tryd.pinned (OpenSpec.ofChange fnForksOfSpec)

/-- ITS FALSE NEIGHBOUR: 'it returns false'. Refute it at one input. -/
def fnForksOfWrong : ChangeSpec := { name := "fnForksOf", fn := fun _ => fun
  | [d] => { results := [.lit (.bool false)], args := [d] }
  | _ => none }
def FnForksOfWrongFalsely : Prop := fnForksOfRow.holds Tryd.pinned (OpenSpec.ofChange fnForksOfWrong)

/-- 'laws.FnChoiceSmall': WHATEVER THE INPUT: true; the input reads as it did. -/
def fnChoiceSmallSpec : ChangeSpec := { name := "fnChoiceSmall", fn := fun _ => fun
  | [d] => { results := [.lit (.bool true)], args := [d] }
  | _ => none }
def fnChoiceSmallRow : OpenClaim := { program := "ytnbihejoglgdhaadoor", sum := "3ca96e1bb8d8391df76a6754268245bf6459e9ea5ed3e6e034e3e9e106ea4cad", func := "loop.example/fieldroots/laws.FnChoiceSmall", spec := "fnChoiceSmall", unfollowed := true, recurses := true, named := ["math/bits.deBruijn32tab", "math/bits.deBruijn64tab"], apart := false, laid := [("math/bits.deBruijn32tab", laid_math_bits_deBruijn32tab), ("math/bits.deBruijn64tab", laid_math_bits_deBruijn64tab)] }
def FnChoiceSmallSaid : Prop := fnChoiceSmallRow.holds Tryd.pinned (OpenSpec.ofChange fnChoiceSmallSpec)

/-- ITS FALSE NEIGHBOUR: 'it returns false'. Refute it at one input. -/
def fnChoiceSmallWrong : ChangeSpec := { name := "fnChoiceSmall", fn := fun _ => fun
  | [d] => { results := [.lit (.bool false)], args := [d] }
  | _ => none }
def FnChoiceSmallWrongFalsely : Prop := fnChoiceSmallRow.holds Tryd.pinned (OpenSpec.ofChange fnChoiceSmallWrong)

/-- 'laws.FnExactSpanOn': WHATEVER THE INPUT: true; the input reads as it did. -/
def fnExactSpanOnSpec : ChangeSpec := { name := "fnExactSpanOn", fn := fun _ => fun
  | [d1, d2] => { results := [.lit (.bool true)], args := [d1, d2] }
  | _ => none }
def fnExactSpanOnRow : OpenClaim := { program := "ytnbihejoglgdhaadoor", sum := "3ca96e1bb8d8391df76a6754268245bf6459e9ea5ed3e6e034e3e9e106ea4cad", func := "loop.example/fieldroots/laws.FnExactSpanOn", spec := "fnExactSpanOn", unfollowed := true, recurses := true, named := ["math/bits.deBruijn32tab", "math/bits.deBruijn64tab"], apart := false, laid := [("math/bits.deBruijn32tab", laid_math_bits_deBruijn32tab), ("math/bits.deBruijn64tab", laid_math_bits_deBruijn64tab)] }
def FnExactSpanOnSaid : Prop := fnExactSpanOnRow.holds Tryd.pinned (OpenSpec.ofChange fnExactSpanOnSpec)

/-- ITS FALSE NEIGHBOUR: 'it returns false'. Refute it at one input. -/
def fnExactSpanOnWrong : ChangeSpec := { name := "fnExactSpanOn", fn := fun _ => fun
  | [d1, d2] => { results := [.lit (.bool false)], args := [d1, d2] }
  | _ => none }
def FnExactSpanOnWrongFalsely : Prop := fnExactSpanOnRow.holds Tryd.pinned (OpenSpec.ofChange fnExactSpanOnWrong)

/-- 'laws.FnExactChosenCost': WHATEVER THE INPUT: true; the input reads as it did. -/
def fnExactChosenCostSpec : ChangeSpec := { name := "fnExactChosenCost", fn := fun _ => fun
  | [d1, d2, d3] => { results := [.lit (.bool true)], args := [d1, d2, d3] }
  | _ => none }
def fnExactChosenCostRow : OpenClaim := { program := "ytnbihejoglgdhaadoor", sum := "3ca96e1bb8d8391df76a6754268245bf6459e9ea5ed3e6e034e3e9e106ea4cad", func := "loop.example/fieldroots/laws.FnExactChosenCost", spec := "fnExactChosenCost", unfollowed := true, recurses := true, named := ["math/bits.deBruijn32tab", "math/bits.deBruijn64tab"], apart := false, laid := [("math/bits.deBruijn32tab", laid_math_bits_deBruijn32tab), ("math/bits.deBruijn64tab", laid_math_bits_deBruijn64tab)] }
def FnExactChosenCostSaid : Prop := fnExactChosenCostRow.holds Tryd.pinned (OpenSpec.ofChange fnExactChosenCostSpec)

/-- ITS FALSE NEIGHBOUR: 'it returns false'. Refute it at one input. -/
def fnExactChosenCostWrong : ChangeSpec := { name := "fnExactChosenCost", fn := fun _ => fun
  | [d1, d2, d3] => { results := [.lit (.bool false)], args := [d1, d2, d3] }
  | _ => none }
def FnExactChosenCostWrongFalsely : Prop := fnExactChosenCostRow.holds Tryd.pinned (OpenSpec.ofChange fnExactChosenCostWrong)

/-- 'laws.FnExactBestChoice': WHATEVER THE INPUT: true; the input reads as it did. -/
def fnExactBestChoiceSpec : ChangeSpec := { name := "fnExactBestChoice", fn := fun _ => fun
  | [d1, d2] => { results := [.lit (.bool true)], args := [d1, d2] }
  | _ => none }
def fnExactBestChoiceRow : OpenClaim := { program := "ytnbihejoglgdhaadoor", sum := "3ca96e1bb8d8391df76a6754268245bf6459e9ea5ed3e6e034e3e9e106ea4cad", func := "loop.example/fieldroots/laws.FnExactBestChoice", spec := "fnExactBestChoice", unfollowed := true, recurses := true, named := ["math/bits.deBruijn32tab", "math/bits.deBruijn64tab"], apart := false, laid := [("math/bits.deBruijn32tab", laid_math_bits_deBruijn32tab), ("math/bits.deBruijn64tab", laid_math_bits_deBruijn64tab)] }
def FnExactBestChoiceSaid : Prop := fnExactBestChoiceRow.holds Tryd.pinned (OpenSpec.ofChange fnExactBestChoiceSpec)

/-- ITS FALSE NEIGHBOUR: 'it returns false'. Refute it at one input. -/
def fnExactBestChoiceWrong : ChangeSpec := { name := "fnExactBestChoice", fn := fun _ => fun
  | [d1, d2] => { results := [.lit (.bool false)], args := [d1, d2] }
  | _ => none }
def FnExactBestChoiceWrongFalsely : Prop := fnExactBestChoiceRow.holds Tryd.pinned (OpenSpec.ofChange fnExactBestChoiceWrong)

/- THE SECOND FORM. 'bulk': how many values and letters a reading holds, each counted each time it is reached (what is shared counts as often as it is met; a slice's spare places count too). A statement '..UptoSaid' is the law's where the arguments, and the package variables that the reading takes, are together of bulk at most 1048576: NARROWER than '..Said'. Prove '..Said' where nothing that the law and all that it calls make is longer than what came in: it says more and counts as full. Else prove '..UptoSaid'. A law counts once. -/
mutual
def uptoBulk {H : Type} : DataW H → Nat
  | .lit (.string bytes) => bytes.length + 1
  | .lit _ => 1
  | .nil => 1
  | .ptr d => uptoBulk d + 1
  | .slice elems spare => uptoBulkAll elems + uptoBulkAll spare + 1
  | .agg parts => uptoBulkAll parts + 1
  | .iface _ d => uptoBulk d + 1
  | .map entries => uptoBulkEntries entries + 1
  | .held _ => 1
def uptoBulkAll {H : Type} : List (DataW H) → Nat
  | [] => 0
  | d :: r => uptoBulk d + uptoBulkAll r
def uptoBulkEntries {H : Type} : List (Lit × DataW H) → Nat
  | [] => 0
  | x :: r => uptoBulkEntry x + uptoBulkEntries r
def uptoBulkEntry {H : Type} : Lit × DataW H → Nat
  | (.string bytes, d) => bytes.length + uptoBulk d + 1
  | (_, d) => uptoBulk d + 1
 end
def uptoSmall : (H : Type) → List (DataW H) → Bool := fun _ ds => decide (uptoBulkAll ds ≤ 1048576)
def OpenSpec.upto (s : _root_.Go.ChangeSpec) : _root_.Go.OpenSpec := { _root_.Go.OpenSpec.ofChange s with cond := some uptoSmall }

/-- 'laws.FnSpanOn', WHERE WHAT IT READS IS OF BULK AT MOST 1048576: true; the input reads as it did. -/
def fnSpanOnUptoRow : OpenClaim := { program := "ytnbihejoglgdhaadoor", sum := "3ca96e1bb8d8391df76a6754268245bf6459e9ea5ed3e6e034e3e9e106ea4cad", func := "loop.example/fieldroots/laws.FnSpanOn", spec := "fnSpanOn", unfollowed := true, recurses := true, named := ["math/bits.deBruijn32tab", "math/bits.deBruijn64tab"], apart := false, laid := [("math/bits.deBruijn32tab", laid_math_bits_deBruijn32tab), ("math/bits.deBruijn64tab", laid_math_bits_deBruijn64tab)], narrowed := true }
def FnSpanOnUptoSaid : Prop := fnSpanOnUptoRow.holds Tryd.pinned (OpenSpec.upto fnSpanOnSpec)

/-- 'laws.FnChosenCost', WHERE WHAT IT READS IS OF BULK AT MOST 1048576: true; the input reads as it did. -/
def fnChosenCostUptoRow : OpenClaim := { program := "ytnbihejoglgdhaadoor", sum := "3ca96e1bb8d8391df76a6754268245bf6459e9ea5ed3e6e034e3e9e106ea4cad", func := "loop.example/fieldroots/laws.FnChosenCost", spec := "fnChosenCost", unfollowed := true, recurses := true, named := ["math/bits.deBruijn32tab", "math/bits.deBruijn64tab"], apart := false, laid := [("math/bits.deBruijn32tab", laid_math_bits_deBruijn32tab), ("math/bits.deBruijn64tab", laid_math_bits_deBruijn64tab)], narrowed := true }
def FnChosenCostUptoSaid : Prop := fnChosenCostUptoRow.holds Tryd.pinned (OpenSpec.upto fnChosenCostSpec)

/-- 'laws.FnBestChoice', WHERE WHAT IT READS IS OF BULK AT MOST 1048576: true; the input reads as it did. -/
def fnBestChoiceUptoRow : OpenClaim := { program := "ytnbihejoglgdhaadoor", sum := "3ca96e1bb8d8391df76a6754268245bf6459e9ea5ed3e6e034e3e9e106ea4cad", func := "loop.example/fieldroots/laws.FnBestChoice", spec := "fnBestChoice", unfollowed := true, recurses := true, named := ["math/bits.deBruijn32tab", "math/bits.deBruijn64tab"], apart := false, laid := [("math/bits.deBruijn32tab", laid_math_bits_deBruijn32tab), ("math/bits.deBruijn64tab", laid_math_bits_deBruijn64tab)], narrowed := true }
def FnBestChoiceUptoSaid : Prop := fnBestChoiceUptoRow.holds Tryd.pinned (OpenSpec.upto fnBestChoiceSpec)

/-- 'laws.FnForksOf', WHERE WHAT IT READS IS OF BULK AT MOST 1048576: true; the input reads as it did. -/
def fnForksOfUptoRow : OpenClaim := { program := "ytnbihejoglgdhaadoor", sum := "3ca96e1bb8d8391df76a6754268245bf6459e9ea5ed3e6e034e3e9e106ea4cad", func := "loop.example/fieldroots/laws.FnForksOf", spec := "fnForksOf", named := ["math/bits.deBruijn32tab", "math/bits.deBruijn64tab"], apart := false, laid := [("math/bits.deBruijn32tab", laid_math_bits_deBruijn32tab), ("math/bits.deBruijn64tab", laid_math_bits_deBruijn64tab)], narrowed := true }
def FnForksOfUptoSaid : Prop := fnForksOfUptoRow.holds Tryd.pinned (OpenSpec.upto fnForksOfSpec)

/-- 'laws.FnChoiceSmall', WHERE WHAT IT READS IS OF BULK AT MOST 1048576: true; the input reads as it did. -/
def fnChoiceSmallUptoRow : OpenClaim := { program := "ytnbihejoglgdhaadoor", sum := "3ca96e1bb8d8391df76a6754268245bf6459e9ea5ed3e6e034e3e9e106ea4cad", func := "loop.example/fieldroots/laws.FnChoiceSmall", spec := "fnChoiceSmall", unfollowed := true, recurses := true, named := ["math/bits.deBruijn32tab", "math/bits.deBruijn64tab"], apart := false, laid := [("math/bits.deBruijn32tab", laid_math_bits_deBruijn32tab), ("math/bits.deBruijn64tab", laid_math_bits_deBruijn64tab)], narrowed := true }
def FnChoiceSmallUptoSaid : Prop := fnChoiceSmallUptoRow.holds Tryd.pinned (OpenSpec.upto fnChoiceSmallSpec)

/-- 'laws.FnExactSpanOn', WHERE WHAT IT READS IS OF BULK AT MOST 1048576: true; the input reads as it did. -/
def fnExactSpanOnUptoRow : OpenClaim := { program := "ytnbihejoglgdhaadoor", sum := "3ca96e1bb8d8391df76a6754268245bf6459e9ea5ed3e6e034e3e9e106ea4cad", func := "loop.example/fieldroots/laws.FnExactSpanOn", spec := "fnExactSpanOn", unfollowed := true, recurses := true, named := ["math/bits.deBruijn32tab", "math/bits.deBruijn64tab"], apart := false, laid := [("math/bits.deBruijn32tab", laid_math_bits_deBruijn32tab), ("math/bits.deBruijn64tab", laid_math_bits_deBruijn64tab)], narrowed := true }
def FnExactSpanOnUptoSaid : Prop := fnExactSpanOnUptoRow.holds Tryd.pinned (OpenSpec.upto fnExactSpanOnSpec)

/-- 'laws.FnExactChosenCost', WHERE WHAT IT READS IS OF BULK AT MOST 1048576: true; the input reads as it did. -/
def fnExactChosenCostUptoRow : OpenClaim := { program := "ytnbihejoglgdhaadoor", sum := "3ca96e1bb8d8391df76a6754268245bf6459e9ea5ed3e6e034e3e9e106ea4cad", func := "loop.example/fieldroots/laws.FnExactChosenCost", spec := "fnExactChosenCost", unfollowed := true, recurses := true, named := ["math/bits.deBruijn32tab", "math/bits.deBruijn64tab"], apart := false, laid := [("math/bits.deBruijn32tab", laid_math_bits_deBruijn32tab), ("math/bits.deBruijn64tab", laid_math_bits_deBruijn64tab)], narrowed := true }
def FnExactChosenCostUptoSaid : Prop := fnExactChosenCostUptoRow.holds Tryd.pinned (OpenSpec.upto fnExactChosenCostSpec)

/-- 'laws.FnExactBestChoice', WHERE WHAT IT READS IS OF BULK AT MOST 1048576: true; the input reads as it did. -/
def fnExactBestChoiceUptoRow : OpenClaim := { program := "ytnbihejoglgdhaadoor", sum := "3ca96e1bb8d8391df76a6754268245bf6459e9ea5ed3e6e034e3e9e106ea4cad", func := "loop.example/fieldroots/laws.FnExactBestChoice", spec := "fnExactBestChoice", unfollowed := true, recurses := true, named := ["math/bits.deBruijn32tab", "math/bits.deBruijn64tab"], apart := false, laid := [("math/bits.deBruijn32tab", laid_math_bits_deBruijn32tab), ("math/bits.deBruijn64tab", laid_math_bits_deBruijn64tab)], narrowed := true }
def FnExactBestChoiceUptoSaid : Prop := fnExactBestChoiceUptoRow.holds Tryd.pinned (OpenSpec.upto fnExactBestChoiceSpec)

end Rows
end Go.Proofs.YtnbihejoglgdhaaDoor
