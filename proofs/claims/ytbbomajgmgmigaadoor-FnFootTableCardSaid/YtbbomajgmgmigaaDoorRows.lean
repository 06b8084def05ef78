/-
  NARROWER THAN 'FOR EVERY INPUT', by the rows' own cells (each row's printed sentence says how): FnRootCost: laid · FnAllRoots: laid · FnRootJoin: laid · FnRootGrow: laid · FnFootTable: laid · FnFarTable: laid.
  DERIVED. THE GIVEN ROWS OF THIS SEAT. 6 by the template 'for every input the law returns true; each argument reads behind the call as it read before'; 0 by the template 'total and deterministic' (their statements: YtbbomajgmgmigaaDoorTotals.lean).
  GIVEN WITH THE SEED: the statements are not yours to turn. If you find one false, say at which input.
  Laid BY PROGRAM, IN A SANDBOX (cutbox-rows.mjs): the forced cells as the released guide's own fill.sh prints them over the translation ad2682bba9a5e039… (all of the seat's roots in one cut). By AI agents, Wed Nov 11 2026. No macro, syntax, notation, axiom, sorry.
-/
import Derived.Test.YtbbomajgmgmigaaDoorChecked
import GoSem.Claim
import GoSem.ClaimJoined
import GoSem.ClaimMapViews
import Derived.JoinedTies
import Derived.KernelRfl
namespace Go.Proofs.YtbbomajgmgmigaaDoor
/- THE CELL 'sum', in the pinned program and in every row, IS THE sha256 OF THE DUMP (.gsa) THAT YtbbomajgmgmigaaDoorProg.lean LOADS. Nothing in Lean hashes anything: it is a label: what it is worth is what the hold of that sum in a sandbox is worth. -/
noncomputable def Tryd.pinned : Pinned := { name := "ytbbomajgmgmigaadoor", sum := "ad2682bba9a5e03947a2589affc0963ebec4529fccb21b1e3f79eedf42b3d5e4", checked := Tryd.checked }
namespace Rows
def none {H : Type} : Left H := { results := [], args := [] }

/- WHAT THE LISTED PACKAGE-LEVEL VARIABLES READ AS WHEN THE CALL BEGINS. Each datum BY PROGRAM (the guide's laid-datum.mjs) off the statement by which the dump's own 'gosem.cut.vars' lays the variable. In a bare row this is a premise. The card (YtbbomajgmgmigaaDoorCards.lean) ties it to the program's text. -/
def laid_math_bits_deBruijn32tab {H : Type} : DataW H := .agg [.lit (.int .u8 0), .lit (.int .u8 1), .lit (.int .u8 28), .lit (.int .u8 2), .lit (.int .u8 29), .lit (.int .u8 14), .lit (.int .u8 24), .lit (.int .u8 3), .lit (.int .u8 30), .lit (.int .u8 22), .lit (.int .u8 20), .lit (.int .u8 15), .lit (.int .u8 25), .lit (.int .u8 17), .lit (.int .u8 4), .lit (.int .u8 8), .lit (.int .u8 31), .lit (.int .u8 27), .lit (.int .u8 13), .lit (.int .u8 23), .lit (.int .u8 21), .lit (.int .u8 19), .lit (.int .u8 16), .lit (.int .u8 7), .lit (.int .u8 26), .lit (.int .u8 12), .lit (.int .u8 18), .lit (.int .u8 6), .lit (.int .u8 11), .lit (.int .u8 5), .lit (.int .u8 10), .lit (.int .u8 9)]
def laid_math_bits_deBruijn64tab {H : Type} : DataW H := .agg [.lit (.int .u8 0), .lit (.int .u8 1), .lit (.int .u8 56), .lit (.int .u8 2), .lit (.int .u8 57), .lit (.int .u8 49), .lit (.int .u8 28), .lit (.int .u8 3), .lit (.int .u8 61), .lit (.int .u8 58), .lit (.int .u8 42), .lit (.int .u8 50), .lit (.int .u8 38), .lit (.int .u8 29), .lit (.int .u8 17), .lit (.int .u8 4), .lit (.int .u8 62), .lit (.int .u8 47), .lit (.int .u8 59), .lit (.int .u8 36), .lit (.int .u8 45), .lit (.int .u8 43), .lit (.int .u8 51), .lit (.int .u8 22), .lit (.int .u8 53), .lit (.int .u8 39), .lit (.int .u8 33), .lit (.int .u8 30), .lit (.int .u8 24), .lit (.int .u8 18), .lit (.int .u8 12), .lit (.int .u8 5), .lit (.int .u8 63), .lit (.int .u8 55), .lit (.int .u8 48), .lit (.int .u8 27), .lit (.int .u8 60), .lit (.int .u8 41), .lit (.int .u8 37), .lit (.int .u8 16), .lit (.int .u8 46), .lit (.int .u8 35), .lit (.int .u8 44), .lit (.int .u8 21), .lit (.int .u8 52), .lit (.int .u8 32), .lit (.int .u8 23), .lit (.int .u8 11), .lit (.int .u8 54), .lit (.int .u8 26), .lit (.int .u8 40), .lit (.int .u8 15), .lit (.int .u8 34), .lit (.int .u8 20), .lit (.int .u8 31), .lit (.int .u8 10), .lit (.int .u8 25), .lit (.int .u8 14), .lit (.int .u8 19), .lit (.int .u8 9), .lit (.int .u8 13), .lit (.int .u8 8), .lit (.int .u8 7), .lit (.int .u8 6)]

/-- 'laws.FnRootCost': WHATEVER THE INPUT: true; the input reads as it did. -/
def fnRootCostSpec : ChangeSpec := { name := "fnRootCost", fn := fun _ => fun
  | [d1, d2] => { results := [.lit (.bool true)], args := [d1, d2] }
  | _ => none }
def fnRootCostRow : OpenClaim := { program := "ytbbomajgmgmigaadoor", sum := "ad2682bba9a5e03947a2589affc0963ebec4529fccb21b1e3f79eedf42b3d5e4", func := "loop.example/fieldroots/laws.FnRootCost", spec := "fnRootCost", unfollowed := true, recurses := true, named := ["math/bits.deBruijn32tab", "math/bits.deBruijn64tab"], apart := false, laid := [("math/bits.deBruijn32tab", laid_math_bits_deBruijn32tab), ("math/bits.deBruijn64tab", laid_math_bits_deBruijn64tab)] }
def FnRootCostSaid : Prop := fnRootCostRow.holds Tryd.pinned (OpenSpec.ofChange fnRootCostSpec)

/-- ITS FALSE NEIGHBOUR: 'it returns false'. Refute it at one input. -/
def fnRootCostWrong : ChangeSpec := { name := "fnRootCost", fn := fun _ => fun
  | [d1, d2] => { results := [.lit (.bool false)], args := [d1, d2] }
  | _ => none }
def FnRootCostWrongFalsely : Prop := fnRootCostRow.holds Tryd.pinned (OpenSpec.ofChange fnRootCostWrong)

/-- 'laws.FnAllRoots': WHATEVER THE INPUT: true; the input reads as it did. -/
def fnAllRootsSpec : ChangeSpec := { name := "fnAllRoots", fn := fun _ => fun
  | [d] => { results := [.lit (.bool true)], args := [d] }
  | _ => none }
def fnAllRootsRow : OpenClaim := { program := "ytbbomajgmgmigaadoor", sum := "ad2682bba9a5e03947a2589affc0963ebec4529fccb21b1e3f79eedf42b3d5e4", func := "loop.example/fieldroots/laws.FnAllRoots", spec := "fnAllRoots", named := ["math/bits.deBruijn32tab", "math/bits.deBruijn64tab"], apart := false, laid := [("math/bits.deBruijn32tab", laid_math_bits_deBruijn32tab), ("math/bits.deBruijn64tab", laid_math_bits_deBruijn64tab)] }
def FnAllRootsSaid : Prop := fnAllRootsRow.holds Tryd.pinned (OpenSpec.ofChange fnAllRootsSpec)

/-- ITS FALSE NEIGHBOUR: 'it returns false'. Refute it at one input. -/
def fnAllRootsWrong : ChangeSpec := { name := "fnAllRoots", fn := fun _ => fun
  | [d] => { results := [.lit (.bool false)], args := [d] }
  | _ => none }
def FnAllRootsWrongFalsely : Prop := fnAllRootsRow.holds Tryd.pinned (OpenSpec.ofChange fnAllRootsWrong)

/-- 'laws.FnRootJoin': WHATEVER THE INPUT: true; the input reads as it did. -/
def fnRootJoinSpec : ChangeSpec := { name := "fnRootJoin", fn := fun _ => fun
  | [d1, d2] => { results := [.lit (.bool true)], args := [d1, d2] }
  | _ => none }
def fnRootJoinRow : OpenClaim := { program := "ytbbomajgmgmigaadoor", sum := "ad2682bba9a5e03947a2589affc0963ebec4529fccb21b1e3f79eedf42b3d5e4", func := "loop.example/fieldroots/laws.FnRootJoin", spec := "fnRootJoin", named := ["math/bits.deBruijn32tab", "math/bits.deBruijn64tab"], apart := false, laid := [("math/bits.deBruijn32tab", laid_math_bits_deBruijn32tab), ("math/bits.deBruijn64tab", laid_math_bits_deBruijn64tab)] }
def FnRootJoinSaid : Prop := fnRootJoinRow.holds Tryd.pinned (OpenSpec.ofChange fnRootJoinSpec)

/-- ITS FALSE NEIGHBOUR: 'it returns false'. Refute it at one input. -/
def fnRootJoinWrong : ChangeSpec := { name := "fnRootJoin", fn := fun _ => fun
  | [d1, d2] => { results := [.lit (.bool false)], args := [d1, d2] }
  | _ => none }
def FnRootJoinWrongFalsely : Prop := fnRootJoinRow.holds Tryd.pinned (OpenSpec.ofChange fnRootJoinWrong)

/-- 'laws.FnRootGrow': WHATEVER THE INPUT: true; the input reads as it did. -/
def fnRootGrowSpec : ChangeSpec := { name := "fnRootGrow", fn := fun _ => fun
  | [d] => { results := [.lit (.bool true)], args := [d] }
  | _ => none }
def fnRootGrowRow : OpenClaim := { program := "ytbbomajgmgmigaadoor", sum := "ad2682bba9a5e03947a2589affc0963ebec4529fccb21b1e3f79eedf42b3d5e4", func := "loop.example/fieldroots/laws.FnRootGrow", spec := "fnRootGrow", named := ["math/bits.deBruijn32tab", "math/bits.deBruijn64tab"], apart := false, laid := [("math/bits.deBruijn32tab", laid_math_bits_deBruijn32tab), ("math/bits.deBruijn64tab", laid_math_bits_deBruijn64tab)] }
def FnRootGrowSaid : Prop := fnRootGrowRow.holds Tryd.pinned (OpenSpec.ofChange fnRootGrowSpec)

/-- ITS FALSE NEIGHBOUR: 'it returns false'. Refute it at one input. -/
def fnRootGrowWrong : ChangeSpec := { name := "fnRootGrow", fn := fun _ => fun
  | [d] => { results := [.lit (.bool false)], args := [d] }
  | _ => none }
def FnRootGrowWrongFalsely : Prop := fnRootGrowRow.holds Tryd.pinned (OpenSpec.ofChange fnRootGrowWrong)

/-- 'laws.FnFootTable': WHATEVER THE INPUT: true; the input reads as it did. -/
def fnFootTableSpec : ChangeSpec := { name := "fnFootTable", fn := fun _ => fun
  | [d] => { results := [.lit (.bool true)], args := [d] }
  | _ => none }
def fnFootTableRow : OpenClaim := { program := "ytbbomajgmgmigaadoor", sum := "ad2682bba9a5e03947a2589affc0963ebec4529fccb21b1e3f79eedf42b3d5e4", func := "loop.example/fieldroots/laws.FnFootTable", spec := "fnFootTable", named := ["math/bits.deBruijn32tab", "math/bits.deBruijn64tab"], apart := false, laid := [("math/bits.deBruijn32tab", laid_math_bits_deBruijn32tab), ("math/bits.deBruijn64tab", laid_math_bits_deBruijn64tab)] }
def FnFootTableSaid : Prop := fnFootTableRow.holds Tryd.pinned (OpenSpec.ofChange fnFootTableSpec)

/-- ITS FALSE NEIGHBOUR: 'it returns false'. Refute it at one input. -/
def fnFootTableWrong : ChangeSpec := { name := "fnFootTable", fn := fun _ => fun
  | [d] => { results := [.lit (.bool false)], args := [d] }
  | _ => none }
def FnFootTableWrongFalsely : Prop := fnFootTableRow.holds Tryd.pinned (OpenSpec.ofChange fnFootTableWrong)

/-- 'laws.FnFarTable': WHATEVER THE INPUT: true; the input reads as it did. -/
def fnFarTableSpec : ChangeSpec := { name := "fnFarTable", fn := fun _ => fun
  | [d] => { results := [.lit (.bool true)], args := [d] }
  | _ => none }
def fnFarTableRow : OpenClaim := { program := "ytbbomajgmgmigaadoor", sum := "ad2682bba9a5e03947a2589affc0963ebec4529fccb21b1e3f79eedf42b3d5e4", func := "loop.example/fieldroots/laws.FnFarTable", spec := "fnFarTable", named := ["math/bits.deBruijn32tab", "math/bits.deBruijn64tab"], apart := false, laid := [("math/bits.deBruijn32tab", laid_math_bits_deBruijn32tab), ("math/bits.deBruijn64tab", laid_math_bits_deBruijn64tab)] }
def FnFarTableSaid : Prop := fnFarTableRow.holds Tryd.pinned (OpenSpec.ofChange fnFarTableSpec)

/-- ITS FALSE NEIGHBOUR: 'it returns false'. Refute it at one input. -/
def fnFarTableWrong : ChangeSpec := { name := "fnFarTable", fn := fun _ => fun
  | [d] => { results := [.lit (.bool false)], args := [d] }
  | _ => none }
def FnFarTableWrongFalsely : Prop := fnFarTableRow.holds Tryd.pinned (OpenSpec.ofChange fnFarTableWrong)

/- THE SECOND FORM. 'bulk': how many values and letters a reading holds, each counted each time it is reached (what is shared counts as often as it is met; a slice's spare places count too). A statement '..UptoSaid' is the law's where the arguments, and the package variables that the reading takes, are together of bulk at most 1048576: NARROWER than '..Said'. Prove '..Said' where nothing that the law and all that it calls make is longer than what came in: it says more and counts as full. Else prove '..UptoSaid'. A law counts once. -/
mutual
def uptoBulk {H : Type} : DataW H → Nat
  | .lit (.string bytes) => bytes.length + 1
  | .lit _ => 1
  | .nil => 1
  | .ptr d => uptoBulk d + 1
  | .slice elems spare => uptoBulkAll elems + uptoBulkAll spare + 1
  | .agg parts => uptoBulkAll parts + 1
  | .iface _ d => uptoBulk d + 1
  | .map entries => uptoBulkEntries entries + 1
  | .held _ => 1
def uptoBulkAll {H : Type} : List (DataW H) → Nat
  | [] => 0
  | d :: r => uptoBulk d + uptoBulkAll r
def uptoBulkEntries {H : Type} : List (Lit × DataW H) → Nat
  | [] => 0
  | x :: r => uptoBulkEntry x + uptoBulkEntries r
def uptoBulkEntry {H : Type} : Lit × DataW H → Nat
  | (.string bytes, d) => bytes.length + uptoBulk d + 1
  | (_, d) => uptoBulk d + 1
 end
def uptoSmall : (H : Type) → List (DataW H) → Bool := fun _ ds => decide (uptoBulkAll ds ≤ 1048576)
def OpenSpec.upto (s : _root_.Go.ChangeSpec) : _root_.Go.OpenSpec := { _root_.Go.OpenSpec.ofChange s with cond := some uptoSmall }

/-- 'laws.FnRootCost', WHERE WHAT IT READS IS OF BULK AT MOST 1048576: true; the input reads as it did. -/
def fnRootCostUptoRow : OpenClaim := { program := "ytbbomajgmgmigaadoor", sum := "ad2682bba9a5e03947a2589affc0963ebec4529fccb21b1e3f79eedf42b3d5e4", func := "loop.example/fieldroots/laws.FnRootCost", spec := "fnRootCost", unfollowed := true, recurses := true, named := ["math/bits.deBruijn32tab", "math/bits.deBruijn64tab"], apart := false, laid := [("math/bits.deBruijn32tab", laid_math_bits_deBruijn32tab), ("math/bits.deBruijn64tab", laid_math_bits_deBruijn64tab)], narrowed := true }
def FnRootCostUptoSaid : Prop := fnRootCostUptoRow.holds Tryd.pinned (OpenSpec.upto fnRootCostSpec)

/-- 'laws.FnAllRoots', WHERE WHAT IT READS IS OF BULK AT MOST 1048576: true; the input reads as it did. -/
def fnAllRootsUptoRow : OpenClaim := { program := "ytbbomajgmgmigaadoor", sum := "ad2682bba9a5e03947a2589affc0963ebec4529fccb21b1e3f79eedf42b3d5e4", func := "loop.example/fieldroots/laws.FnAllRoots", spec := "fnAllRoots", named := ["math/bits.deBruijn32tab", "math/bits.deBruijn64tab"], apart := false, laid := [("math/bits.deBruijn32tab", laid_math_bits_deBruijn32tab), ("math/bits.deBruijn64tab", laid_math_bits_deBruijn64tab)], narrowed := true }
def FnAllRootsUptoSaid : Prop := fnAllRootsUptoRow.holds Tryd.pinned (OpenSpec.upto fnAllRootsSpec)

/-- 'laws.FnRootJoin', WHERE WHAT IT READS IS OF BULK AT MOST 1048576: true; the input reads as it did. -/
def fnRootJoinUptoRow : OpenClaim := { program := "ytbbomajgmgmigaadoor", sum := "ad2682bba9a5e03947a2589affc0963ebec4529fccb21b1e3f79eedf42b3d5e4", func := "loop.example/fieldroots/laws.FnRootJoin", spec := "fnRootJoin", named := ["math/bits.deBruijn32tab", "math/bits.deBruijn64tab"], apart := false, laid := [("math/bits.deBruijn32tab", laid_math_bits_deBruijn32tab), ("math/bits.deBruijn64tab", laid_math_bits_deBruijn64tab)], narrowed := true }
def FnRootJoinUptoSaid : Prop := fnRootJoinUptoRow.holds Tryd.pinned (OpenSpec.upto fnRootJoinSpec)

/-- 'laws.FnRootGrow', WHERE WHAT IT READS IS OF BULK AT MOST 1048576: true; the input reads as it did. -/
def fnRootGrowUptoRow : OpenClaim := { program := "ytbbomajgmgmigaadoor", sum := "ad2682bba9a5e03947a2589affc0963ebec4529fccb21b1e3f79eedf42b3d5e4", func := "loop.example/fieldroots/laws.FnRootGrow", spec := "fnRootGrow", named := ["math/bits.deBruijn32tab", "math/bits.deBruijn64tab"], apart := false, laid := [("math/bits.deBruijn32tab", laid_math_bits_deBruijn32tab), ("math/bits.deBruijn64tab", laid_math_bits_deBruijn64tab)], narrowed := true }
def FnRootGrowUptoSaid : Prop := fnRootGrowUptoRow.holds Tryd.pinned (OpenSpec.upto fnRootGrowSpec)

/-- 'laws.FnFootTable', WHERE WHAT IT READS IS OF BULK AT MOST 1048576: true; the input reads as it did. -/
def fnFootTableUptoRow : OpenClaim := { program := "ytbbomajgmgmigaadoor", sum := "ad2682bba9a5e03947a2589affc0963ebec4529fccb21b1e3f79eedf42b3d5e4", func := "loop.example/fieldroots/laws.FnFootTable", spec := "fnFootTable", named := ["math/bits.deBruijn32tab", "math/bits.deBruijn64tab"], apart := false, laid := [("math/bits.deBruijn32tab", laid_math_bits_deBruijn32tab), ("math/bits.deBruijn64tab", laid_math_bits_deBruijn64tab)], narrowed := true }
def FnFootTableUptoSaid : Prop := fnFootTableUptoRow.holds Tryd.pinned (OpenSpec.upto fnFootTableSpec)

/-- 'laws.FnFarTable', WHERE WHAT IT READS IS OF BULK AT MOST 1048576: true; the input reads as it did. -/
def fnFarTableUptoRow : OpenClaim := { program := "ytbbomajgmgmigaadoor", sum := "ad2682bba9a5e03947a2589affc0963ebec4529fccb21b1e3f79eedf42b3d5e4", func := "loop.example/fieldroots/laws.FnFarTable", spec := "fnFarTable", named := ["math/bits.deBruijn32tab", "math/bits.deBruijn64tab"], apart := false, laid := [("math/bits.deBruijn32tab", laid_math_bits_deBruijn32tab), ("math/bits.deBruijn64tab", laid_math_bits_deBruijn64tab)], narrowed := true }
def FnFarTableUptoSaid : Prop := fnFarTableUptoRow.holds Tryd.pinned (OpenSpec.upto fnFarTableSpec)

end Rows
end Go.Proofs.YtbbomajgmgmigaaDoor
