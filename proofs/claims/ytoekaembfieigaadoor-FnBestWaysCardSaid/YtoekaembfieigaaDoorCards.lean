/-
  DERIVED. GIVEN WITH THE SEED: THE CARDS: each row of YtoekaembfieigaaDoorRows.lean that lists a variable, with what it lists TIED to the program's text (the seventh form; the later family's looks); each row that meets fmt, with fmt's text TOLD by the authors' own Lean function (tested against real Go, not proved from fmt's source: count such statements apart). THE CARD IS WHAT COUNTS. Prove the row's statement (the work); the ties are given (YtoekaembfieigaaDoorTie.lean); close each card by the builder's one call (the guide's Derived/Test/ToyasCard.lean, 'card_holds'). Laid BY PROGRAM, IN A SANDBOX (cutbox-door.mjs). By AI agents, Wed Nov 11 2026. No macro, syntax, notation, axiom, sorry.
-/
import Derived.Test.YtoekaembfieigaaDoorRows
import GoSem.ClaimSeven
namespace Go.Proofs.YtoekaembfieigaaDoor
namespace Rows

/-- THE TIED CARD OF 'laws.FnBestWays'. -/
def fnBestWaysCard : Claim7 := { stood := { row := fnBestWaysRow, standIns := [], harness := (true, "40ce0e186fda422150aac961dc90331a103c7eb1fc210d10b83a9b6311b1c27c"), looks := false }, kinds := [], alts := [], laidByText := true, laidKinds := [.data, .data], laidTests := true, laidLooks := .later }
def FnBestWaysCardSaid : Prop := Claim7.holds Tryd.pinned (.plain (OpenSpec.ofChange fnBestWaysSpec)) fnBestWaysCard

/-- THE SECOND FORM's CARD OF 'laws.FnBestWays'. -/
def fnBestWaysUptoCard : Claim7 := { stood := { row := fnBestWaysUptoRow, standIns := [], harness := (true, "40ce0e186fda422150aac961dc90331a103c7eb1fc210d10b83a9b6311b1c27c"), looks := false }, kinds := [], alts := [], laidByText := true, laidKinds := [.data, .data], laidTests := true, laidLooks := .later }
def FnBestWaysUptoCardSaid : Prop := Claim7.holds Tryd.pinned (.plain (OpenSpec.upto fnBestWaysSpec)) fnBestWaysUptoCard
end Rows
end Go.Proofs.YtoekaembfieigaaDoor
