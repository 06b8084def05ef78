/-
  DERIVED. GIVEN WITH THE SEED: THE CARDS: each row of YthadehgpeafniabDoorRows.lean that lists a variable, with what it lists TIED to the program's text (the seventh form; the later family's looks); each row that meets fmt, with fmt's text TOLD by the authors' own Lean function (tested against real Go, not proved from fmt's source: count such statements apart). THE CARD IS WHAT COUNTS. Prove the row's statement (the work); the ties are given (YthadehgpeafniabDoorTie.lean); close each card by the builder's one call (the guide's Derived/Test/ToyasCard.lean, 'card_holds'). Laid BY PROGRAM, IN A SANDBOX (cutbox-door.mjs). By AI agents, Wed Nov 11 2026. No macro, syntax, notation, axiom, sorry.
-/
import Derived.Test.YthadehgpeafniabDoorRows
import GoSem.ClaimSeven
namespace Go.Proofs.YthadehgpeafniabDoor
namespace Rows

/-- THE TIED CARD OF 'laws.FnExactCentreOf'. -/
def fnExactCentreOfCard : Claim7 := { stood := { row := fnExactCentreOfRow, standIns := [], harness := (true, "e26e875de5b012d7e42f7c53e31fd264c4987e104b1621f04be75135c12270b6"), looks := false }, kinds := [], alts := [], laidByText := true, laidKinds := [.data, .data], laidTests := true, laidLooks := .later }
def FnExactCentreOfCardSaid : Prop := Claim7.holds Tryd.pinned (.plain (OpenSpec.ofChange fnExactCentreOfSpec)) fnExactCentreOfCard

/-- THE SECOND FORM's CARD OF 'laws.FnExactCentreOf'. -/
def fnExactCentreOfUptoCard : Claim7 := { stood := { row := fnExactCentreOfUptoRow, standIns := [], harness := (true, "e26e875de5b012d7e42f7c53e31fd264c4987e104b1621f04be75135c12270b6"), looks := false }, kinds := [], alts := [], laidByText := true, laidKinds := [.data, .data], laidTests := true, laidLooks := .later }
def FnExactCentreOfUptoCardSaid : Prop := Claim7.holds Tryd.pinned (.plain (OpenSpec.upto fnExactCentreOfSpec)) fnExactCentreOfUptoCard
end Rows
end Go.Proofs.YthadehgpeafniabDoor
