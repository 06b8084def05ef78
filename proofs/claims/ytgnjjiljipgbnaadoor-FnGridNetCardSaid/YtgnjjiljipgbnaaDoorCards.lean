/-
  DERIVED. GIVEN WITH THE SEED: THE CARDS: each row of YtgnjjiljipgbnaaDoorRows.lean that lists a variable, with what it lists TIED to the program's text (the seventh form; the later family's looks); each row that meets fmt, with fmt's text TOLD by the authors' own Lean function (tested against real Go, not proved from fmt's source: count such statements apart). THE CARD IS WHAT COUNTS. Prove the row's statement (the work); the ties are given (YtgnjjiljipgbnaaDoorTie.lean); close each card by the builder's one call (the guide's Derived/Test/ToyasCard.lean, 'card_holds'). Laid BY PROGRAM, IN A SANDBOX (cutbox-door.mjs). By AI agents, Wed Nov 11 2026. No macro, syntax, notation, axiom, sorry.
-/
import Derived.Test.YtgnjjiljipgbnaaDoorRows
import GoSem.ClaimSeven
namespace Go.Proofs.YtgnjjiljipgbnaaDoor
namespace Rows

/-- THE TIED CARD OF 'laws.FnGridNet'. -/
def fnGridNetCard : Claim7 := { stood := { row := fnGridNetRow, standIns := [], harness := (true, "5e7b140aba062ab78ec1d5fbb9a1db6d300d4c7094094580b2eb7f4e81256a58"), looks := false }, kinds := [], alts := [], laidByText := true, laidKinds := [.data, .data], laidTests := true, laidLooks := .later }
def FnGridNetCardSaid : Prop := Claim7.holds Tryd.pinned (.plain (OpenSpec.ofChange fnGridNetSpec)) fnGridNetCard

/-- THE SECOND FORM's CARD OF 'laws.FnGridNet'. -/
def fnGridNetUptoCard : Claim7 := { stood := { row := fnGridNetUptoRow, standIns := [], harness := (true, "5e7b140aba062ab78ec1d5fbb9a1db6d300d4c7094094580b2eb7f4e81256a58"), looks := false }, kinds := [], alts := [], laidByText := true, laidKinds := [.data, .data], laidTests := true, laidLooks := .later }
def FnGridNetUptoCardSaid : Prop := Claim7.holds Tryd.pinned (.plain (OpenSpec.upto fnGridNetSpec)) fnGridNetUptoCard
end Rows
end Go.Proofs.YtgnjjiljipgbnaaDoor
