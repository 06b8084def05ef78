/-
  DERIVED. GIVEN WITH THE SEED: THE CARDS: each row of YtimccjmphdkbjaaDoorRows.lean that lists a variable, with what it lists TIED to the program's text (the seventh form; the later family's looks); each row that meets fmt, with fmt's text TOLD by the authors' own Lean function (tested against real Go, not proved from fmt's source: count such statements apart). THE CARD IS WHAT COUNTS. Prove the row's statement (the work); the ties are given (YtimccjmphdkbjaaDoorTie.lean); close each card by the builder's one call (the guide's Derived/Test/ToyasCard.lean, 'card_holds'). Laid BY PROGRAM, IN A SANDBOX (cutbox-door.mjs). By AI agents, Wed Nov 11 2026. No macro, syntax, notation, axiom, sorry.
-/
import Derived.Test.YtimccjmphdkbjaaDoorRows
import GoSem.ClaimSeven
namespace Go.Proofs.YtimccjmphdkbjaaDoor
namespace Rows

/-- THE TIED CARD OF 'laws.FnLinksOk'. -/
def fnLinksOkCard : Claim7 := { stood := { row := fnLinksOkRow, standIns := [], harness := (true, "9ff132e952eeeb463ef0077099e216fd85a0a9fe73b2122b547f3958fe94f5b2"), looks := false }, kinds := [], alts := [], laidByText := true, laidKinds := [.data, .data], laidTests := true, laidLooks := .later }
def FnLinksOkCardSaid : Prop := Claim7.holds Tryd.pinned (.plain (OpenSpec.ofChange fnLinksOkSpec)) fnLinksOkCard

/-- THE TIED CARD OF 'laws.FnCodeOf'. -/
def fnCodeOfCard : Claim7 := { stood := { row := fnCodeOfRow, standIns := [], harness := (true, "9ff132e952eeeb463ef0077099e216fd85a0a9fe73b2122b547f3958fe94f5b2"), looks := false }, kinds := [], alts := [], laidByText := true, laidKinds := [.data, .data], laidTests := true, laidLooks := .later }
def FnCodeOfCardSaid : Prop := Claim7.holds Tryd.pinned (.plain (OpenSpec.ofChange fnCodeOfSpec)) fnCodeOfCard

/-- THE TIED CARD OF 'laws.FnTreeOfCode'. -/
def fnTreeOfCodeCard : Claim7 := { stood := { row := fnTreeOfCodeRow, standIns := [], harness := (true, "9ff132e952eeeb463ef0077099e216fd85a0a9fe73b2122b547f3958fe94f5b2"), looks := false }, kinds := [], alts := [], laidByText := true, laidKinds := [.data, .data], laidTests := true, laidLooks := .later }
def FnTreeOfCodeCardSaid : Prop := Claim7.holds Tryd.pinned (.plain (OpenSpec.ofChange fnTreeOfCodeSpec)) fnTreeOfCodeCard

/-- THE TIED CARD OF 'laws.FnTreesMany'. -/
def fnTreesManyCard : Claim7 := { stood := { row := fnTreesManyRow, standIns := [], harness := (true, "9ff132e952eeeb463ef0077099e216fd85a0a9fe73b2122b547f3958fe94f5b2"), looks := false }, kinds := [], alts := [], laidByText := true, laidKinds := [.data, .data], laidTests := true, laidLooks := .later }
def FnTreesManyCardSaid : Prop := Claim7.holds Tryd.pinned (.plain (OpenSpec.ofChange fnTreesManySpec)) fnTreesManyCard

/-- THE TIED CARD OF 'laws.FnExactLinksOk'. -/
def fnExactLinksOkCard : Claim7 := { stood := { row := fnExactLinksOkRow, standIns := [], harness := (true, "9ff132e952eeeb463ef0077099e216fd85a0a9fe73b2122b547f3958fe94f5b2"), looks := false }, kinds := [], alts := [], laidByText := true, laidKinds := [.data, .data], laidTests := true, laidLooks := .later }
def FnExactLinksOkCardSaid : Prop := Claim7.holds Tryd.pinned (.plain (OpenSpec.ofChange fnExactLinksOkSpec)) fnExactLinksOkCard

/-- THE TIED CARD OF 'laws.FnExactCodeOf'. -/
def fnExactCodeOfCard : Claim7 := { stood := { row := fnExactCodeOfRow, standIns := [], harness := (true, "9ff132e952eeeb463ef0077099e216fd85a0a9fe73b2122b547f3958fe94f5b2"), looks := false }, kinds := [], alts := [], laidByText := true, laidKinds := [.data, .data], laidTests := true, laidLooks := .later }
def FnExactCodeOfCardSaid : Prop := Claim7.holds Tryd.pinned (.plain (OpenSpec.ofChange fnExactCodeOfSpec)) fnExactCodeOfCard

/-- THE SECOND FORM's CARD OF 'laws.FnLinksOk'. -/
def fnLinksOkUptoCard : Claim7 := { stood := { row := fnLinksOkUptoRow, standIns := [], harness := (true, "9ff132e952eeeb463ef0077099e216fd85a0a9fe73b2122b547f3958fe94f5b2"), looks := false }, kinds := [], alts := [], laidByText := true, laidKinds := [.data, .data], laidTests := true, laidLooks := .later }
def FnLinksOkUptoCardSaid : Prop := Claim7.holds Tryd.pinned (.plain (OpenSpec.upto fnLinksOkSpec)) fnLinksOkUptoCard

/-- THE SECOND FORM's CARD OF 'laws.FnCodeOf'. -/
def fnCodeOfUptoCard : Claim7 := { stood := { row := fnCodeOfUptoRow, standIns := [], harness := (true, "9ff132e952eeeb463ef0077099e216fd85a0a9fe73b2122b547f3958fe94f5b2"), looks := false }, kinds := [], alts := [], laidByText := true, laidKinds := [.data, .data], laidTests := true, laidLooks := .later }
def FnCodeOfUptoCardSaid : Prop := Claim7.holds Tryd.pinned (.plain (OpenSpec.upto fnCodeOfSpec)) fnCodeOfUptoCard

/-- THE SECOND FORM's CARD OF 'laws.FnTreeOfCode'. -/
def fnTreeOfCodeUptoCard : Claim7 := { stood := { row := fnTreeOfCodeUptoRow, standIns := [], harness := (true, "9ff132e952eeeb463ef0077099e216fd85a0a9fe73b2122b547f3958fe94f5b2"), looks := false }, kinds := [], alts := [], laidByText := true, laidKinds := [.data, .data], laidTests := true, laidLooks := .later }
def FnTreeOfCodeUptoCardSaid : Prop := Claim7.holds Tryd.pinned (.plain (OpenSpec.upto fnTreeOfCodeSpec)) fnTreeOfCodeUptoCard

/-- THE SECOND FORM's CARD OF 'laws.FnTreesMany'. -/
def fnTreesManyUptoCard : Claim7 := { stood := { row := fnTreesManyUptoRow, standIns := [], harness := (true, "9ff132e952eeeb463ef0077099e216fd85a0a9fe73b2122b547f3958fe94f5b2"), looks := false }, kinds := [], alts := [], laidByText := true, laidKinds := [.data, .data], laidTests := true, laidLooks := .later }
def FnTreesManyUptoCardSaid : Prop := Claim7.holds Tryd.pinned (.plain (OpenSpec.upto fnTreesManySpec)) fnTreesManyUptoCard

/-- THE SECOND FORM's CARD OF 'laws.FnExactLinksOk'. -/
def fnExactLinksOkUptoCard : Claim7 := { stood := { row := fnExactLinksOkUptoRow, standIns := [], harness := (true, "9ff132e952eeeb463ef0077099e216fd85a0a9fe73b2122b547f3958fe94f5b2"), looks := false }, kinds := [], alts := [], laidByText := true, laidKinds := [.data, .data], laidTests := true, laidLooks := .later }
def FnExactLinksOkUptoCardSaid : Prop := Claim7.holds Tryd.pinned (.plain (OpenSpec.upto fnExactLinksOkSpec)) fnExactLinksOkUptoCard

/-- THE SECOND FORM's CARD OF 'laws.FnExactCodeOf'. -/
def fnExactCodeOfUptoCard : Claim7 := { stood := { row := fnExactCodeOfUptoRow, standIns := [], harness := (true, "9ff132e952eeeb463ef0077099e216fd85a0a9fe73b2122b547f3958fe94f5b2"), looks := false }, kinds := [], alts := [], laidByText := true, laidKinds := [.data, .data], laidTests := true, laidLooks := .later }
def FnExactCodeOfUptoCardSaid : Prop := Claim7.holds Tryd.pinned (.plain (OpenSpec.upto fnExactCodeOfSpec)) fnExactCodeOfUptoCard
end Rows
end Go.Proofs.YtimccjmphdkbjaaDoor
