/-
  DERIVED. GIVEN WITH THE SEED: THE CARDS: each row of YtnbihejoglgdhaaDoorRows.lean that lists a variable, with what it lists TIED to the program's text (the seventh form; the later family's looks); each row that meets fmt, with fmt's text TOLD by the authors' own Lean function (tested against real Go, not proved from fmt's source: count such statements apart). THE CARD IS WHAT COUNTS. Prove the row's statement (the work); the ties are given (YtnbihejoglgdhaaDoorTie.lean); close each card by the builder's one call (the guide's Derived/Test/ToyasCard.lean, 'card_holds'). Laid BY PROGRAM, IN A SANDBOX (cutbox-door.mjs). By AI agents, Wed Nov 11 2026. No macro, syntax, notation, axiom, sorry.
-/
import Derived.Test.YtnbihejoglgdhaaDoorRows
import GoSem.ClaimSeven
namespace Go.Proofs.YtnbihejoglgdhaaDoor
namespace Rows

/-- THE TIED CARD OF 'laws.FnSpanOn'. -/
def fnSpanOnCard : Claim7 := { stood := { row := fnSpanOnRow, standIns := [], harness := (true, "ff932309706f3a4c3d0a676734a971331f35a7a87f7103a9140ec24559670894"), looks := false }, kinds := [], alts := [], laidByText := true, laidKinds := [.data, .data], laidTests := true, laidLooks := .later }
def FnSpanOnCardSaid : Prop := Claim7.holds Tryd.pinned (.plain (OpenSpec.ofChange fnSpanOnSpec)) fnSpanOnCard

/-- THE TIED CARD OF 'laws.FnChosenCost'. -/
def fnChosenCostCard : Claim7 := { stood := { row := fnChosenCostRow, standIns := [], harness := (true, "ff932309706f3a4c3d0a676734a971331f35a7a87f7103a9140ec24559670894"), looks := false }, kinds := [], alts := [], laidByText := true, laidKinds := [.data, .data], laidTests := true, laidLooks := .later }
def FnChosenCostCardSaid : Prop := Claim7.holds Tryd.pinned (.plain (OpenSpec.ofChange fnChosenCostSpec)) fnChosenCostCard

/-- THE TIED CARD OF 'laws.FnBestChoice'. -/
def fnBestChoiceCard : Claim7 := { stood := { row := fnBestChoiceRow, standIns := [], harness := (true, "ff932309706f3a4c3d0a676734a971331f35a7a87f7103a9140ec24559670894"), looks := false }, kinds := [], alts := [], laidByText := true, laidKinds := [.data, .data], laidTests := true, laidLooks := .later }
def FnBestChoiceCardSaid : Prop := Claim7.holds Tryd.pinned (.plain (OpenSpec.ofChange fnBestChoiceSpec)) fnBestChoiceCard

/-- THE TIED CARD OF 'laws.FnForksOf'. -/
def fnForksOfCard : Claim7 := { stood := { row := fnForksOfRow, standIns := [], harness := (true, "ff932309706f3a4c3d0a676734a971331f35a7a87f7103a9140ec24559670894"), looks := false }, kinds := [], alts := [], laidByText := true, laidKinds := [.data, .data], laidTests := true, laidLooks := .later }
def FnForksOfCardSaid : Prop := Claim7.holds Tryd.pinned (.plain (OpenSpec.ofChange fnForksOfSpec)) fnForksOfCard

/-- THE TIED CARD OF 'laws.FnChoiceSmall'. -/
def fnChoiceSmallCard : Claim7 := { stood := { row := fnChoiceSmallRow, standIns := [], harness := (true, "ff932309706f3a4c3d0a676734a971331f35a7a87f7103a9140ec24559670894"), looks := false }, kinds := [], alts := [], laidByText := true, laidKinds := [.data, .data], laidTests := true, laidLooks := .later }
def FnChoiceSmallCardSaid : Prop := Claim7.holds Tryd.pinned (.plain (OpenSpec.ofChange fnChoiceSmallSpec)) fnChoiceSmallCard

/-- THE TIED CARD OF 'laws.FnExactSpanOn'. -/
def fnExactSpanOnCard : Claim7 := { stood := { row := fnExactSpanOnRow, standIns := [], harness := (true, "ff932309706f3a4c3d0a676734a971331f35a7a87f7103a9140ec24559670894"), looks := false }, kinds := [], alts := [], laidByText := true, laidKinds := [.data, .data], laidTests := true, laidLooks := .later }
def FnExactSpanOnCardSaid : Prop := Claim7.holds Tryd.pinned (.plain (OpenSpec.ofChange fnExactSpanOnSpec)) fnExactSpanOnCard

/-- THE TIED CARD OF 'laws.FnExactChosenCost'. -/
def fnExactChosenCostCard : Claim7 := { stood := { row := fnExactChosenCostRow, standIns := [], harness := (true, "ff932309706f3a4c3d0a676734a971331f35a7a87f7103a9140ec24559670894"), looks := false }, kinds := [], alts := [], laidByText := true, laidKinds := [.data, .data], laidTests := true, laidLooks := .later }
def FnExactChosenCostCardSaid : Prop := Claim7.holds Tryd.pinned (.plain (OpenSpec.ofChange fnExactChosenCostSpec)) fnExactChosenCostCard

/-- THE TIED CARD OF 'laws.FnExactBestChoice'. -/
def fnExactBestChoiceCard : Claim7 := { stood := { row := fnExactBestChoiceRow, standIns := [], harness := (true, "ff932309706f3a4c3d0a676734a971331f35a7a87f7103a9140ec24559670894"), looks := false }, kinds := [], alts := [], laidByText := true, laidKinds := [.data, .data], laidTests := true, laidLooks := .later }
def FnExactBestChoiceCardSaid : Prop := Claim7.holds Tryd.pinned (.plain (OpenSpec.ofChange fnExactBestChoiceSpec)) fnExactBestChoiceCard

/-- THE SECOND FORM's CARD OF 'laws.FnSpanOn'. -/
def fnSpanOnUptoCard : Claim7 := { stood := { row := fnSpanOnUptoRow, standIns := [], harness := (true, "ff932309706f3a4c3d0a676734a971331f35a7a87f7103a9140ec24559670894"), looks := false }, kinds := [], alts := [], laidByText := true, laidKinds := [.data, .data], laidTests := true, laidLooks := .later }
def FnSpanOnUptoCardSaid : Prop := Claim7.holds Tryd.pinned (.plain (OpenSpec.upto fnSpanOnSpec)) fnSpanOnUptoCard

/-- THE SECOND FORM's CARD OF 'laws.FnChosenCost'. -/
def fnChosenCostUptoCard : Claim7 := { stood := { row := fnChosenCostUptoRow, standIns := [], harness := (true, "ff932309706f3a4c3d0a676734a971331f35a7a87f7103a9140ec24559670894"), looks := false }, kinds := [], alts := [], laidByText := true, laidKinds := [.data, .data], laidTests := true, laidLooks := .later }
def FnChosenCostUptoCardSaid : Prop := Claim7.holds Tryd.pinned (.plain (OpenSpec.upto fnChosenCostSpec)) fnChosenCostUptoCard

/-- THE SECOND FORM's CARD OF 'laws.FnBestChoice'. -/
def fnBestChoiceUptoCard : Claim7 := { stood := { row := fnBestChoiceUptoRow, standIns := [], harness := (true, "ff932309706f3a4c3d0a676734a971331f35a7a87f7103a9140ec24559670894"), looks := false }, kinds := [], alts := [], laidByText := true, laidKinds := [.data, .data], laidTests := true, laidLooks := .later }
def FnBestChoiceUptoCardSaid : Prop := Claim7.holds Tryd.pinned (.plain (OpenSpec.upto fnBestChoiceSpec)) fnBestChoiceUptoCard

/-- THE SECOND FORM's CARD OF 'laws.FnForksOf'. -/
def fnForksOfUptoCard : Claim7 := { stood := { row := fnForksOfUptoRow, standIns := [], harness := (true, "ff932309706f3a4c3d0a676734a971331f35a7a87f7103a9140ec24559670894"), looks := false }, kinds := [], alts := [], laidByText := true, laidKinds := [.data, .data], laidTests := true, laidLooks := .later }
def FnForksOfUptoCardSaid : Prop := Claim7.holds Tryd.pinned (.plain (OpenSpec.upto fnForksOfSpec)) fnForksOfUptoCard

/-- THE SECOND FORM's CARD OF 'laws.FnChoiceSmall'. -/
def fnChoiceSmallUptoCard : Claim7 := { stood := { row := fnChoiceSmallUptoRow, standIns := [], harness := (true, "ff932309706f3a4c3d0a676734a971331f35a7a87f7103a9140ec24559670894"), looks := false }, kinds := [], alts := [], laidByText := true, laidKinds := [.data, .data], laidTests := true, laidLooks := .later }
def FnChoiceSmallUptoCardSaid : Prop := Claim7.holds Tryd.pinned (.plain (OpenSpec.upto fnChoiceSmallSpec)) fnChoiceSmallUptoCard

/-- THE SECOND FORM's CARD OF 'laws.FnExactSpanOn'. -/
def fnExactSpanOnUptoCard : Claim7 := { stood := { row := fnExactSpanOnUptoRow, standIns := [], harness := (true, "ff932309706f3a4c3d0a676734a971331f35a7a87f7103a9140ec24559670894"), looks := false }, kinds := [], alts := [], laidByText := true, laidKinds := [.data, .data], laidTests := true, laidLooks := .later }
def FnExactSpanOnUptoCardSaid : Prop := Claim7.holds Tryd.pinned (.plain (OpenSpec.upto fnExactSpanOnSpec)) fnExactSpanOnUptoCard

/-- THE SECOND FORM's CARD OF 'laws.FnExactChosenCost'. -/
def fnExactChosenCostUptoCard : Claim7 := { stood := { row := fnExactChosenCostUptoRow, standIns := [], harness := (true, "ff932309706f3a4c3d0a676734a971331f35a7a87f7103a9140ec24559670894"), looks := false }, kinds := [], alts := [], laidByText := true, laidKinds := [.data, .data], laidTests := true, laidLooks := .later }
def FnExactChosenCostUptoCardSaid : Prop := Claim7.holds Tryd.pinned (.plain (OpenSpec.upto fnExactChosenCostSpec)) fnExactChosenCostUptoCard

/-- THE SECOND FORM's CARD OF 'laws.FnExactBestChoice'. -/
def fnExactBestChoiceUptoCard : Claim7 := { stood := { row := fnExactBestChoiceUptoRow, standIns := [], harness := (true, "ff932309706f3a4c3d0a676734a971331f35a7a87f7103a9140ec24559670894"), looks := false }, kinds := [], alts := [], laidByText := true, laidKinds := [.data, .data], laidTests := true, laidLooks := .later }
def FnExactBestChoiceUptoCardSaid : Prop := Claim7.holds Tryd.pinned (.plain (OpenSpec.upto fnExactBestChoiceSpec)) fnExactBestChoiceUptoCard
end Rows
end Go.Proofs.YtnbihejoglgdhaaDoor
