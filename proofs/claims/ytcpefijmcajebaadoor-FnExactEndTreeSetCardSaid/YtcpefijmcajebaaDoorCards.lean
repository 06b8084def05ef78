/-
  DERIVED. GIVEN WITH THE SEED: THE CARDS: each row of YtcpefijmcajebaaDoorRows.lean that lists a variable, with what it lists TIED to the program's text (the seventh form; the later family's looks); each row that meets fmt, with fmt's text TOLD by the authors' own Lean function (tested against real Go, not proved from fmt's source: count such statements apart). THE CARD IS WHAT COUNTS. Prove the row's statement (the work); the ties are given (YtcpefijmcajebaaDoorTie.lean); close each card by the builder's one call (the guide's Derived/Test/ToyasCard.lean, 'card_holds'). Laid BY PROGRAM, IN A SANDBOX (cutbox-door.mjs). By AI agents, Wed Nov 11 2026. No macro, syntax, notation, axiom, sorry.
-/
import Derived.Test.YtcpefijmcajebaaDoorRows
import GoSem.ClaimSeven
namespace Go.Proofs.YtcpefijmcajebaaDoor
namespace Rows

/-- THE TIED CARD OF 'laws.FnEndLinks'. -/
def fnEndLinksCard : Claim7 := { stood := { row := fnEndLinksRow, standIns := [], harness := (true, "cee454521128cc57dd436a012fdb426ee9e443aee30ad7e77913e9bd97aea007"), looks := false }, kinds := [], alts := [], laidByText := true, laidKinds := [.data, .data], laidTests := true, laidLooks := .later }
def FnEndLinksCardSaid : Prop := Claim7.holds Tryd.pinned (.plain (OpenSpec.ofChange fnEndLinksSpec)) fnEndLinksCard

/-- THE TIED CARD OF 'laws.FnEndTreeCost'. -/
def fnEndTreeCostCard : Claim7 := { stood := { row := fnEndTreeCostRow, standIns := [], harness := (true, "cee454521128cc57dd436a012fdb426ee9e443aee30ad7e77913e9bd97aea007"), looks := false }, kinds := [], alts := [], laidByText := true, laidKinds := [.data, .data], laidTests := true, laidLooks := .later }
def FnEndTreeCostCardSaid : Prop := Claim7.holds Tryd.pinned (.plain (OpenSpec.ofChange fnEndTreeCostSpec)) fnEndTreeCostCard

/-- THE TIED CARD OF 'laws.FnEndTreeSet'. -/
def fnEndTreeSetCard : Claim7 := { stood := { row := fnEndTreeSetRow, standIns := [], harness := (true, "cee454521128cc57dd436a012fdb426ee9e443aee30ad7e77913e9bd97aea007"), looks := false }, kinds := [], alts := [], laidByText := true, laidKinds := [.data, .data], laidTests := true, laidLooks := .later }
def FnEndTreeSetCardSaid : Prop := Claim7.holds Tryd.pinned (.plain (OpenSpec.ofChange fnEndTreeSetSpec)) fnEndTreeSetCard

/-- THE TIED CARD OF 'laws.FnEndTreeAll'. -/
def fnEndTreeAllCard : Claim7 := { stood := { row := fnEndTreeAllRow, standIns := [], harness := (true, "cee454521128cc57dd436a012fdb426ee9e443aee30ad7e77913e9bd97aea007"), looks := false }, kinds := [], alts := [], laidByText := true, laidKinds := [.data, .data], laidTests := true, laidLooks := .later }
def FnEndTreeAllCardSaid : Prop := Claim7.holds Tryd.pinned (.plain (OpenSpec.ofChange fnEndTreeAllSpec)) fnEndTreeAllCard

/-- THE TIED CARD OF 'laws.FnExactEndTreeSet'. -/
def fnExactEndTreeSetCard : Claim7 := { stood := { row := fnExactEndTreeSetRow, standIns := [], harness := (true, "cee454521128cc57dd436a012fdb426ee9e443aee30ad7e77913e9bd97aea007"), looks := false }, kinds := [], alts := [], laidByText := true, laidKinds := [.data, .data], laidTests := true, laidLooks := .later }
def FnExactEndTreeSetCardSaid : Prop := Claim7.holds Tryd.pinned (.plain (OpenSpec.ofChange fnExactEndTreeSetSpec)) fnExactEndTreeSetCard

/-- THE SECOND FORM's CARD OF 'laws.FnEndLinks'. -/
def fnEndLinksUptoCard : Claim7 := { stood := { row := fnEndLinksUptoRow, standIns := [], harness := (true, "cee454521128cc57dd436a012fdb426ee9e443aee30ad7e77913e9bd97aea007"), looks := false }, kinds := [], alts := [], laidByText := true, laidKinds := [.data, .data], laidTests := true, laidLooks := .later }
def FnEndLinksUptoCardSaid : Prop := Claim7.holds Tryd.pinned (.plain (OpenSpec.upto fnEndLinksSpec)) fnEndLinksUptoCard

/-- THE SECOND FORM's CARD OF 'laws.FnEndTreeCost'. -/
def fnEndTreeCostUptoCard : Claim7 := { stood := { row := fnEndTreeCostUptoRow, standIns := [], harness := (true, "cee454521128cc57dd436a012fdb426ee9e443aee30ad7e77913e9bd97aea007"), looks := false }, kinds := [], alts := [], laidByText := true, laidKinds := [.data, .data], laidTests := true, laidLooks := .later }
def FnEndTreeCostUptoCardSaid : Prop := Claim7.holds Tryd.pinned (.plain (OpenSpec.upto fnEndTreeCostSpec)) fnEndTreeCostUptoCard

/-- THE SECOND FORM's CARD OF 'laws.FnEndTreeSet'. -/
def fnEndTreeSetUptoCard : Claim7 := { stood := { row := fnEndTreeSetUptoRow, standIns := [], harness := (true, "cee454521128cc57dd436a012fdb426ee9e443aee30ad7e77913e9bd97aea007"), looks := false }, kinds := [], alts := [], laidByText := true, laidKinds := [.data, .data], laidTests := true, laidLooks := .later }
def FnEndTreeSetUptoCardSaid : Prop := Claim7.holds Tryd.pinned (.plain (OpenSpec.upto fnEndTreeSetSpec)) fnEndTreeSetUptoCard

/-- THE SECOND FORM's CARD OF 'laws.FnEndTreeAll'. -/
def fnEndTreeAllUptoCard : Claim7 := { stood := { row := fnEndTreeAllUptoRow, standIns := [], harness := (true, "cee454521128cc57dd436a012fdb426ee9e443aee30ad7e77913e9bd97aea007"), looks := false }, kinds := [], alts := [], laidByText := true, laidKinds := [.data, .data], laidTests := true, laidLooks := .later }
def FnEndTreeAllUptoCardSaid : Prop := Claim7.holds Tryd.pinned (.plain (OpenSpec.upto fnEndTreeAllSpec)) fnEndTreeAllUptoCard

/-- THE SECOND FORM's CARD OF 'laws.FnExactEndTreeSet'. -/
def fnExactEndTreeSetUptoCard : Claim7 := { stood := { row := fnExactEndTreeSetUptoRow, standIns := [], harness := (true, "cee454521128cc57dd436a012fdb426ee9e443aee30ad7e77913e9bd97aea007"), looks := false }, kinds := [], alts := [], laidByText := true, laidKinds := [.data, .data], laidTests := true, laidLooks := .later }
def FnExactEndTreeSetUptoCardSaid : Prop := Claim7.holds Tryd.pinned (.plain (OpenSpec.upto fnExactEndTreeSetSpec)) fnExactEndTreeSetUptoCard
end Rows
end Go.Proofs.YtcpefijmcajebaaDoor
