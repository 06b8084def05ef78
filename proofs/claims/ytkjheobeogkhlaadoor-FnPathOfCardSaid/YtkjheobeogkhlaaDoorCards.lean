/-
  DERIVED. GIVEN WITH THE SEED: THE CARDS: each row of YtkjheobeogkhlaaDoorRows.lean that lists a variable, with what it lists TIED to the program's text (the seventh form; the later family's looks); each row that meets fmt, with fmt's text TOLD by the authors' own Lean function (tested against real Go, not proved from fmt's source: count such statements apart). THE CARD IS WHAT COUNTS. Prove the row's statement (the work); the ties are given (YtkjheobeogkhlaaDoorTie.lean); close each card by the builder's one call (the guide's Derived/Test/ToyasCard.lean, 'card_holds'). Laid BY PROGRAM, IN A SANDBOX (cutbox-door.mjs). By AI agents, Wed Nov 11 2026. No macro, syntax, notation, axiom, sorry.
-/
import Derived.Test.YtkjheobeogkhlaaDoorRows
import GoSem.ClaimSeven
namespace Go.Proofs.YtkjheobeogkhlaaDoor
namespace Rows

/-- THE TIED CARD OF 'laws.FnPruned'. -/
def fnPrunedCard : Claim7 := { stood := { row := fnPrunedRow, standIns := [], harness := (true, "3fb9bc3ca657d67cba7c28ae3c724cf324ae7d5acf2a3c7d024496f5796b470c"), looks := false }, kinds := [], alts := [], laidByText := true, laidKinds := [.data, .data], laidTests := true, laidLooks := .later }
def FnPrunedCardSaid : Prop := Claim7.holds Tryd.pinned (.plain (OpenSpec.ofChange fnPrunedSpec)) fnPrunedCard

/-- THE TIED CARD OF 'laws.FnExactSpanTree'. -/
def fnExactSpanTreeCard : Claim7 := { stood := { row := fnExactSpanTreeRow, standIns := [], harness := (true, "3fb9bc3ca657d67cba7c28ae3c724cf324ae7d5acf2a3c7d024496f5796b470c"), looks := false }, kinds := [], alts := [], laidByText := true, laidKinds := [.data, .data], laidTests := true, laidLooks := .later }
def FnExactSpanTreeCardSaid : Prop := Claim7.holds Tryd.pinned (.plain (OpenSpec.ofChange fnExactSpanTreeSpec)) fnExactSpanTreeCard

/-- THE TIED CARD OF 'laws.FnExactSpanCost'. -/
def fnExactSpanCostCard : Claim7 := { stood := { row := fnExactSpanCostRow, standIns := [], harness := (true, "3fb9bc3ca657d67cba7c28ae3c724cf324ae7d5acf2a3c7d024496f5796b470c"), looks := false }, kinds := [], alts := [], laidByText := true, laidKinds := [.data, .data], laidTests := true, laidLooks := .later }
def FnExactSpanCostCardSaid : Prop := Claim7.holds Tryd.pinned (.plain (OpenSpec.ofChange fnExactSpanCostSpec)) fnExactSpanCostCard

/-- THE TIED CARD OF 'laws.FnSpanTree'. -/
def fnSpanTreeCard : Claim7 := { stood := { row := fnSpanTreeRow, standIns := [], harness := (true, "3fb9bc3ca657d67cba7c28ae3c724cf324ae7d5acf2a3c7d024496f5796b470c"), looks := false }, kinds := [], alts := [], laidByText := true, laidKinds := [.data, .data], laidTests := true, laidLooks := .later }
def FnSpanTreeCardSaid : Prop := Claim7.holds Tryd.pinned (.plain (OpenSpec.ofChange fnSpanTreeSpec)) fnSpanTreeCard

/-- THE TIED CARD OF 'laws.FnSpanCost'. -/
def fnSpanCostCard : Claim7 := { stood := { row := fnSpanCostRow, standIns := [], harness := (true, "3fb9bc3ca657d67cba7c28ae3c724cf324ae7d5acf2a3c7d024496f5796b470c"), looks := false }, kinds := [], alts := [], laidByText := true, laidKinds := [.data, .data], laidTests := true, laidLooks := .later }
def FnSpanCostCardSaid : Prop := Claim7.holds Tryd.pinned (.plain (OpenSpec.ofChange fnSpanCostSpec)) fnSpanCostCard

/-- THE TIED CARD OF 'laws.FnSpanCycle'. -/
def fnSpanCycleCard : Claim7 := { stood := { row := fnSpanCycleRow, standIns := [], harness := (true, "3fb9bc3ca657d67cba7c28ae3c724cf324ae7d5acf2a3c7d024496f5796b470c"), looks := false }, kinds := [], alts := [], laidByText := true, laidKinds := [.data, .data], laidTests := true, laidLooks := .later }
def FnSpanCycleCardSaid : Prop := Claim7.holds Tryd.pinned (.plain (OpenSpec.ofChange fnSpanCycleSpec)) fnSpanCycleCard

/-- THE TIED CARD OF 'laws.FnSpanDearer'. -/
def fnSpanDearerCard : Claim7 := { stood := { row := fnSpanDearerRow, standIns := [], harness := (true, "3fb9bc3ca657d67cba7c28ae3c724cf324ae7d5acf2a3c7d024496f5796b470c"), looks := false }, kinds := [], alts := [], laidByText := true, laidKinds := [.data, .data], laidTests := true, laidLooks := .later }
def FnSpanDearerCardSaid : Prop := Claim7.holds Tryd.pinned (.plain (OpenSpec.ofChange fnSpanDearerSpec)) fnSpanDearerCard

/-- THE TIED CARD OF 'laws.FnSpanMany'. -/
def fnSpanManyCard : Claim7 := { stood := { row := fnSpanManyRow, standIns := [], harness := (true, "3fb9bc3ca657d67cba7c28ae3c724cf324ae7d5acf2a3c7d024496f5796b470c"), looks := false }, kinds := [], alts := [], laidByText := true, laidKinds := [.data, .data], laidTests := true, laidLooks := .later }
def FnSpanManyCardSaid : Prop := Claim7.holds Tryd.pinned (.plain (OpenSpec.ofChange fnSpanManySpec)) fnSpanManyCard

/-- THE TIED CARD OF 'laws.FnBridgeWays'. -/
def fnBridgeWaysCard : Claim7 := { stood := { row := fnBridgeWaysRow, standIns := [], harness := (true, "3fb9bc3ca657d67cba7c28ae3c724cf324ae7d5acf2a3c7d024496f5796b470c"), looks := false }, kinds := [], alts := [], laidByText := true, laidKinds := [.data, .data], laidTests := true, laidLooks := .later }
def FnBridgeWaysCardSaid : Prop := Claim7.holds Tryd.pinned (.plain (OpenSpec.ofChange fnBridgeWaysSpec)) fnBridgeWaysCard

/-- THE TIED CARD OF 'laws.FnExactPartsOf'. -/
def fnExactPartsOfCard : Claim7 := { stood := { row := fnExactPartsOfRow, standIns := [], harness := (true, "3fb9bc3ca657d67cba7c28ae3c724cf324ae7d5acf2a3c7d024496f5796b470c"), looks := false }, kinds := [], alts := [], laidByText := true, laidKinds := [.data, .data], laidTests := true, laidLooks := .later }
def FnExactPartsOfCardSaid : Prop := Claim7.holds Tryd.pinned (.plain (OpenSpec.ofChange fnExactPartsOfSpec)) fnExactPartsOfCard

/-- THE TIED CARD OF 'laws.FnPartsOf'. -/
def fnPartsOfCard : Claim7 := { stood := { row := fnPartsOfRow, standIns := [], harness := (true, "3fb9bc3ca657d67cba7c28ae3c724cf324ae7d5acf2a3c7d024496f5796b470c"), looks := false }, kinds := [], alts := [], laidByText := true, laidKinds := [.data, .data], laidTests := true, laidLooks := .later }
def FnPartsOfCardSaid : Prop := Claim7.holds Tryd.pinned (.plain (OpenSpec.ofChange fnPartsOfSpec)) fnPartsOfCard

/-- THE TIED CARD OF 'laws.FnPathOf'. -/
def fnPathOfCard : Claim7 := { stood := { row := fnPathOfRow, standIns := [], harness := (true, "3fb9bc3ca657d67cba7c28ae3c724cf324ae7d5acf2a3c7d024496f5796b470c"), looks := false }, kinds := [], alts := [], laidByText := true, laidKinds := [.data, .data], laidTests := true, laidLooks := .later }
def FnPathOfCardSaid : Prop := Claim7.holds Tryd.pinned (.plain (OpenSpec.ofChange fnPathOfSpec)) fnPathOfCard

/-- THE SECOND FORM's CARD OF 'laws.FnPruned'. -/
def fnPrunedUptoCard : Claim7 := { stood := { row := fnPrunedUptoRow, standIns := [], harness := (true, "3fb9bc3ca657d67cba7c28ae3c724cf324ae7d5acf2a3c7d024496f5796b470c"), looks := false }, kinds := [], alts := [], laidByText := true, laidKinds := [.data, .data], laidTests := true, laidLooks := .later }
def FnPrunedUptoCardSaid : Prop := Claim7.holds Tryd.pinned (.plain (OpenSpec.upto fnPrunedSpec)) fnPrunedUptoCard

/-- THE SECOND FORM's CARD OF 'laws.FnExactSpanTree'. -/
def fnExactSpanTreeUptoCard : Claim7 := { stood := { row := fnExactSpanTreeUptoRow, standIns := [], harness := (true, "3fb9bc3ca657d67cba7c28ae3c724cf324ae7d5acf2a3c7d024496f5796b470c"), looks := false }, kinds := [], alts := [], laidByText := true, laidKinds := [.data, .data], laidTests := true, laidLooks := .later }
def FnExactSpanTreeUptoCardSaid : Prop := Claim7.holds Tryd.pinned (.plain (OpenSpec.upto fnExactSpanTreeSpec)) fnExactSpanTreeUptoCard

/-- THE SECOND FORM's CARD OF 'laws.FnExactSpanCost'. -/
def fnExactSpanCostUptoCard : Claim7 := { stood := { row := fnExactSpanCostUptoRow, standIns := [], harness := (true, "3fb9bc3ca657d67cba7c28ae3c724cf324ae7d5acf2a3c7d024496f5796b470c"), looks := false }, kinds := [], alts := [], laidByText := true, laidKinds := [.data, .data], laidTests := true, laidLooks := .later }
def FnExactSpanCostUptoCardSaid : Prop := Claim7.holds Tryd.pinned (.plain (OpenSpec.upto fnExactSpanCostSpec)) fnExactSpanCostUptoCard

/-- THE SECOND FORM's CARD OF 'laws.FnSpanTree'. -/
def fnSpanTreeUptoCard : Claim7 := { stood := { row := fnSpanTreeUptoRow, standIns := [], harness := (true, "3fb9bc3ca657d67cba7c28ae3c724cf324ae7d5acf2a3c7d024496f5796b470c"), looks := false }, kinds := [], alts := [], laidByText := true, laidKinds := [.data, .data], laidTests := true, laidLooks := .later }
def FnSpanTreeUptoCardSaid : Prop := Claim7.holds Tryd.pinned (.plain (OpenSpec.upto fnSpanTreeSpec)) fnSpanTreeUptoCard

/-- THE SECOND FORM's CARD OF 'laws.FnSpanCost'. -/
def fnSpanCostUptoCard : Claim7 := { stood := { row := fnSpanCostUptoRow, standIns := [], harness := (true, "3fb9bc3ca657d67cba7c28ae3c724cf324ae7d5acf2a3c7d024496f5796b470c"), looks := false }, kinds := [], alts := [], laidByText := true, laidKinds := [.data, .data], laidTests := true, laidLooks := .later }
def FnSpanCostUptoCardSaid : Prop := Claim7.holds Tryd.pinned (.plain (OpenSpec.upto fnSpanCostSpec)) fnSpanCostUptoCard

/-- THE SECOND FORM's CARD OF 'laws.FnSpanCycle'. -/
def fnSpanCycleUptoCard : Claim7 := { stood := { row := fnSpanCycleUptoRow, standIns := [], harness := (true, "3fb9bc3ca657d67cba7c28ae3c724cf324ae7d5acf2a3c7d024496f5796b470c"), looks := false }, kinds := [], alts := [], laidByText := true, laidKinds := [.data, .data], laidTests := true, laidLooks := .later }
def FnSpanCycleUptoCardSaid : Prop := Claim7.holds Tryd.pinned (.plain (OpenSpec.upto fnSpanCycleSpec)) fnSpanCycleUptoCard

/-- THE SECOND FORM's CARD OF 'laws.FnSpanDearer'. -/
def fnSpanDearerUptoCard : Claim7 := { stood := { row := fnSpanDearerUptoRow, standIns := [], harness := (true, "3fb9bc3ca657d67cba7c28ae3c724cf324ae7d5acf2a3c7d024496f5796b470c"), looks := false }, kinds := [], alts := [], laidByText := true, laidKinds := [.data, .data], laidTests := true, laidLooks := .later }
def FnSpanDearerUptoCardSaid : Prop := Claim7.holds Tryd.pinned (.plain (OpenSpec.upto fnSpanDearerSpec)) fnSpanDearerUptoCard

/-- THE SECOND FORM's CARD OF 'laws.FnSpanMany'. -/
def fnSpanManyUptoCard : Claim7 := { stood := { row := fnSpanManyUptoRow, standIns := [], harness := (true, "3fb9bc3ca657d67cba7c28ae3c724cf324ae7d5acf2a3c7d024496f5796b470c"), looks := false }, kinds := [], alts := [], laidByText := true, laidKinds := [.data, .data], laidTests := true, laidLooks := .later }
def FnSpanManyUptoCardSaid : Prop := Claim7.holds Tryd.pinned (.plain (OpenSpec.upto fnSpanManySpec)) fnSpanManyUptoCard

/-- THE SECOND FORM's CARD OF 'laws.FnBridgeWays'. -/
def fnBridgeWaysUptoCard : Claim7 := { stood := { row := fnBridgeWaysUptoRow, standIns := [], harness := (true, "3fb9bc3ca657d67cba7c28ae3c724cf324ae7d5acf2a3c7d024496f5796b470c"), looks := false }, kinds := [], alts := [], laidByText := true, laidKinds := [.data, .data], laidTests := true, laidLooks := .later }
def FnBridgeWaysUptoCardSaid : Prop := Claim7.holds Tryd.pinned (.plain (OpenSpec.upto fnBridgeWaysSpec)) fnBridgeWaysUptoCard

/-- THE SECOND FORM's CARD OF 'laws.FnExactPartsOf'. -/
def fnExactPartsOfUptoCard : Claim7 := { stood := { row := fnExactPartsOfUptoRow, standIns := [], harness := (true, "3fb9bc3ca657d67cba7c28ae3c724cf324ae7d5acf2a3c7d024496f5796b470c"), looks := false }, kinds := [], alts := [], laidByText := true, laidKinds := [.data, .data], laidTests := true, laidLooks := .later }
def FnExactPartsOfUptoCardSaid : Prop := Claim7.holds Tryd.pinned (.plain (OpenSpec.upto fnExactPartsOfSpec)) fnExactPartsOfUptoCard

/-- THE SECOND FORM's CARD OF 'laws.FnPartsOf'. -/
def fnPartsOfUptoCard : Claim7 := { stood := { row := fnPartsOfUptoRow, standIns := [], harness := (true, "3fb9bc3ca657d67cba7c28ae3c724cf324ae7d5acf2a3c7d024496f5796b470c"), looks := false }, kinds := [], alts := [], laidByText := true, laidKinds := [.data, .data], laidTests := true, laidLooks := .later }
def FnPartsOfUptoCardSaid : Prop := Claim7.holds Tryd.pinned (.plain (OpenSpec.upto fnPartsOfSpec)) fnPartsOfUptoCard

/-- THE SECOND FORM's CARD OF 'laws.FnPathOf'. -/
def fnPathOfUptoCard : Claim7 := { stood := { row := fnPathOfUptoRow, standIns := [], harness := (true, "3fb9bc3ca657d67cba7c28ae3c724cf324ae7d5acf2a3c7d024496f5796b470c"), looks := false }, kinds := [], alts := [], laidByText := true, laidKinds := [.data, .data], laidTests := true, laidLooks := .later }
def FnPathOfUptoCardSaid : Prop := Claim7.holds Tryd.pinned (.plain (OpenSpec.upto fnPathOfSpec)) fnPathOfUptoCard
end Rows
end Go.Proofs.YtkjheobeogkhlaaDoor
