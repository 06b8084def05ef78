/-
  DERIVED. GIVEN WITH THE SEED: THE CARDS: each row of YtadhkfebokhbcaaDoorRows.lean that lists a variable, with what it lists TIED to the program's text (the seventh form; the later family's looks); each row that meets fmt, with fmt's text TOLD by the authors' own Lean function (tested against real Go, not proved from fmt's source: count such statements apart). THE CARD IS WHAT COUNTS. Prove the row's statement (the work); the ties are given (YtadhkfebokhbcaaDoorTie.lean); close each card by the builder's one call (the guide's Derived/Test/ToyasCard.lean, 'card_holds'). Laid BY PROGRAM, IN A SANDBOX (cutbox-door.mjs). By AI agents, Wed Nov 11 2026. No macro, syntax, notation, axiom, sorry.
-/
import Derived.Test.YtadhkfebokhbcaaDoorRows
import GoSem.ClaimSeven
namespace Go.Proofs.YtadhkfebokhbcaaDoor
namespace Rows

/-- THE TIED CARD OF 'laws.FnExactJoinsEnds'. -/
def fnExactJoinsEndsCard : Claim7 := { stood := { row := fnExactJoinsEndsRow, standIns := [], harness := (true, "9ac7eb4aa511b1764e9b9f779e86c9c4ab98540d219898915c3bfd843744480d"), looks := false }, kinds := [], alts := [], laidByText := true, laidKinds := [.data, .data], laidTests := true, laidLooks := .later }
def FnExactJoinsEndsCardSaid : Prop := Claim7.holds Tryd.pinned (.plain (OpenSpec.ofChange fnExactJoinsEndsSpec)) fnExactJoinsEndsCard

/-- THE TIED CARD OF 'laws.FnJoinsEnds'. -/
def fnJoinsEndsCard : Claim7 := { stood := { row := fnJoinsEndsRow, standIns := [], harness := (true, "9ac7eb4aa511b1764e9b9f779e86c9c4ab98540d219898915c3bfd843744480d"), looks := false }, kinds := [], alts := [], laidByText := true, laidKinds := [.data, .data], laidTests := true, laidLooks := .later }
def FnJoinsEndsCardSaid : Prop := Claim7.holds Tryd.pinned (.plain (OpenSpec.ofChange fnJoinsEndsSpec)) fnJoinsEndsCard

/-- THE TIED CARD OF 'laws.FnExactTreeOk'. -/
def fnExactTreeOkCard : Claim7 := { stood := { row := fnExactTreeOkRow, standIns := [], harness := (true, "9ac7eb4aa511b1764e9b9f779e86c9c4ab98540d219898915c3bfd843744480d"), looks := false }, kinds := [], alts := [], laidByText := true, laidKinds := [.data, .data], laidTests := true, laidLooks := .later }
def FnExactTreeOkCardSaid : Prop := Claim7.holds Tryd.pinned (.plain (OpenSpec.ofChange fnExactTreeOkSpec)) fnExactTreeOkCard

/-- THE TIED CARD OF 'laws.FnTreeOk'. -/
def fnTreeOkCard : Claim7 := { stood := { row := fnTreeOkRow, standIns := [], harness := (true, "9ac7eb4aa511b1764e9b9f779e86c9c4ab98540d219898915c3bfd843744480d"), looks := false }, kinds := [], alts := [], laidByText := true, laidKinds := [.data, .data], laidTests := true, laidLooks := .later }
def FnTreeOkCardSaid : Prop := Claim7.holds Tryd.pinned (.plain (OpenSpec.ofChange fnTreeOkSpec)) fnTreeOkCard

/-- THE TIED CARD OF 'laws.FnExactPartsOf'. -/
def fnExactPartsOfCard : Claim7 := { stood := { row := fnExactPartsOfRow, standIns := [], harness := (true, "9ac7eb4aa511b1764e9b9f779e86c9c4ab98540d219898915c3bfd843744480d"), looks := false }, kinds := [], alts := [], laidByText := true, laidKinds := [.data, .data], laidTests := true, laidLooks := .later }
def FnExactPartsOfCardSaid : Prop := Claim7.holds Tryd.pinned (.plain (OpenSpec.ofChange fnExactPartsOfSpec)) fnExactPartsOfCard

/-- THE TIED CARD OF 'laws.FnPartsOf'. -/
def fnPartsOfCard : Claim7 := { stood := { row := fnPartsOfRow, standIns := [], harness := (true, "9ac7eb4aa511b1764e9b9f779e86c9c4ab98540d219898915c3bfd843744480d"), looks := false }, kinds := [], alts := [], laidByText := true, laidKinds := [.data, .data], laidTests := true, laidLooks := .later }
def FnPartsOfCardSaid : Prop := Claim7.holds Tryd.pinned (.plain (OpenSpec.ofChange fnPartsOfSpec)) fnPartsOfCard

/-- THE TIED CARD OF 'laws.FnLeavesOf'. -/
def fnLeavesOfCard : Claim7 := { stood := { row := fnLeavesOfRow, standIns := [], harness := (true, "9ac7eb4aa511b1764e9b9f779e86c9c4ab98540d219898915c3bfd843744480d"), looks := false }, kinds := [], alts := [], laidByText := true, laidKinds := [.data, .data], laidTests := true, laidLooks := .later }
def FnLeavesOfCardSaid : Prop := Claim7.holds Tryd.pinned (.plain (OpenSpec.ofChange fnLeavesOfSpec)) fnLeavesOfCard

/-- THE TIED CARD OF 'laws.FnExactPruned'. -/
def fnExactPrunedCard : Claim7 := { stood := { row := fnExactPrunedRow, standIns := [], harness := (true, "9ac7eb4aa511b1764e9b9f779e86c9c4ab98540d219898915c3bfd843744480d"), looks := false }, kinds := [], alts := [], laidByText := true, laidKinds := [.data, .data], laidTests := true, laidLooks := .later }
def FnExactPrunedCardSaid : Prop := Claim7.holds Tryd.pinned (.plain (OpenSpec.ofChange fnExactPrunedSpec)) fnExactPrunedCard

/-- THE TIED CARD OF 'laws.FnPruned'. -/
def fnPrunedCard : Claim7 := { stood := { row := fnPrunedRow, standIns := [], harness := (true, "9ac7eb4aa511b1764e9b9f779e86c9c4ab98540d219898915c3bfd843744480d"), looks := false }, kinds := [], alts := [], laidByText := true, laidKinds := [.data, .data], laidTests := true, laidLooks := .later }
def FnPrunedCardSaid : Prop := Claim7.holds Tryd.pinned (.plain (OpenSpec.ofChange fnPrunedSpec)) fnPrunedCard

/-- THE TIED CARD OF 'laws.FnExactPathOf'. -/
def fnExactPathOfCard : Claim7 := { stood := { row := fnExactPathOfRow, standIns := [], harness := (true, "9ac7eb4aa511b1764e9b9f779e86c9c4ab98540d219898915c3bfd843744480d"), looks := false }, kinds := [], alts := [], laidByText := true, laidKinds := [.data, .data], laidTests := true, laidLooks := .later }
def FnExactPathOfCardSaid : Prop := Claim7.holds Tryd.pinned (.plain (OpenSpec.ofChange fnExactPathOfSpec)) fnExactPathOfCard

/-- THE TIED CARD OF 'laws.FnExactBridgeWays'. -/
def fnExactBridgeWaysCard : Claim7 := { stood := { row := fnExactBridgeWaysRow, standIns := [], harness := (true, "9ac7eb4aa511b1764e9b9f779e86c9c4ab98540d219898915c3bfd843744480d"), looks := false }, kinds := [], alts := [], laidByText := true, laidKinds := [.data, .data], laidTests := true, laidLooks := .later }
def FnExactBridgeWaysCardSaid : Prop := Claim7.holds Tryd.pinned (.plain (OpenSpec.ofChange fnExactBridgeWaysSpec)) fnExactBridgeWaysCard

/-- THE TIED CARD OF 'laws.FnExactSpanMany'. -/
def fnExactSpanManyCard : Claim7 := { stood := { row := fnExactSpanManyRow, standIns := [], harness := (true, "9ac7eb4aa511b1764e9b9f779e86c9c4ab98540d219898915c3bfd843744480d"), looks := false }, kinds := [], alts := [], laidByText := true, laidKinds := [.data, .data], laidTests := true, laidLooks := .later }
def FnExactSpanManyCardSaid : Prop := Claim7.holds Tryd.pinned (.plain (OpenSpec.ofChange fnExactSpanManySpec)) fnExactSpanManyCard

/-- THE SECOND FORM's CARD OF 'laws.FnExactJoinsEnds'. -/
def fnExactJoinsEndsUptoCard : Claim7 := { stood := { row := fnExactJoinsEndsUptoRow, standIns := [], harness := (true, "9ac7eb4aa511b1764e9b9f779e86c9c4ab98540d219898915c3bfd843744480d"), looks := false }, kinds := [], alts := [], laidByText := true, laidKinds := [.data, .data], laidTests := true, laidLooks := .later }
def FnExactJoinsEndsUptoCardSaid : Prop := Claim7.holds Tryd.pinned (.plain (OpenSpec.upto fnExactJoinsEndsSpec)) fnExactJoinsEndsUptoCard

/-- THE SECOND FORM's CARD OF 'laws.FnJoinsEnds'. -/
def fnJoinsEndsUptoCard : Claim7 := { stood := { row := fnJoinsEndsUptoRow, standIns := [], harness := (true, "9ac7eb4aa511b1764e9b9f779e86c9c4ab98540d219898915c3bfd843744480d"), looks := false }, kinds := [], alts := [], laidByText := true, laidKinds := [.data, .data], laidTests := true, laidLooks := .later }
def FnJoinsEndsUptoCardSaid : Prop := Claim7.holds Tryd.pinned (.plain (OpenSpec.upto fnJoinsEndsSpec)) fnJoinsEndsUptoCard

/-- THE SECOND FORM's CARD OF 'laws.FnExactTreeOk'. -/
def fnExactTreeOkUptoCard : Claim7 := { stood := { row := fnExactTreeOkUptoRow, standIns := [], harness := (true, "9ac7eb4aa511b1764e9b9f779e86c9c4ab98540d219898915c3bfd843744480d"), looks := false }, kinds := [], alts := [], laidByText := true, laidKinds := [.data, .data], laidTests := true, laidLooks := .later }
def FnExactTreeOkUptoCardSaid : Prop := Claim7.holds Tryd.pinned (.plain (OpenSpec.upto fnExactTreeOkSpec)) fnExactTreeOkUptoCard

/-- THE SECOND FORM's CARD OF 'laws.FnTreeOk'. -/
def fnTreeOkUptoCard : Claim7 := { stood := { row := fnTreeOkUptoRow, standIns := [], harness := (true, "9ac7eb4aa511b1764e9b9f779e86c9c4ab98540d219898915c3bfd843744480d"), looks := false }, kinds := [], alts := [], laidByText := true, laidKinds := [.data, .data], laidTests := true, laidLooks := .later }
def FnTreeOkUptoCardSaid : Prop := Claim7.holds Tryd.pinned (.plain (OpenSpec.upto fnTreeOkSpec)) fnTreeOkUptoCard

/-- THE SECOND FORM's CARD OF 'laws.FnExactPartsOf'. -/
def fnExactPartsOfUptoCard : Claim7 := { stood := { row := fnExactPartsOfUptoRow, standIns := [], harness := (true, "9ac7eb4aa511b1764e9b9f779e86c9c4ab98540d219898915c3bfd843744480d"), looks := false }, kinds := [], alts := [], laidByText := true, laidKinds := [.data, .data], laidTests := true, laidLooks := .later }
def FnExactPartsOfUptoCardSaid : Prop := Claim7.holds Tryd.pinned (.plain (OpenSpec.upto fnExactPartsOfSpec)) fnExactPartsOfUptoCard

/-- THE SECOND FORM's CARD OF 'laws.FnPartsOf'. -/
def fnPartsOfUptoCard : Claim7 := { stood := { row := fnPartsOfUptoRow, standIns := [], harness := (true, "9ac7eb4aa511b1764e9b9f779e86c9c4ab98540d219898915c3bfd843744480d"), looks := false }, kinds := [], alts := [], laidByText := true, laidKinds := [.data, .data], laidTests := true, laidLooks := .later }
def FnPartsOfUptoCardSaid : Prop := Claim7.holds Tryd.pinned (.plain (OpenSpec.upto fnPartsOfSpec)) fnPartsOfUptoCard

/-- THE SECOND FORM's CARD OF 'laws.FnLeavesOf'. -/
def fnLeavesOfUptoCard : Claim7 := { stood := { row := fnLeavesOfUptoRow, standIns := [], harness := (true, "9ac7eb4aa511b1764e9b9f779e86c9c4ab98540d219898915c3bfd843744480d"), looks := false }, kinds := [], alts := [], laidByText := true, laidKinds := [.data, .data], laidTests := true, laidLooks := .later }
def FnLeavesOfUptoCardSaid : Prop := Claim7.holds Tryd.pinned (.plain (OpenSpec.upto fnLeavesOfSpec)) fnLeavesOfUptoCard

/-- THE SECOND FORM's CARD OF 'laws.FnExactPruned'. -/
def fnExactPrunedUptoCard : Claim7 := { stood := { row := fnExactPrunedUptoRow, standIns := [], harness := (true, "9ac7eb4aa511b1764e9b9f779e86c9c4ab98540d219898915c3bfd843744480d"), looks := false }, kinds := [], alts := [], laidByText := true, laidKinds := [.data, .data], laidTests := true, laidLooks := .later }
def FnExactPrunedUptoCardSaid : Prop := Claim7.holds Tryd.pinned (.plain (OpenSpec.upto fnExactPrunedSpec)) fnExactPrunedUptoCard

/-- THE SECOND FORM's CARD OF 'laws.FnPruned'. -/
def fnPrunedUptoCard : Claim7 := { stood := { row := fnPrunedUptoRow, standIns := [], harness := (true, "9ac7eb4aa511b1764e9b9f779e86c9c4ab98540d219898915c3bfd843744480d"), looks := false }, kinds := [], alts := [], laidByText := true, laidKinds := [.data, .data], laidTests := true, laidLooks := .later }
def FnPrunedUptoCardSaid : Prop := Claim7.holds Tryd.pinned (.plain (OpenSpec.upto fnPrunedSpec)) fnPrunedUptoCard

/-- THE SECOND FORM's CARD OF 'laws.FnExactPathOf'. -/
def fnExactPathOfUptoCard : Claim7 := { stood := { row := fnExactPathOfUptoRow, standIns := [], harness := (true, "9ac7eb4aa511b1764e9b9f779e86c9c4ab98540d219898915c3bfd843744480d"), looks := false }, kinds := [], alts := [], laidByText := true, laidKinds := [.data, .data], laidTests := true, laidLooks := .later }
def FnExactPathOfUptoCardSaid : Prop := Claim7.holds Tryd.pinned (.plain (OpenSpec.upto fnExactPathOfSpec)) fnExactPathOfUptoCard

/-- THE SECOND FORM's CARD OF 'laws.FnExactBridgeWays'. -/
def fnExactBridgeWaysUptoCard : Claim7 := { stood := { row := fnExactBridgeWaysUptoRow, standIns := [], harness := (true, "9ac7eb4aa511b1764e9b9f779e86c9c4ab98540d219898915c3bfd843744480d"), looks := false }, kinds := [], alts := [], laidByText := true, laidKinds := [.data, .data], laidTests := true, laidLooks := .later }
def FnExactBridgeWaysUptoCardSaid : Prop := Claim7.holds Tryd.pinned (.plain (OpenSpec.upto fnExactBridgeWaysSpec)) fnExactBridgeWaysUptoCard

/-- THE SECOND FORM's CARD OF 'laws.FnExactSpanMany'. -/
def fnExactSpanManyUptoCard : Claim7 := { stood := { row := fnExactSpanManyUptoRow, standIns := [], harness := (true, "9ac7eb4aa511b1764e9b9f779e86c9c4ab98540d219898915c3bfd843744480d"), looks := false }, kinds := [], alts := [], laidByText := true, laidKinds := [.data, .data], laidTests := true, laidLooks := .later }
def FnExactSpanManyUptoCardSaid : Prop := Claim7.holds Tryd.pinned (.plain (OpenSpec.upto fnExactSpanManySpec)) fnExactSpanManyUptoCard
end Rows
end Go.Proofs.YtadhkfebokhbcaaDoor
