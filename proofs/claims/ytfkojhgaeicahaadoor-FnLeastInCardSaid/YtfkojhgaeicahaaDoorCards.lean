/-
  DERIVED. GIVEN WITH THE SEED: THE CARDS: each row of YtfkojhgaeicahaaDoorRows.lean that lists a variable, with what it lists TIED to the program's text (the seventh form; the later family's looks); each row that meets fmt, with fmt's text TOLD by the authors' own Lean function (tested against real Go, not proved from fmt's source: count such statements apart). THE CARD IS WHAT COUNTS. Prove the row's statement (the work); the ties are given (YtfkojhgaeicahaaDoorTie.lean); close each card by the builder's one call (the guide's Derived/Test/ToyasCard.lean, 'card_holds'). Laid BY PROGRAM, IN A SANDBOX (cutbox-door.mjs). By AI agents, Wed Nov 11 2026. No macro, syntax, notation, axiom, sorry.
-/
import Derived.Test.YtfkojhgaeicahaaDoorRows
import GoSem.ClaimSeven
namespace Go.Proofs.YtfkojhgaeicahaaDoor
namespace Rows

/-- THE TIED CARD OF 'laws.FnExactRootCost'. -/
def fnExactRootCostCard : Claim7 := { stood := { row := fnExactRootCostRow, standIns := [], harness := (true, "59d8cae972a0cda1d45b58e597bb325b62bf618a4c5abfaf1ed3c5ef4fa860be"), looks := false }, kinds := [], alts := [], laidByText := true, laidKinds := [.data, .data], laidTests := true, laidLooks := .later }
def FnExactRootCostCardSaid : Prop := Claim7.holds Tryd.pinned (.plain (OpenSpec.ofChange fnExactRootCostSpec)) fnExactRootCostCard

/-- THE TIED CARD OF 'laws.FnExactRootOf'. -/
def fnExactRootOfCard : Claim7 := { stood := { row := fnExactRootOfRow, standIns := [], harness := (true, "59d8cae972a0cda1d45b58e597bb325b62bf618a4c5abfaf1ed3c5ef4fa860be"), looks := false }, kinds := [], alts := [], laidByText := true, laidKinds := [.data, .data], laidTests := true, laidLooks := .later }
def FnExactRootOfCardSaid : Prop := Claim7.holds Tryd.pinned (.plain (OpenSpec.ofChange fnExactRootOfSpec)) fnExactRootOfCard

/-- THE TIED CARD OF 'laws.FnExactLeastIn'. -/
def fnExactLeastInCard : Claim7 := { stood := { row := fnExactLeastInRow, standIns := [], harness := (true, "59d8cae972a0cda1d45b58e597bb325b62bf618a4c5abfaf1ed3c5ef4fa860be"), looks := false }, kinds := [], alts := [], laidByText := true, laidKinds := [.data, .data], laidTests := true, laidLooks := .later }
def FnExactLeastInCardSaid : Prop := Claim7.holds Tryd.pinned (.plain (OpenSpec.ofChange fnExactLeastInSpec)) fnExactLeastInCard

/-- THE TIED CARD OF 'laws.FnExactAllRoots'. -/
def fnExactAllRootsCard : Claim7 := { stood := { row := fnExactAllRootsRow, standIns := [], harness := (true, "59d8cae972a0cda1d45b58e597bb325b62bf618a4c5abfaf1ed3c5ef4fa860be"), looks := false }, kinds := [], alts := [], laidByText := true, laidKinds := [.data, .data], laidTests := true, laidLooks := .later }
def FnExactAllRootsCardSaid : Prop := Claim7.holds Tryd.pinned (.plain (OpenSpec.ofChange fnExactAllRootsSpec)) fnExactAllRootsCard

/-- THE TIED CARD OF 'laws.FnRootOf'. -/
def fnRootOfCard : Claim7 := { stood := { row := fnRootOfRow, standIns := [], harness := (true, "59d8cae972a0cda1d45b58e597bb325b62bf618a4c5abfaf1ed3c5ef4fa860be"), looks := false }, kinds := [], alts := [], laidByText := true, laidKinds := [.data, .data], laidTests := true, laidLooks := .later }
def FnRootOfCardSaid : Prop := Claim7.holds Tryd.pinned (.plain (OpenSpec.ofChange fnRootOfSpec)) fnRootOfCard

/-- THE TIED CARD OF 'laws.FnLeastIn'. -/
def fnLeastInCard : Claim7 := { stood := { row := fnLeastInRow, standIns := [], harness := (true, "59d8cae972a0cda1d45b58e597bb325b62bf618a4c5abfaf1ed3c5ef4fa860be"), looks := false }, kinds := [], alts := [], laidByText := true, laidKinds := [.data, .data], laidTests := true, laidLooks := .later }
def FnLeastInCardSaid : Prop := Claim7.holds Tryd.pinned (.plain (OpenSpec.ofChange fnLeastInSpec)) fnLeastInCard

/-- THE TIED CARD OF 'laws.FnAllRoots'. -/
def fnAllRootsCard : Claim7 := { stood := { row := fnAllRootsRow, standIns := [], harness := (true, "59d8cae972a0cda1d45b58e597bb325b62bf618a4c5abfaf1ed3c5ef4fa860be"), looks := false }, kinds := [], alts := [], laidByText := true, laidKinds := [.data, .data], laidTests := true, laidLooks := .later }
def FnAllRootsCardSaid : Prop := Claim7.holds Tryd.pinned (.plain (OpenSpec.ofChange fnAllRootsSpec)) fnAllRootsCard

/-- THE TIED CARD OF 'laws.FnRootCost'. -/
def fnRootCostCard : Claim7 := { stood := { row := fnRootCostRow, standIns := [], harness := (true, "59d8cae972a0cda1d45b58e597bb325b62bf618a4c5abfaf1ed3c5ef4fa860be"), looks := false }, kinds := [], alts := [], laidByText := true, laidKinds := [.data, .data], laidTests := true, laidLooks := .later }
def FnRootCostCardSaid : Prop := Claim7.holds Tryd.pinned (.plain (OpenSpec.ofChange fnRootCostSpec)) fnRootCostCard

/-- THE TIED CARD OF 'laws.FnRootJoin'. -/
def fnRootJoinCard : Claim7 := { stood := { row := fnRootJoinRow, standIns := [], harness := (true, "59d8cae972a0cda1d45b58e597bb325b62bf618a4c5abfaf1ed3c5ef4fa860be"), looks := false }, kinds := [], alts := [], laidByText := true, laidKinds := [.data, .data], laidTests := true, laidLooks := .later }
def FnRootJoinCardSaid : Prop := Claim7.holds Tryd.pinned (.plain (OpenSpec.ofChange fnRootJoinSpec)) fnRootJoinCard

/-- THE TIED CARD OF 'laws.FnRootGrow'. -/
def fnRootGrowCard : Claim7 := { stood := { row := fnRootGrowRow, standIns := [], harness := (true, "59d8cae972a0cda1d45b58e597bb325b62bf618a4c5abfaf1ed3c5ef4fa860be"), looks := false }, kinds := [], alts := [], laidByText := true, laidKinds := [.data, .data], laidTests := true, laidLooks := .later }
def FnRootGrowCardSaid : Prop := Claim7.holds Tryd.pinned (.plain (OpenSpec.ofChange fnRootGrowSpec)) fnRootGrowCard

/-- THE TIED CARD OF 'laws.FnFarTable'. -/
def fnFarTableCard : Claim7 := { stood := { row := fnFarTableRow, standIns := [], harness := (true, "59d8cae972a0cda1d45b58e597bb325b62bf618a4c5abfaf1ed3c5ef4fa860be"), looks := false }, kinds := [], alts := [], laidByText := true, laidKinds := [.data, .data], laidTests := true, laidLooks := .later }
def FnFarTableCardSaid : Prop := Claim7.holds Tryd.pinned (.plain (OpenSpec.ofChange fnFarTableSpec)) fnFarTableCard

/-- THE TIED CARD OF 'laws.FnFootTable'. -/
def fnFootTableCard : Claim7 := { stood := { row := fnFootTableRow, standIns := [], harness := (true, "59d8cae972a0cda1d45b58e597bb325b62bf618a4c5abfaf1ed3c5ef4fa860be"), looks := false }, kinds := [], alts := [], laidByText := true, laidKinds := [.data, .data], laidTests := true, laidLooks := .later }
def FnFootTableCardSaid : Prop := Claim7.holds Tryd.pinned (.plain (OpenSpec.ofChange fnFootTableSpec)) fnFootTableCard

/-- THE SECOND FORM's CARD OF 'laws.FnExactRootCost'. -/
def fnExactRootCostUptoCard : Claim7 := { stood := { row := fnExactRootCostUptoRow, standIns := [], harness := (true, "59d8cae972a0cda1d45b58e597bb325b62bf618a4c5abfaf1ed3c5ef4fa860be"), looks := false }, kinds := [], alts := [], laidByText := true, laidKinds := [.data, .data], laidTests := true, laidLooks := .later }
def FnExactRootCostUptoCardSaid : Prop := Claim7.holds Tryd.pinned (.plain (OpenSpec.upto fnExactRootCostSpec)) fnExactRootCostUptoCard

/-- THE SECOND FORM's CARD OF 'laws.FnExactRootOf'. -/
def fnExactRootOfUptoCard : Claim7 := { stood := { row := fnExactRootOfUptoRow, standIns := [], harness := (true, "59d8cae972a0cda1d45b58e597bb325b62bf618a4c5abfaf1ed3c5ef4fa860be"), looks := false }, kinds := [], alts := [], laidByText := true, laidKinds := [.data, .data], laidTests := true, laidLooks := .later }
def FnExactRootOfUptoCardSaid : Prop := Claim7.holds Tryd.pinned (.plain (OpenSpec.upto fnExactRootOfSpec)) fnExactRootOfUptoCard

/-- THE SECOND FORM's CARD OF 'laws.FnExactLeastIn'. -/
def fnExactLeastInUptoCard : Claim7 := { stood := { row := fnExactLeastInUptoRow, standIns := [], harness := (true, "59d8cae972a0cda1d45b58e597bb325b62bf618a4c5abfaf1ed3c5ef4fa860be"), looks := false }, kinds := [], alts := [], laidByText := true, laidKinds := [.data, .data], laidTests := true, laidLooks := .later }
def FnExactLeastInUptoCardSaid : Prop := Claim7.holds Tryd.pinned (.plain (OpenSpec.upto fnExactLeastInSpec)) fnExactLeastInUptoCard

/-- THE SECOND FORM's CARD OF 'laws.FnExactAllRoots'. -/
def fnExactAllRootsUptoCard : Claim7 := { stood := { row := fnExactAllRootsUptoRow, standIns := [], harness := (true, "59d8cae972a0cda1d45b58e597bb325b62bf618a4c5abfaf1ed3c5ef4fa860be"), looks := false }, kinds := [], alts := [], laidByText := true, laidKinds := [.data, .data], laidTests := true, laidLooks := .later }
def FnExactAllRootsUptoCardSaid : Prop := Claim7.holds Tryd.pinned (.plain (OpenSpec.upto fnExactAllRootsSpec)) fnExactAllRootsUptoCard

/-- THE SECOND FORM's CARD OF 'laws.FnRootOf'. -/
def fnRootOfUptoCard : Claim7 := { stood := { row := fnRootOfUptoRow, standIns := [], harness := (true, "59d8cae972a0cda1d45b58e597bb325b62bf618a4c5abfaf1ed3c5ef4fa860be"), looks := false }, kinds := [], alts := [], laidByText := true, laidKinds := [.data, .data], laidTests := true, laidLooks := .later }
def FnRootOfUptoCardSaid : Prop := Claim7.holds Tryd.pinned (.plain (OpenSpec.upto fnRootOfSpec)) fnRootOfUptoCard

/-- THE SECOND FORM's CARD OF 'laws.FnLeastIn'. -/
def fnLeastInUptoCard : Claim7 := { stood := { row := fnLeastInUptoRow, standIns := [], harness := (true, "59d8cae972a0cda1d45b58e597bb325b62bf618a4c5abfaf1ed3c5ef4fa860be"), looks := false }, kinds := [], alts := [], laidByText := true, laidKinds := [.data, .data], laidTests := true, laidLooks := .later }
def FnLeastInUptoCardSaid : Prop := Claim7.holds Tryd.pinned (.plain (OpenSpec.upto fnLeastInSpec)) fnLeastInUptoCard

/-- THE SECOND FORM's CARD OF 'laws.FnAllRoots'. -/
def fnAllRootsUptoCard : Claim7 := { stood := { row := fnAllRootsUptoRow, standIns := [], harness := (true, "59d8cae972a0cda1d45b58e597bb325b62bf618a4c5abfaf1ed3c5ef4fa860be"), looks := false }, kinds := [], alts := [], laidByText := true, laidKinds := [.data, .data], laidTests := true, laidLooks := .later }
def FnAllRootsUptoCardSaid : Prop := Claim7.holds Tryd.pinned (.plain (OpenSpec.upto fnAllRootsSpec)) fnAllRootsUptoCard

/-- THE SECOND FORM's CARD OF 'laws.FnRootCost'. -/
def fnRootCostUptoCard : Claim7 := { stood := { row := fnRootCostUptoRow, standIns := [], harness := (true, "59d8cae972a0cda1d45b58e597bb325b62bf618a4c5abfaf1ed3c5ef4fa860be"), looks := false }, kinds := [], alts := [], laidByText := true, laidKinds := [.data, .data], laidTests := true, laidLooks := .later }
def FnRootCostUptoCardSaid : Prop := Claim7.holds Tryd.pinned (.plain (OpenSpec.upto fnRootCostSpec)) fnRootCostUptoCard

/-- THE SECOND FORM's CARD OF 'laws.FnRootJoin'. -/
def fnRootJoinUptoCard : Claim7 := { stood := { row := fnRootJoinUptoRow, standIns := [], harness := (true, "59d8cae972a0cda1d45b58e597bb325b62bf618a4c5abfaf1ed3c5ef4fa860be"), looks := false }, kinds := [], alts := [], laidByText := true, laidKinds := [.data, .data], laidTests := true, laidLooks := .later }
def FnRootJoinUptoCardSaid : Prop := Claim7.holds Tryd.pinned (.plain (OpenSpec.upto fnRootJoinSpec)) fnRootJoinUptoCard

/-- THE SECOND FORM's CARD OF 'laws.FnRootGrow'. -/
def fnRootGrowUptoCard : Claim7 := { stood := { row := fnRootGrowUptoRow, standIns := [], harness := (true, "59d8cae972a0cda1d45b58e597bb325b62bf618a4c5abfaf1ed3c5ef4fa860be"), looks := false }, kinds := [], alts := [], laidByText := true, laidKinds := [.data, .data], laidTests := true, laidLooks := .later }
def FnRootGrowUptoCardSaid : Prop := Claim7.holds Tryd.pinned (.plain (OpenSpec.upto fnRootGrowSpec)) fnRootGrowUptoCard

/-- THE SECOND FORM's CARD OF 'laws.FnFarTable'. -/
def fnFarTableUptoCard : Claim7 := { stood := { row := fnFarTableUptoRow, standIns := [], harness := (true, "59d8cae972a0cda1d45b58e597bb325b62bf618a4c5abfaf1ed3c5ef4fa860be"), looks := false }, kinds := [], alts := [], laidByText := true, laidKinds := [.data, .data], laidTests := true, laidLooks := .later }
def FnFarTableUptoCardSaid : Prop := Claim7.holds Tryd.pinned (.plain (OpenSpec.upto fnFarTableSpec)) fnFarTableUptoCard

/-- THE SECOND FORM's CARD OF 'laws.FnFootTable'. -/
def fnFootTableUptoCard : Claim7 := { stood := { row := fnFootTableUptoRow, standIns := [], harness := (true, "59d8cae972a0cda1d45b58e597bb325b62bf618a4c5abfaf1ed3c5ef4fa860be"), looks := false }, kinds := [], alts := [], laidByText := true, laidKinds := [.data, .data], laidTests := true, laidLooks := .later }
def FnFootTableUptoCardSaid : Prop := Claim7.holds Tryd.pinned (.plain (OpenSpec.upto fnFootTableSpec)) fnFootTableUptoCard
end Rows
end Go.Proofs.YtfkojhgaeicahaaDoor
