/-
  DERIVED. GIVEN WITH THE SEED: THE CARDS: each row of YtbbomajgmgmigaaDoorRows.lean that lists a variable, with what it lists TIED to the program's text (the seventh form; the later family's looks); each row that meets fmt, with fmt's text TOLD by the authors' own Lean function (tested against real Go, not proved from fmt's source: count such statements apart). THE CARD IS WHAT COUNTS. Prove the row's statement (the work); the ties are given (YtbbomajgmgmigaaDoorTie.lean); close each card by the builder's one call (the guide's Derived/Test/ToyasCard.lean, 'card_holds'). Laid BY PROGRAM, IN A SANDBOX (cutbox-door.mjs). By AI agents, Wed Nov 11 2026. No macro, syntax, notation, axiom, sorry.
-/
import Derived.Test.YtbbomajgmgmigaaDoorRows
import GoSem.ClaimSeven
namespace Go.Proofs.YtbbomajgmgmigaaDoor
namespace Rows

/-- THE TIED CARD OF 'laws.FnRootCost'. -/
def fnRootCostCard : Claim7 := { stood := { row := fnRootCostRow, standIns := [], harness := (true, "9491e418184e688c5b295968284aca6116808e2a1c5b3997710d33eea543749c"), looks := false }, kinds := [], alts := [], laidByText := true, laidKinds := [.data, .data], laidTests := true, laidLooks := .later }
def FnRootCostCardSaid : Prop := Claim7.holds Tryd.pinned (.plain (OpenSpec.ofChange fnRootCostSpec)) fnRootCostCard

/-- THE TIED CARD OF 'laws.FnAllRoots'. -/
def fnAllRootsCard : Claim7 := { stood := { row := fnAllRootsRow, standIns := [], harness := (true, "9491e418184e688c5b295968284aca6116808e2a1c5b3997710d33eea543749c"), looks := false }, kinds := [], alts := [], laidByText := true, laidKinds := [.data, .data], laidTests := true, laidLooks := .later }
def FnAllRootsCardSaid : Prop := Claim7.holds Tryd.pinned (.plain (OpenSpec.ofChange fnAllRootsSpec)) fnAllRootsCard

/-- THE TIED CARD OF 'laws.FnRootJoin'. -/
def fnRootJoinCard : Claim7 := { stood := { row := fnRootJoinRow, standIns := [], harness := (true, "9491e418184e688c5b295968284aca6116808e2a1c5b3997710d33eea543749c"), looks := false }, kinds := [], alts := [], laidByText := true, laidKinds := [.data, .data], laidTests := true, laidLooks := .later }
def FnRootJoinCardSaid : Prop := Claim7.holds Tryd.pinned (.plain (OpenSpec.ofChange fnRootJoinSpec)) fnRootJoinCard

/-- THE TIED CARD OF 'laws.FnRootGrow'. -/
def fnRootGrowCard : Claim7 := { stood := { row := fnRootGrowRow, standIns := [], harness := (true, "9491e418184e688c5b295968284aca6116808e2a1c5b3997710d33eea543749c"), looks := false }, kinds := [], alts := [], laidByText := true, laidKinds := [.data, .data], laidTests := true, laidLooks := .later }
def FnRootGrowCardSaid : Prop := Claim7.holds Tryd.pinned (.plain (OpenSpec.ofChange fnRootGrowSpec)) fnRootGrowCard

/-- THE TIED CARD OF 'laws.FnFootTable'. -/
def fnFootTableCard : Claim7 := { stood := { row := fnFootTableRow, standIns := [], harness := (true, "9491e418184e688c5b295968284aca6116808e2a1c5b3997710d33eea543749c"), looks := false }, kinds := [], alts := [], laidByText := true, laidKinds := [.data, .data], laidTests := true, laidLooks := .later }
def FnFootTableCardSaid : Prop := Claim7.holds Tryd.pinned (.plain (OpenSpec.ofChange fnFootTableSpec)) fnFootTableCard

/-- THE TIED CARD OF 'laws.FnFarTable'. -/
def fnFarTableCard : Claim7 := { stood := { row := fnFarTableRow, standIns := [], harness := (true, "9491e418184e688c5b295968284aca6116808e2a1c5b3997710d33eea543749c"), looks := false }, kinds := [], alts := [], laidByText := true, laidKinds := [.data, .data], laidTests := true, laidLooks := .later }
def FnFarTableCardSaid : Prop := Claim7.holds Tryd.pinned (.plain (OpenSpec.ofChange fnFarTableSpec)) fnFarTableCard

/-- THE SECOND FORM's CARD OF 'laws.FnRootCost'. -/
def fnRootCostUptoCard : Claim7 := { stood := { row := fnRootCostUptoRow, standIns := [], harness := (true, "9491e418184e688c5b295968284aca6116808e2a1c5b3997710d33eea543749c"), looks := false }, kinds := [], alts := [], laidByText := true, laidKinds := [.data, .data], laidTests := true, laidLooks := .later }
def FnRootCostUptoCardSaid : Prop := Claim7.holds Tryd.pinned (.plain (OpenSpec.upto fnRootCostSpec)) fnRootCostUptoCard

/-- THE SECOND FORM's CARD OF 'laws.FnAllRoots'. -/
def fnAllRootsUptoCard : Claim7 := { stood := { row := fnAllRootsUptoRow, standIns := [], harness := (true, "9491e418184e688c5b295968284aca6116808e2a1c5b3997710d33eea543749c"), looks := false }, kinds := [], alts := [], laidByText := true, laidKinds := [.data, .data], laidTests := true, laidLooks := .later }
def FnAllRootsUptoCardSaid : Prop := Claim7.holds Tryd.pinned (.plain (OpenSpec.upto fnAllRootsSpec)) fnAllRootsUptoCard

/-- THE SECOND FORM's CARD OF 'laws.FnRootJoin'. -/
def fnRootJoinUptoCard : Claim7 := { stood := { row := fnRootJoinUptoRow, standIns := [], harness := (true, "9491e418184e688c5b295968284aca6116808e2a1c5b3997710d33eea543749c"), looks := false }, kinds := [], alts := [], laidByText := true, laidKinds := [.data, .data], laidTests := true, laidLooks := .later }
def FnRootJoinUptoCardSaid : Prop := Claim7.holds Tryd.pinned (.plain (OpenSpec.upto fnRootJoinSpec)) fnRootJoinUptoCard

/-- THE SECOND FORM's CARD OF 'laws.FnRootGrow'. -/
def fnRootGrowUptoCard : Claim7 := { stood := { row := fnRootGrowUptoRow, standIns := [], harness := (true, "9491e418184e688c5b295968284aca6116808e2a1c5b3997710d33eea543749c"), looks := false }, kinds := [], alts := [], laidByText := true, laidKinds := [.data, .data], laidTests := true, laidLooks := .later }
def FnRootGrowUptoCardSaid : Prop := Claim7.holds Tryd.pinned (.plain (OpenSpec.upto fnRootGrowSpec)) fnRootGrowUptoCard

/-- THE SECOND FORM's CARD OF 'laws.FnFootTable'. -/
def fnFootTableUptoCard : Claim7 := { stood := { row := fnFootTableUptoRow, standIns := [], harness := (true, "9491e418184e688c5b295968284aca6116808e2a1c5b3997710d33eea543749c"), looks := false }, kinds := [], alts := [], laidByText := true, laidKinds := [.data, .data], laidTests := true, laidLooks := .later }
def FnFootTableUptoCardSaid : Prop := Claim7.holds Tryd.pinned (.plain (OpenSpec.upto fnFootTableSpec)) fnFootTableUptoCard

/-- THE SECOND FORM's CARD OF 'laws.FnFarTable'. -/
def fnFarTableUptoCard : Claim7 := { stood := { row := fnFarTableUptoRow, standIns := [], harness := (true, "9491e418184e688c5b295968284aca6116808e2a1c5b3997710d33eea543749c"), looks := false }, kinds := [], alts := [], laidByText := true, laidKinds := [.data, .data], laidTests := true, laidLooks := .later }
def FnFarTableUptoCardSaid : Prop := Claim7.holds Tryd.pinned (.plain (OpenSpec.upto fnFarTableSpec)) fnFarTableUptoCard
end Rows
end Go.Proofs.YtbbomajgmgmigaaDoor
