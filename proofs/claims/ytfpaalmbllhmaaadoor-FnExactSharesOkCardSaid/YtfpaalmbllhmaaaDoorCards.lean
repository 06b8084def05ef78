/-
  DERIVED. GIVEN WITH THE SEED: THE CARDS: each row of YtfpaalmbllhmaaaDoorRows.lean that lists a variable, with what it lists TIED to the program's text (the seventh form; the later family's looks); each row that meets fmt, with fmt's text TOLD by the authors' own Lean function (tested against real Go, not proved from fmt's source: count such statements apart). THE CARD IS WHAT COUNTS. Prove the row's statement (the work); the ties are given (YtfpaalmbllhmaaaDoorTie.lean); close each card by the builder's one call (the guide's Derived/Test/ToyasCard.lean, 'card_holds'). Laid BY PROGRAM, IN A SANDBOX (cutbox-door.mjs). By AI agents, Wed Nov 11 2026. No macro, syntax, notation, axiom, sorry.
-/
import Derived.Test.YtfpaalmbllhmaaaDoorRows
import GoSem.ClaimSeven
namespace Go.Proofs.YtfpaalmbllhmaaaDoor
namespace Rows

/-- THE TIED CARD OF 'laws.FnUpWays'. -/
def fnUpWaysCard : Claim7 := { stood := { row := fnUpWaysRow, standIns := [], harness := (true, "5164e6ecbb4e529e15ea50568c5f732b4bb15207f67b12641c587dc3d410427e"), looks := false }, kinds := [], alts := [], laidByText := true, laidKinds := [.data, .data], laidTests := true, laidLooks := .later }
def FnUpWaysCardSaid : Prop := Claim7.holds Tryd.pinned (.plain (OpenSpec.ofChange fnUpWaysSpec)) fnUpWaysCard

/-- THE TIED CARD OF 'laws.FnBirdShares'. -/
def fnBirdSharesCard : Claim7 := { stood := { row := fnBirdSharesRow, standIns := [], harness := (true, "5164e6ecbb4e529e15ea50568c5f732b4bb15207f67b12641c587dc3d410427e"), looks := false }, kinds := [], alts := [], laidByText := true, laidKinds := [.data, .data], laidTests := true, laidLooks := .later }
def FnBirdSharesCardSaid : Prop := Claim7.holds Tryd.pinned (.plain (OpenSpec.ofChange fnBirdSharesSpec)) fnBirdSharesCard

/-- THE TIED CARD OF 'laws.FnGroupCost'. -/
def fnGroupCostCard : Claim7 := { stood := { row := fnGroupCostRow, standIns := [], harness := (true, "5164e6ecbb4e529e15ea50568c5f732b4bb15207f67b12641c587dc3d410427e"), looks := false }, kinds := [], alts := [], laidByText := true, laidKinds := [.data, .data], laidTests := true, laidLooks := .later }
def FnGroupCostCardSaid : Prop := Claim7.holds Tryd.pinned (.plain (OpenSpec.ofChange fnGroupCostSpec)) fnGroupCostCard

/-- THE TIED CARD OF 'laws.FnSharesOk'. -/
def fnSharesOkCard : Claim7 := { stood := { row := fnSharesOkRow, standIns := [], harness := (true, "5164e6ecbb4e529e15ea50568c5f732b4bb15207f67b12641c587dc3d410427e"), looks := false }, kinds := [], alts := [], laidByText := true, laidKinds := [.data, .data], laidTests := true, laidLooks := .later }
def FnSharesOkCardSaid : Prop := Claim7.holds Tryd.pinned (.plain (OpenSpec.ofChange fnSharesOkSpec)) fnSharesOkCard

/-- THE TIED CARD OF 'laws.FnGroupJoin'. -/
def fnGroupJoinCard : Claim7 := { stood := { row := fnGroupJoinRow, standIns := [], harness := (true, "5164e6ecbb4e529e15ea50568c5f732b4bb15207f67b12641c587dc3d410427e"), looks := false }, kinds := [], alts := [], laidByText := true, laidKinds := [.data, .data], laidTests := true, laidLooks := .later }
def FnGroupJoinCardSaid : Prop := Claim7.holds Tryd.pinned (.plain (OpenSpec.ofChange fnGroupJoinSpec)) fnGroupJoinCard

/-- THE TIED CARD OF 'laws.FnExactUpWays'. -/
def fnExactUpWaysCard : Claim7 := { stood := { row := fnExactUpWaysRow, standIns := [], harness := (true, "5164e6ecbb4e529e15ea50568c5f732b4bb15207f67b12641c587dc3d410427e"), looks := false }, kinds := [], alts := [], laidByText := true, laidKinds := [.data, .data], laidTests := true, laidLooks := .later }
def FnExactUpWaysCardSaid : Prop := Claim7.holds Tryd.pinned (.plain (OpenSpec.ofChange fnExactUpWaysSpec)) fnExactUpWaysCard

/-- THE TIED CARD OF 'laws.FnExactBirdShares'. -/
def fnExactBirdSharesCard : Claim7 := { stood := { row := fnExactBirdSharesRow, standIns := [], harness := (true, "5164e6ecbb4e529e15ea50568c5f732b4bb15207f67b12641c587dc3d410427e"), looks := false }, kinds := [], alts := [], laidByText := true, laidKinds := [.data, .data], laidTests := true, laidLooks := .later }
def FnExactBirdSharesCardSaid : Prop := Claim7.holds Tryd.pinned (.plain (OpenSpec.ofChange fnExactBirdSharesSpec)) fnExactBirdSharesCard

/-- THE TIED CARD OF 'laws.FnExactGroupCost'. -/
def fnExactGroupCostCard : Claim7 := { stood := { row := fnExactGroupCostRow, standIns := [], harness := (true, "5164e6ecbb4e529e15ea50568c5f732b4bb15207f67b12641c587dc3d410427e"), looks := false }, kinds := [], alts := [], laidByText := true, laidKinds := [.data, .data], laidTests := true, laidLooks := .later }
def FnExactGroupCostCardSaid : Prop := Claim7.holds Tryd.pinned (.plain (OpenSpec.ofChange fnExactGroupCostSpec)) fnExactGroupCostCard

/-- THE TIED CARD OF 'laws.FnExactSharesOk'. -/
def fnExactSharesOkCard : Claim7 := { stood := { row := fnExactSharesOkRow, standIns := [], harness := (true, "5164e6ecbb4e529e15ea50568c5f732b4bb15207f67b12641c587dc3d410427e"), looks := false }, kinds := [], alts := [], laidByText := true, laidKinds := [.data, .data], laidTests := true, laidLooks := .later }
def FnExactSharesOkCardSaid : Prop := Claim7.holds Tryd.pinned (.plain (OpenSpec.ofChange fnExactSharesOkSpec)) fnExactSharesOkCard

/-- THE SECOND FORM's CARD OF 'laws.FnUpWays'. -/
def fnUpWaysUptoCard : Claim7 := { stood := { row := fnUpWaysUptoRow, standIns := [], harness := (true, "5164e6ecbb4e529e15ea50568c5f732b4bb15207f67b12641c587dc3d410427e"), looks := false }, kinds := [], alts := [], laidByText := true, laidKinds := [.data, .data], laidTests := true, laidLooks := .later }
def FnUpWaysUptoCardSaid : Prop := Claim7.holds Tryd.pinned (.plain (OpenSpec.upto fnUpWaysSpec)) fnUpWaysUptoCard

/-- THE SECOND FORM's CARD OF 'laws.FnBirdShares'. -/
def fnBirdSharesUptoCard : Claim7 := { stood := { row := fnBirdSharesUptoRow, standIns := [], harness := (true, "5164e6ecbb4e529e15ea50568c5f732b4bb15207f67b12641c587dc3d410427e"), looks := false }, kinds := [], alts := [], laidByText := true, laidKinds := [.data, .data], laidTests := true, laidLooks := .later }
def FnBirdSharesUptoCardSaid : Prop := Claim7.holds Tryd.pinned (.plain (OpenSpec.upto fnBirdSharesSpec)) fnBirdSharesUptoCard

/-- THE SECOND FORM's CARD OF 'laws.FnGroupCost'. -/
def fnGroupCostUptoCard : Claim7 := { stood := { row := fnGroupCostUptoRow, standIns := [], harness := (true, "5164e6ecbb4e529e15ea50568c5f732b4bb15207f67b12641c587dc3d410427e"), looks := false }, kinds := [], alts := [], laidByText := true, laidKinds := [.data, .data], laidTests := true, laidLooks := .later }
def FnGroupCostUptoCardSaid : Prop := Claim7.holds Tryd.pinned (.plain (OpenSpec.upto fnGroupCostSpec)) fnGroupCostUptoCard

/-- THE SECOND FORM's CARD OF 'laws.FnSharesOk'. -/
def fnSharesOkUptoCard : Claim7 := { stood := { row := fnSharesOkUptoRow, standIns := [], harness := (true, "5164e6ecbb4e529e15ea50568c5f732b4bb15207f67b12641c587dc3d410427e"), looks := false }, kinds := [], alts := [], laidByText := true, laidKinds := [.data, .data], laidTests := true, laidLooks := .later }
def FnSharesOkUptoCardSaid : Prop := Claim7.holds Tryd.pinned (.plain (OpenSpec.upto fnSharesOkSpec)) fnSharesOkUptoCard

/-- THE SECOND FORM's CARD OF 'laws.FnGroupJoin'. -/
def fnGroupJoinUptoCard : Claim7 := { stood := { row := fnGroupJoinUptoRow, standIns := [], harness := (true, "5164e6ecbb4e529e15ea50568c5f732b4bb15207f67b12641c587dc3d410427e"), looks := false }, kinds := [], alts := [], laidByText := true, laidKinds := [.data, .data], laidTests := true, laidLooks := .later }
def FnGroupJoinUptoCardSaid : Prop := Claim7.holds Tryd.pinned (.plain (OpenSpec.upto fnGroupJoinSpec)) fnGroupJoinUptoCard

/-- THE SECOND FORM's CARD OF 'laws.FnExactUpWays'. -/
def fnExactUpWaysUptoCard : Claim7 := { stood := { row := fnExactUpWaysUptoRow, standIns := [], harness := (true, "5164e6ecbb4e529e15ea50568c5f732b4bb15207f67b12641c587dc3d410427e"), looks := false }, kinds := [], alts := [], laidByText := true, laidKinds := [.data, .data], laidTests := true, laidLooks := .later }
def FnExactUpWaysUptoCardSaid : Prop := Claim7.holds Tryd.pinned (.plain (OpenSpec.upto fnExactUpWaysSpec)) fnExactUpWaysUptoCard

/-- THE SECOND FORM's CARD OF 'laws.FnExactBirdShares'. -/
def fnExactBirdSharesUptoCard : Claim7 := { stood := { row := fnExactBirdSharesUptoRow, standIns := [], harness := (true, "5164e6ecbb4e529e15ea50568c5f732b4bb15207f67b12641c587dc3d410427e"), looks := false }, kinds := [], alts := [], laidByText := true, laidKinds := [.data, .data], laidTests := true, laidLooks := .later }
def FnExactBirdSharesUptoCardSaid : Prop := Claim7.holds Tryd.pinned (.plain (OpenSpec.upto fnExactBirdSharesSpec)) fnExactBirdSharesUptoCard

/-- THE SECOND FORM's CARD OF 'laws.FnExactGroupCost'. -/
def fnExactGroupCostUptoCard : Claim7 := { stood := { row := fnExactGroupCostUptoRow, standIns := [], harness := (true, "5164e6ecbb4e529e15ea50568c5f732b4bb15207f67b12641c587dc3d410427e"), looks := false }, kinds := [], alts := [], laidByText := true, laidKinds := [.data, .data], laidTests := true, laidLooks := .later }
def FnExactGroupCostUptoCardSaid : Prop := Claim7.holds Tryd.pinned (.plain (OpenSpec.upto fnExactGroupCostSpec)) fnExactGroupCostUptoCard

/-- THE SECOND FORM's CARD OF 'laws.FnExactSharesOk'. -/
def fnExactSharesOkUptoCard : Claim7 := { stood := { row := fnExactSharesOkUptoRow, standIns := [], harness := (true, "5164e6ecbb4e529e15ea50568c5f732b4bb15207f67b12641c587dc3d410427e"), looks := false }, kinds := [], alts := [], laidByText := true, laidKinds := [.data, .data], laidTests := true, laidLooks := .later }
def FnExactSharesOkUptoCardSaid : Prop := Claim7.holds Tryd.pinned (.plain (OpenSpec.upto fnExactSharesOkSpec)) fnExactSharesOkUptoCard
end Rows
end Go.Proofs.YtfpaalmbllhmaaaDoor
