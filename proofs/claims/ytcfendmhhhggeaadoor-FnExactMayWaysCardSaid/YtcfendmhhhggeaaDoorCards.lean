/-
  DERIVED. GIVEN WITH THE SEED: THE CARDS: each row of YtcfendmhhhggeaaDoorRows.lean that lists a variable, with what it lists TIED to the program's text (the seventh form; the later family's looks); each row that meets fmt, with fmt's text TOLD by the authors' own Lean function (tested against real Go, not proved from fmt's source: count such statements apart). THE CARD IS WHAT COUNTS. Prove the row's statement (the work); the ties are given (YtcfendmhhhggeaaDoorTie.lean); close each card by the builder's one call (the guide's Derived/Test/ToyasCard.lean, 'card_holds'). Laid BY PROGRAM, IN A SANDBOX (cutbox-door.mjs). By AI agents, Wed Nov 11 2026. No macro, syntax, notation, axiom, sorry.
-/
import Derived.Test.YtcfendmhhhggeaaDoorRows
import GoSem.ClaimSeven
namespace Go.Proofs.YtcfendmhhhggeaaDoor
namespace Rows

/-- THE TIED CARD OF 'laws.FnCostWithout'. -/
def fnCostWithoutCard : Claim7 := { stood := { row := fnCostWithoutRow, standIns := [], harness := (true, "47fc07ea4cc7ac2cb8c9aff64812f2a0369165e539e631a768bc8e42c9cba436"), looks := false }, kinds := [], alts := [], laidByText := true, laidKinds := [.data, .data], laidTests := true, laidLooks := .later }
def FnCostWithoutCardSaid : Prop := Claim7.holds Tryd.pinned (.plain (OpenSpec.ofChange fnCostWithoutSpec)) fnCostWithoutCard

/-- THE TIED CARD OF 'laws.FnCostWith'. -/
def fnCostWithCard : Claim7 := { stood := { row := fnCostWithRow, standIns := [], harness := (true, "47fc07ea4cc7ac2cb8c9aff64812f2a0369165e539e631a768bc8e42c9cba436"), looks := false }, kinds := [], alts := [], laidByText := true, laidKinds := [.data, .data], laidTests := true, laidLooks := .later }
def FnCostWithCardSaid : Prop := Claim7.holds Tryd.pinned (.plain (OpenSpec.ofChange fnCostWithSpec)) fnCostWithCard

/-- THE TIED CARD OF 'laws.FnMustWays'. -/
def fnMustWaysCard : Claim7 := { stood := { row := fnMustWaysRow, standIns := [], harness := (true, "47fc07ea4cc7ac2cb8c9aff64812f2a0369165e539e631a768bc8e42c9cba436"), looks := false }, kinds := [], alts := [], laidByText := true, laidKinds := [.data, .data], laidTests := true, laidLooks := .later }
def FnMustWaysCardSaid : Prop := Claim7.holds Tryd.pinned (.plain (OpenSpec.ofChange fnMustWaysSpec)) fnMustWaysCard

/-- THE TIED CARD OF 'laws.FnMayWays'. -/
def fnMayWaysCard : Claim7 := { stood := { row := fnMayWaysRow, standIns := [], harness := (true, "47fc07ea4cc7ac2cb8c9aff64812f2a0369165e539e631a768bc8e42c9cba436"), looks := false }, kinds := [], alts := [], laidByText := true, laidKinds := [.data, .data], laidTests := true, laidLooks := .later }
def FnMayWaysCardSaid : Prop := Claim7.holds Tryd.pinned (.plain (OpenSpec.ofChange fnMayWaysSpec)) fnMayWaysCard

/-- THE TIED CARD OF 'laws.FnDearerNet'. -/
def fnDearerNetCard : Claim7 := { stood := { row := fnDearerNetRow, standIns := [], harness := (true, "47fc07ea4cc7ac2cb8c9aff64812f2a0369165e539e631a768bc8e42c9cba436"), looks := false }, kinds := [], alts := [], laidByText := true, laidKinds := [.data, .data], laidTests := true, laidLooks := .later }
def FnDearerNetCardSaid : Prop := Claim7.holds Tryd.pinned (.plain (OpenSpec.ofChange fnDearerNetSpec)) fnDearerNetCard

/-- THE TIED CARD OF 'laws.FnMustMay'. -/
def fnMustMayCard : Claim7 := { stood := { row := fnMustMayRow, standIns := [], harness := (true, "47fc07ea4cc7ac2cb8c9aff64812f2a0369165e539e631a768bc8e42c9cba436"), looks := false }, kinds := [], alts := [], laidByText := true, laidKinds := [.data, .data], laidTests := true, laidLooks := .later }
def FnMustMayCardSaid : Prop := Claim7.holds Tryd.pinned (.plain (OpenSpec.ofChange fnMustMaySpec)) fnMustMayCard

/-- THE TIED CARD OF 'laws.FnExactCostWithout'. -/
def fnExactCostWithoutCard : Claim7 := { stood := { row := fnExactCostWithoutRow, standIns := [], harness := (true, "47fc07ea4cc7ac2cb8c9aff64812f2a0369165e539e631a768bc8e42c9cba436"), looks := false }, kinds := [], alts := [], laidByText := true, laidKinds := [.data, .data], laidTests := true, laidLooks := .later }
def FnExactCostWithoutCardSaid : Prop := Claim7.holds Tryd.pinned (.plain (OpenSpec.ofChange fnExactCostWithoutSpec)) fnExactCostWithoutCard

/-- THE TIED CARD OF 'laws.FnExactCostWith'. -/
def fnExactCostWithCard : Claim7 := { stood := { row := fnExactCostWithRow, standIns := [], harness := (true, "47fc07ea4cc7ac2cb8c9aff64812f2a0369165e539e631a768bc8e42c9cba436"), looks := false }, kinds := [], alts := [], laidByText := true, laidKinds := [.data, .data], laidTests := true, laidLooks := .later }
def FnExactCostWithCardSaid : Prop := Claim7.holds Tryd.pinned (.plain (OpenSpec.ofChange fnExactCostWithSpec)) fnExactCostWithCard

/-- THE TIED CARD OF 'laws.FnExactMustWays'. -/
def fnExactMustWaysCard : Claim7 := { stood := { row := fnExactMustWaysRow, standIns := [], harness := (true, "47fc07ea4cc7ac2cb8c9aff64812f2a0369165e539e631a768bc8e42c9cba436"), looks := false }, kinds := [], alts := [], laidByText := true, laidKinds := [.data, .data], laidTests := true, laidLooks := .later }
def FnExactMustWaysCardSaid : Prop := Claim7.holds Tryd.pinned (.plain (OpenSpec.ofChange fnExactMustWaysSpec)) fnExactMustWaysCard

/-- THE TIED CARD OF 'laws.FnExactMayWays'. -/
def fnExactMayWaysCard : Claim7 := { stood := { row := fnExactMayWaysRow, standIns := [], harness := (true, "47fc07ea4cc7ac2cb8c9aff64812f2a0369165e539e631a768bc8e42c9cba436"), looks := false }, kinds := [], alts := [], laidByText := true, laidKinds := [.data, .data], laidTests := true, laidLooks := .later }
def FnExactMayWaysCardSaid : Prop := Claim7.holds Tryd.pinned (.plain (OpenSpec.ofChange fnExactMayWaysSpec)) fnExactMayWaysCard

/-- THE SECOND FORM's CARD OF 'laws.FnCostWithout'. -/
def fnCostWithoutUptoCard : Claim7 := { stood := { row := fnCostWithoutUptoRow, standIns := [], harness := (true, "47fc07ea4cc7ac2cb8c9aff64812f2a0369165e539e631a768bc8e42c9cba436"), looks := false }, kinds := [], alts := [], laidByText := true, laidKinds := [.data, .data], laidTests := true, laidLooks := .later }
def FnCostWithoutUptoCardSaid : Prop := Claim7.holds Tryd.pinned (.plain (OpenSpec.upto fnCostWithoutSpec)) fnCostWithoutUptoCard

/-- THE SECOND FORM's CARD OF 'laws.FnCostWith'. -/
def fnCostWithUptoCard : Claim7 := { stood := { row := fnCostWithUptoRow, standIns := [], harness := (true, "47fc07ea4cc7ac2cb8c9aff64812f2a0369165e539e631a768bc8e42c9cba436"), looks := false }, kinds := [], alts := [], laidByText := true, laidKinds := [.data, .data], laidTests := true, laidLooks := .later }
def FnCostWithUptoCardSaid : Prop := Claim7.holds Tryd.pinned (.plain (OpenSpec.upto fnCostWithSpec)) fnCostWithUptoCard

/-- THE SECOND FORM's CARD OF 'laws.FnMustWays'. -/
def fnMustWaysUptoCard : Claim7 := { stood := { row := fnMustWaysUptoRow, standIns := [], harness := (true, "47fc07ea4cc7ac2cb8c9aff64812f2a0369165e539e631a768bc8e42c9cba436"), looks := false }, kinds := [], alts := [], laidByText := true, laidKinds := [.data, .data], laidTests := true, laidLooks := .later }
def FnMustWaysUptoCardSaid : Prop := Claim7.holds Tryd.pinned (.plain (OpenSpec.upto fnMustWaysSpec)) fnMustWaysUptoCard

/-- THE SECOND FORM's CARD OF 'laws.FnMayWays'. -/
def fnMayWaysUptoCard : Claim7 := { stood := { row := fnMayWaysUptoRow, standIns := [], harness := (true, "47fc07ea4cc7ac2cb8c9aff64812f2a0369165e539e631a768bc8e42c9cba436"), looks := false }, kinds := [], alts := [], laidByText := true, laidKinds := [.data, .data], laidTests := true, laidLooks := .later }
def FnMayWaysUptoCardSaid : Prop := Claim7.holds Tryd.pinned (.plain (OpenSpec.upto fnMayWaysSpec)) fnMayWaysUptoCard

/-- THE SECOND FORM's CARD OF 'laws.FnDearerNet'. -/
def fnDearerNetUptoCard : Claim7 := { stood := { row := fnDearerNetUptoRow, standIns := [], harness := (true, "47fc07ea4cc7ac2cb8c9aff64812f2a0369165e539e631a768bc8e42c9cba436"), looks := false }, kinds := [], alts := [], laidByText := true, laidKinds := [.data, .data], laidTests := true, laidLooks := .later }
def FnDearerNetUptoCardSaid : Prop := Claim7.holds Tryd.pinned (.plain (OpenSpec.upto fnDearerNetSpec)) fnDearerNetUptoCard

/-- THE SECOND FORM's CARD OF 'laws.FnMustMay'. -/
def fnMustMayUptoCard : Claim7 := { stood := { row := fnMustMayUptoRow, standIns := [], harness := (true, "47fc07ea4cc7ac2cb8c9aff64812f2a0369165e539e631a768bc8e42c9cba436"), looks := false }, kinds := [], alts := [], laidByText := true, laidKinds := [.data, .data], laidTests := true, laidLooks := .later }
def FnMustMayUptoCardSaid : Prop := Claim7.holds Tryd.pinned (.plain (OpenSpec.upto fnMustMaySpec)) fnMustMayUptoCard

/-- THE SECOND FORM's CARD OF 'laws.FnExactCostWithout'. -/
def fnExactCostWithoutUptoCard : Claim7 := { stood := { row := fnExactCostWithoutUptoRow, standIns := [], harness := (true, "47fc07ea4cc7ac2cb8c9aff64812f2a0369165e539e631a768bc8e42c9cba436"), looks := false }, kinds := [], alts := [], laidByText := true, laidKinds := [.data, .data], laidTests := true, laidLooks := .later }
def FnExactCostWithoutUptoCardSaid : Prop := Claim7.holds Tryd.pinned (.plain (OpenSpec.upto fnExactCostWithoutSpec)) fnExactCostWithoutUptoCard

/-- THE SECOND FORM's CARD OF 'laws.FnExactCostWith'. -/
def fnExactCostWithUptoCard : Claim7 := { stood := { row := fnExactCostWithUptoRow, standIns := [], harness := (true, "47fc07ea4cc7ac2cb8c9aff64812f2a0369165e539e631a768bc8e42c9cba436"), looks := false }, kinds := [], alts := [], laidByText := true, laidKinds := [.data, .data], laidTests := true, laidLooks := .later }
def FnExactCostWithUptoCardSaid : Prop := Claim7.holds Tryd.pinned (.plain (OpenSpec.upto fnExactCostWithSpec)) fnExactCostWithUptoCard

/-- THE SECOND FORM's CARD OF 'laws.FnExactMustWays'. -/
def fnExactMustWaysUptoCard : Claim7 := { stood := { row := fnExactMustWaysUptoRow, standIns := [], harness := (true, "47fc07ea4cc7ac2cb8c9aff64812f2a0369165e539e631a768bc8e42c9cba436"), looks := false }, kinds := [], alts := [], laidByText := true, laidKinds := [.data, .data], laidTests := true, laidLooks := .later }
def FnExactMustWaysUptoCardSaid : Prop := Claim7.holds Tryd.pinned (.plain (OpenSpec.upto fnExactMustWaysSpec)) fnExactMustWaysUptoCard

/-- THE SECOND FORM's CARD OF 'laws.FnExactMayWays'. -/
def fnExactMayWaysUptoCard : Claim7 := { stood := { row := fnExactMayWaysUptoRow, standIns := [], harness := (true, "47fc07ea4cc7ac2cb8c9aff64812f2a0369165e539e631a768bc8e42c9cba436"), looks := false }, kinds := [], alts := [], laidByText := true, laidKinds := [.data, .data], laidTests := true, laidLooks := .later }
def FnExactMayWaysUptoCardSaid : Prop := Claim7.holds Tryd.pinned (.plain (OpenSpec.upto fnExactMayWaysSpec)) fnExactMayWaysUptoCard
end Rows
end Go.Proofs.YtcfendmhhhggeaaDoor
