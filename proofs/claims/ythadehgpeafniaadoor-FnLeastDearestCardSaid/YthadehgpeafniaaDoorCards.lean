/-
  DERIVED. GIVEN WITH THE SEED: THE CARDS: each row of YthadehgpeafniaaDoorRows.lean that lists a variable, with what it lists TIED to the program's text (the seventh form; the later family's looks); each row that meets fmt, with fmt's text TOLD by the authors' own Lean function (tested against real Go, not proved from fmt's source: count such statements apart). THE CARD IS WHAT COUNTS. Prove the row's statement (the work); the ties are given (YthadehgpeafniaaDoorTie.lean); close each card by the builder's one call (the guide's Derived/Test/ToyasCard.lean, 'card_holds'). Laid BY PROGRAM, IN A SANDBOX (cutbox-door.mjs). By AI agents, Wed Nov 11 2026. No macro, syntax, notation, axiom, sorry.
-/
import Derived.Test.YthadehgpeafniaaDoorRows
import GoSem.ClaimSeven
namespace Go.Proofs.YthadehgpeafniaaDoor
namespace Rows

/-- THE TIED CARD OF 'laws.FnLeastDearest'. -/
def fnLeastDearestCard : Claim7 := { stood := { row := fnLeastDearestRow, standIns := [], harness := (true, "9cb00a96e4868d1dd64cfef1f40fc99122d477faadc244632a0c0bb2013e926d"), looks := false }, kinds := [], alts := [], laidByText := true, laidKinds := [.data, .data], laidTests := true, laidLooks := .later }
def FnLeastDearestCardSaid : Prop := Claim7.holds Tryd.pinned (.plain (OpenSpec.ofChange fnLeastDearestSpec)) fnLeastDearestCard

/-- THE TIED CARD OF 'laws.FnFarthestRow'. -/
def fnFarthestRowCard : Claim7 := { stood := { row := fnFarthestRowRow, standIns := [], harness := (true, "9cb00a96e4868d1dd64cfef1f40fc99122d477faadc244632a0c0bb2013e926d"), looks := false }, kinds := [], alts := [], laidByText := true, laidKinds := [.data, .data], laidTests := true, laidLooks := .later }
def FnFarthestRowCardSaid : Prop := Claim7.holds Tryd.pinned (.plain (OpenSpec.ofChange fnFarthestRowSpec)) fnFarthestRowCard

/-- THE TIED CARD OF 'laws.FnCentreOf'. -/
def fnCentreOfCard : Claim7 := { stood := { row := fnCentreOfRow, standIns := [], harness := (true, "9cb00a96e4868d1dd64cfef1f40fc99122d477faadc244632a0c0bb2013e926d"), looks := false }, kinds := [], alts := [], laidByText := true, laidKinds := [.data, .data], laidTests := true, laidLooks := .later }
def FnCentreOfCardSaid : Prop := Claim7.holds Tryd.pinned (.plain (OpenSpec.ofChange fnCentreOfSpec)) fnCentreOfCard

/-- THE TIED CARD OF 'laws.FnDearestSpan'. -/
def fnDearestSpanCard : Claim7 := { stood := { row := fnDearestSpanRow, standIns := [], harness := (true, "9cb00a96e4868d1dd64cfef1f40fc99122d477faadc244632a0c0bb2013e926d"), looks := false }, kinds := [], alts := [], laidByText := true, laidKinds := [.data, .data], laidTests := true, laidLooks := .later }
def FnDearestSpanCardSaid : Prop := Claim7.holds Tryd.pinned (.plain (OpenSpec.ofChange fnDearestSpanSpec)) fnDearestSpanCard

/-- THE TIED CARD OF 'laws.FnExactLeastDearest'. -/
def fnExactLeastDearestCard : Claim7 := { stood := { row := fnExactLeastDearestRow, standIns := [], harness := (true, "9cb00a96e4868d1dd64cfef1f40fc99122d477faadc244632a0c0bb2013e926d"), looks := false }, kinds := [], alts := [], laidByText := true, laidKinds := [.data, .data], laidTests := true, laidLooks := .later }
def FnExactLeastDearestCardSaid : Prop := Claim7.holds Tryd.pinned (.plain (OpenSpec.ofChange fnExactLeastDearestSpec)) fnExactLeastDearestCard

/-- THE SECOND FORM's CARD OF 'laws.FnLeastDearest'. -/
def fnLeastDearestUptoCard : Claim7 := { stood := { row := fnLeastDearestUptoRow, standIns := [], harness := (true, "9cb00a96e4868d1dd64cfef1f40fc99122d477faadc244632a0c0bb2013e926d"), looks := false }, kinds := [], alts := [], laidByText := true, laidKinds := [.data, .data], laidTests := true, laidLooks := .later }
def FnLeastDearestUptoCardSaid : Prop := Claim7.holds Tryd.pinned (.plain (OpenSpec.upto fnLeastDearestSpec)) fnLeastDearestUptoCard

/-- THE SECOND FORM's CARD OF 'laws.FnFarthestRow'. -/
def fnFarthestRowUptoCard : Claim7 := { stood := { row := fnFarthestRowUptoRow, standIns := [], harness := (true, "9cb00a96e4868d1dd64cfef1f40fc99122d477faadc244632a0c0bb2013e926d"), looks := false }, kinds := [], alts := [], laidByText := true, laidKinds := [.data, .data], laidTests := true, laidLooks := .later }
def FnFarthestRowUptoCardSaid : Prop := Claim7.holds Tryd.pinned (.plain (OpenSpec.upto fnFarthestRowSpec)) fnFarthestRowUptoCard

/-- THE SECOND FORM's CARD OF 'laws.FnCentreOf'. -/
def fnCentreOfUptoCard : Claim7 := { stood := { row := fnCentreOfUptoRow, standIns := [], harness := (true, "9cb00a96e4868d1dd64cfef1f40fc99122d477faadc244632a0c0bb2013e926d"), looks := false }, kinds := [], alts := [], laidByText := true, laidKinds := [.data, .data], laidTests := true, laidLooks := .later }
def FnCentreOfUptoCardSaid : Prop := Claim7.holds Tryd.pinned (.plain (OpenSpec.upto fnCentreOfSpec)) fnCentreOfUptoCard

/-- THE SECOND FORM's CARD OF 'laws.FnDearestSpan'. -/
def fnDearestSpanUptoCard : Claim7 := { stood := { row := fnDearestSpanUptoRow, standIns := [], harness := (true, "9cb00a96e4868d1dd64cfef1f40fc99122d477faadc244632a0c0bb2013e926d"), looks := false }, kinds := [], alts := [], laidByText := true, laidKinds := [.data, .data], laidTests := true, laidLooks := .later }
def FnDearestSpanUptoCardSaid : Prop := Claim7.holds Tryd.pinned (.plain (OpenSpec.upto fnDearestSpanSpec)) fnDearestSpanUptoCard

/-- THE SECOND FORM's CARD OF 'laws.FnExactLeastDearest'. -/
def fnExactLeastDearestUptoCard : Claim7 := { stood := { row := fnExactLeastDearestUptoRow, standIns := [], harness := (true, "9cb00a96e4868d1dd64cfef1f40fc99122d477faadc244632a0c0bb2013e926d"), looks := false }, kinds := [], alts := [], laidByText := true, laidKinds := [.data, .data], laidTests := true, laidLooks := .later }
def FnExactLeastDearestUptoCardSaid : Prop := Claim7.holds Tryd.pinned (.plain (OpenSpec.upto fnExactLeastDearestSpec)) fnExactLeastDearestUptoCard
end Rows
end Go.Proofs.YthadehgpeafniaaDoor
