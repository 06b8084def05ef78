/-
  DERIVED. GIVEN WITH THE SEED: THE CARDS: each row of YtnnpooemdonbhaaDoorRows.lean that lists a variable, with what it lists TIED to the program's text (the seventh form; the later family's looks); each row that meets fmt, with fmt's text TOLD by the authors' own Lean function (tested against real Go, not proved from fmt's source: count such statements apart). THE CARD IS WHAT COUNTS. Prove the row's statement (the work); the ties are given (YtnnpooemdonbhaaDoorTie.lean); close each card by the builder's one call (the guide's Derived/Test/ToyasCard.lean, 'card_holds'). Laid BY PROGRAM, IN A SANDBOX (cutbox-door.mjs). By AI agents, Wed Nov 11 2026. No macro, syntax, notation, axiom, sorry.
-/
import Derived.Test.YtnnpooemdonbhaaDoorRows
import GoSem.ClaimSeven
namespace Go.Proofs.YtnnpooemdonbhaaDoor
namespace Rows

/-- THE TIED CARD OF 'laws.FnJoinsPairs'. -/
def fnJoinsPairsCard : Claim7 := { stood := { row := fnJoinsPairsRow, standIns := [], harness := (true, "832c855b38d6d25a8eb25498f499eaba77da6c29f9b3d4b2d69f0a066ef955d5"), looks := false }, kinds := [], alts := [], laidByText := true, laidKinds := [.data, .data], laidTests := true, laidLooks := .later }
def FnJoinsPairsCardSaid : Prop := Claim7.holds Tryd.pinned (.plain (OpenSpec.ofChange fnJoinsPairsSpec)) fnJoinsPairsCard

/-- THE TIED CARD OF 'laws.FnPairsOf'. -/
def fnPairsOfCard : Claim7 := { stood := { row := fnPairsOfRow, standIns := [], harness := (true, "832c855b38d6d25a8eb25498f499eaba77da6c29f9b3d4b2d69f0a066ef955d5"), looks := false }, kinds := [], alts := [], laidByText := true, laidKinds := [.data, .data], laidTests := true, laidLooks := .later }
def FnPairsOfCardSaid : Prop := Claim7.holds Tryd.pinned (.plain (OpenSpec.ofChange fnPairsOfSpec)) fnPairsOfCard

/-- THE TIED CARD OF 'laws.FnPairsCost'. -/
def fnPairsCostCard : Claim7 := { stood := { row := fnPairsCostRow, standIns := [], harness := (true, "832c855b38d6d25a8eb25498f499eaba77da6c29f9b3d4b2d69f0a066ef955d5"), looks := false }, kinds := [], alts := [], laidByText := true, laidKinds := [.data, .data], laidTests := true, laidLooks := .later }
def FnPairsCostCardSaid : Prop := Claim7.holds Tryd.pinned (.plain (OpenSpec.ofChange fnPairsCostSpec)) fnPairsCostCard

/-- THE TIED CARD OF 'laws.FnPartMany'. -/
def fnPartManyCard : Claim7 := { stood := { row := fnPartManyRow, standIns := [], harness := (true, "832c855b38d6d25a8eb25498f499eaba77da6c29f9b3d4b2d69f0a066ef955d5"), looks := false }, kinds := [], alts := [], laidByText := true, laidKinds := [.data, .data], laidTests := true, laidLooks := .later }
def FnPartManyCardSaid : Prop := Claim7.holds Tryd.pinned (.plain (OpenSpec.ofChange fnPartManySpec)) fnPartManyCard

/-- THE TIED CARD OF 'laws.FnPairsMore'. -/
def fnPairsMoreCard : Claim7 := { stood := { row := fnPairsMoreRow, standIns := [], harness := (true, "832c855b38d6d25a8eb25498f499eaba77da6c29f9b3d4b2d69f0a066ef955d5"), looks := false }, kinds := [], alts := [], laidByText := true, laidKinds := [.data, .data], laidTests := true, laidLooks := .later }
def FnPairsMoreCardSaid : Prop := Claim7.holds Tryd.pinned (.plain (OpenSpec.ofChange fnPairsMoreSpec)) fnPairsMoreCard

/-- THE TIED CARD OF 'laws.FnExactJoinsPairs'. -/
def fnExactJoinsPairsCard : Claim7 := { stood := { row := fnExactJoinsPairsRow, standIns := [], harness := (true, "832c855b38d6d25a8eb25498f499eaba77da6c29f9b3d4b2d69f0a066ef955d5"), looks := false }, kinds := [], alts := [], laidByText := true, laidKinds := [.data, .data], laidTests := true, laidLooks := .later }
def FnExactJoinsPairsCardSaid : Prop := Claim7.holds Tryd.pinned (.plain (OpenSpec.ofChange fnExactJoinsPairsSpec)) fnExactJoinsPairsCard

/-- THE TIED CARD OF 'laws.FnExactPairsOf'. -/
def fnExactPairsOfCard : Claim7 := { stood := { row := fnExactPairsOfRow, standIns := [], harness := (true, "832c855b38d6d25a8eb25498f499eaba77da6c29f9b3d4b2d69f0a066ef955d5"), looks := false }, kinds := [], alts := [], laidByText := true, laidKinds := [.data, .data], laidTests := true, laidLooks := .later }
def FnExactPairsOfCardSaid : Prop := Claim7.holds Tryd.pinned (.plain (OpenSpec.ofChange fnExactPairsOfSpec)) fnExactPairsOfCard

/-- THE TIED CARD OF 'laws.FnExactPairsCost'. -/
def fnExactPairsCostCard : Claim7 := { stood := { row := fnExactPairsCostRow, standIns := [], harness := (true, "832c855b38d6d25a8eb25498f499eaba77da6c29f9b3d4b2d69f0a066ef955d5"), looks := false }, kinds := [], alts := [], laidByText := true, laidKinds := [.data, .data], laidTests := true, laidLooks := .later }
def FnExactPairsCostCardSaid : Prop := Claim7.holds Tryd.pinned (.plain (OpenSpec.ofChange fnExactPairsCostSpec)) fnExactPairsCostCard

/-- THE TIED CARD OF 'laws.FnExactPartMany'. -/
def fnExactPartManyCard : Claim7 := { stood := { row := fnExactPartManyRow, standIns := [], harness := (true, "832c855b38d6d25a8eb25498f499eaba77da6c29f9b3d4b2d69f0a066ef955d5"), looks := false }, kinds := [], alts := [], laidByText := true, laidKinds := [.data, .data], laidTests := true, laidLooks := .later }
def FnExactPartManyCardSaid : Prop := Claim7.holds Tryd.pinned (.plain (OpenSpec.ofChange fnExactPartManySpec)) fnExactPartManyCard

/-- THE SECOND FORM's CARD OF 'laws.FnJoinsPairs'. -/
def fnJoinsPairsUptoCard : Claim7 := { stood := { row := fnJoinsPairsUptoRow, standIns := [], harness := (true, "832c855b38d6d25a8eb25498f499eaba77da6c29f9b3d4b2d69f0a066ef955d5"), looks := false }, kinds := [], alts := [], laidByText := true, laidKinds := [.data, .data], laidTests := true, laidLooks := .later }
def FnJoinsPairsUptoCardSaid : Prop := Claim7.holds Tryd.pinned (.plain (OpenSpec.upto fnJoinsPairsSpec)) fnJoinsPairsUptoCard

/-- THE SECOND FORM's CARD OF 'laws.FnPairsOf'. -/
def fnPairsOfUptoCard : Claim7 := { stood := { row := fnPairsOfUptoRow, standIns := [], harness := (true, "832c855b38d6d25a8eb25498f499eaba77da6c29f9b3d4b2d69f0a066ef955d5"), looks := false }, kinds := [], alts := [], laidByText := true, laidKinds := [.data, .data], laidTests := true, laidLooks := .later }
def FnPairsOfUptoCardSaid : Prop := Claim7.holds Tryd.pinned (.plain (OpenSpec.upto fnPairsOfSpec)) fnPairsOfUptoCard

/-- THE SECOND FORM's CARD OF 'laws.FnPairsCost'. -/
def fnPairsCostUptoCard : Claim7 := { stood := { row := fnPairsCostUptoRow, standIns := [], harness := (true, "832c855b38d6d25a8eb25498f499eaba77da6c29f9b3d4b2d69f0a066ef955d5"), looks := false }, kinds := [], alts := [], laidByText := true, laidKinds := [.data, .data], laidTests := true, laidLooks := .later }
def FnPairsCostUptoCardSaid : Prop := Claim7.holds Tryd.pinned (.plain (OpenSpec.upto fnPairsCostSpec)) fnPairsCostUptoCard

/-- THE SECOND FORM's CARD OF 'laws.FnPartMany'. -/
def fnPartManyUptoCard : Claim7 := { stood := { row := fnPartManyUptoRow, standIns := [], harness := (true, "832c855b38d6d25a8eb25498f499eaba77da6c29f9b3d4b2d69f0a066ef955d5"), looks := false }, kinds := [], alts := [], laidByText := true, laidKinds := [.data, .data], laidTests := true, laidLooks := .later }
def FnPartManyUptoCardSaid : Prop := Claim7.holds Tryd.pinned (.plain (OpenSpec.upto fnPartManySpec)) fnPartManyUptoCard

/-- THE SECOND FORM's CARD OF 'laws.FnPairsMore'. -/
def fnPairsMoreUptoCard : Claim7 := { stood := { row := fnPairsMoreUptoRow, standIns := [], harness := (true, "832c855b38d6d25a8eb25498f499eaba77da6c29f9b3d4b2d69f0a066ef955d5"), looks := false }, kinds := [], alts := [], laidByText := true, laidKinds := [.data, .data], laidTests := true, laidLooks := .later }
def FnPairsMoreUptoCardSaid : Prop := Claim7.holds Tryd.pinned (.plain (OpenSpec.upto fnPairsMoreSpec)) fnPairsMoreUptoCard

/-- THE SECOND FORM's CARD OF 'laws.FnExactJoinsPairs'. -/
def fnExactJoinsPairsUptoCard : Claim7 := { stood := { row := fnExactJoinsPairsUptoRow, standIns := [], harness := (true, "832c855b38d6d25a8eb25498f499eaba77da6c29f9b3d4b2d69f0a066ef955d5"), looks := false }, kinds := [], alts := [], laidByText := true, laidKinds := [.data, .data], laidTests := true, laidLooks := .later }
def FnExactJoinsPairsUptoCardSaid : Prop := Claim7.holds Tryd.pinned (.plain (OpenSpec.upto fnExactJoinsPairsSpec)) fnExactJoinsPairsUptoCard

/-- THE SECOND FORM's CARD OF 'laws.FnExactPairsOf'. -/
def fnExactPairsOfUptoCard : Claim7 := { stood := { row := fnExactPairsOfUptoRow, standIns := [], harness := (true, "832c855b38d6d25a8eb25498f499eaba77da6c29f9b3d4b2d69f0a066ef955d5"), looks := false }, kinds := [], alts := [], laidByText := true, laidKinds := [.data, .data], laidTests := true, laidLooks := .later }
def FnExactPairsOfUptoCardSaid : Prop := Claim7.holds Tryd.pinned (.plain (OpenSpec.upto fnExactPairsOfSpec)) fnExactPairsOfUptoCard

/-- THE SECOND FORM's CARD OF 'laws.FnExactPairsCost'. -/
def fnExactPairsCostUptoCard : Claim7 := { stood := { row := fnExactPairsCostUptoRow, standIns := [], harness := (true, "832c855b38d6d25a8eb25498f499eaba77da6c29f9b3d4b2d69f0a066ef955d5"), looks := false }, kinds := [], alts := [], laidByText := true, laidKinds := [.data, .data], laidTests := true, laidLooks := .later }
def FnExactPairsCostUptoCardSaid : Prop := Claim7.holds Tryd.pinned (.plain (OpenSpec.upto fnExactPairsCostSpec)) fnExactPairsCostUptoCard

/-- THE SECOND FORM's CARD OF 'laws.FnExactPartMany'. -/
def fnExactPartManyUptoCard : Claim7 := { stood := { row := fnExactPartManyUptoRow, standIns := [], harness := (true, "832c855b38d6d25a8eb25498f499eaba77da6c29f9b3d4b2d69f0a066ef955d5"), looks := false }, kinds := [], alts := [], laidByText := true, laidKinds := [.data, .data], laidTests := true, laidLooks := .later }
def FnExactPartManyUptoCardSaid : Prop := Claim7.holds Tryd.pinned (.plain (OpenSpec.upto fnExactPartManySpec)) fnExactPartManyUptoCard
end Rows
end Go.Proofs.YtnnpooemdonbhaaDoor
