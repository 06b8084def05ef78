/-
  DERIVED. GIVEN WITH THE SEED: THE CARDS: each row of YtiioojjjpabaeaaDoorRows.lean that lists a variable, with what it lists TIED to the program's text (the seventh form; the later family's looks); each row that meets fmt, with fmt's text TOLD by the authors' own Lean function (tested against real Go, not proved from fmt's source: count such statements apart). THE CARD IS WHAT COUNTS. Prove the row's statement (the work); the ties are given (YtiioojjjpabaeaaDoorTie.lean); close each card by the builder's one call (the guide's Derived/Test/ToyasCard.lean, 'card_holds'). Laid BY PROGRAM, IN A SANDBOX (cutbox-door.mjs). By AI agents, Wed Nov 11 2026. No macro, syntax, notation, axiom, sorry.
-/
import Derived.Test.YtiioojjjpabaeaaDoorRows
import GoSem.ClaimSeven
namespace Go.Proofs.YtiioojjjpabaeaaDoor
namespace Rows

/-- THE TIED CARD OF 'laws.FnPartsEnds'. -/
def fnPartsEndsCard : Claim7 := { stood := { row := fnPartsEndsRow, standIns := [], harness := (true, "0915a2a9dcbe40e01a954f0f6aa4f4406627a0a65ec354208ca14b54266c2905"), looks := false }, kinds := [], alts := [], laidByText := true, laidKinds := [.data, .data], laidTests := true, laidLooks := .later }
def FnPartsEndsCardSaid : Prop := Claim7.holds Tryd.pinned (.plain (OpenSpec.ofChange fnPartsEndsSpec)) fnPartsEndsCard

/-- THE TIED CARD OF 'laws.FnPackSum'. -/
def fnPackSumCard : Claim7 := { stood := { row := fnPackSumRow, standIns := [], harness := (true, "0915a2a9dcbe40e01a954f0f6aa4f4406627a0a65ec354208ca14b54266c2905"), looks := false }, kinds := [], alts := [], laidByText := true, laidKinds := [.data, .data], laidTests := true, laidLooks := .later }
def FnPackSumCardSaid : Prop := Claim7.holds Tryd.pinned (.plain (OpenSpec.ofChange fnPackSumSpec)) fnPackSumCard

/-- THE TIED CARD OF 'laws.FnCutSpan'. -/
def fnCutSpanCard : Claim7 := { stood := { row := fnCutSpanRow, standIns := [], harness := (true, "0915a2a9dcbe40e01a954f0f6aa4f4406627a0a65ec354208ca14b54266c2905"), looks := false }, kinds := [], alts := [], laidByText := true, laidKinds := [.data, .data], laidTests := true, laidLooks := .later }
def FnCutSpanCardSaid : Prop := Claim7.holds Tryd.pinned (.plain (OpenSpec.ofChange fnCutSpanSpec)) fnCutSpanCard

/-- THE SECOND FORM's CARD OF 'laws.FnPartsEnds'. -/
def fnPartsEndsUptoCard : Claim7 := { stood := { row := fnPartsEndsUptoRow, standIns := [], harness := (true, "0915a2a9dcbe40e01a954f0f6aa4f4406627a0a65ec354208ca14b54266c2905"), looks := false }, kinds := [], alts := [], laidByText := true, laidKinds := [.data, .data], laidTests := true, laidLooks := .later }
def FnPartsEndsUptoCardSaid : Prop := Claim7.holds Tryd.pinned (.plain (OpenSpec.upto fnPartsEndsSpec)) fnPartsEndsUptoCard

/-- THE SECOND FORM's CARD OF 'laws.FnPackSum'. -/
def fnPackSumUptoCard : Claim7 := { stood := { row := fnPackSumUptoRow, standIns := [], harness := (true, "0915a2a9dcbe40e01a954f0f6aa4f4406627a0a65ec354208ca14b54266c2905"), looks := false }, kinds := [], alts := [], laidByText := true, laidKinds := [.data, .data], laidTests := true, laidLooks := .later }
def FnPackSumUptoCardSaid : Prop := Claim7.holds Tryd.pinned (.plain (OpenSpec.upto fnPackSumSpec)) fnPackSumUptoCard

/-- THE SECOND FORM's CARD OF 'laws.FnCutSpan'. -/
def fnCutSpanUptoCard : Claim7 := { stood := { row := fnCutSpanUptoRow, standIns := [], harness := (true, "0915a2a9dcbe40e01a954f0f6aa4f4406627a0a65ec354208ca14b54266c2905"), looks := false }, kinds := [], alts := [], laidByText := true, laidKinds := [.data, .data], laidTests := true, laidLooks := .later }
def FnCutSpanUptoCardSaid : Prop := Claim7.holds Tryd.pinned (.plain (OpenSpec.upto fnCutSpanSpec)) fnCutSpanUptoCard
end Rows
end Go.Proofs.YtiioojjjpabaeaaDoor
