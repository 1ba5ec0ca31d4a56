/-
  DERIVED. GIVEN WITH THE SEED: THE CARDS: each row of YtkpdpohnbnpelaaDoorRows.lean that lists a variable, with what it lists TIED to the program's text (the seventh form; the later family's looks); each row that meets fmt, with fmt's text TOLD by the authors' own Lean function (tested against real Go, not proved from fmt's source: count such statements apart). THE CARD IS WHAT COUNTS. Prove the row's statement (the work); the ties are given (YtkpdpohnbnpelaaDoorTie.lean); close each card by the builder's one call (the guide's Derived/Test/ToyasCard.lean, 'card_holds'). Laid BY PROGRAM, IN A SANDBOX (cutbox-door.mjs). By AI agents, Wed Nov 11 2026. No macro, syntax, notation, axiom, sorry.
-/
import Derived.Test.YtkpdpohnbnpelaaDoorRows
import GoSem.ClaimSeven
namespace Go.Proofs.YtkpdpohnbnpelaaDoor
namespace Rows

/-- THE TIED CARD OF 'laws.FnExactParseSpec'. -/
def fnExactParseSpecCard : Claim7 := { stood := { row := fnExactParseSpecRow, standIns := [], harness := (true, "e363af9c8ccf08111d76afdb434eccbbf8f49c4be77de3f1954de84d3780a304"), looks := false }, kinds := [], alts := [], laidByText := true, laidKinds := [.data, .data, .data], laidTests := true, laidLooks := .later }
def FnExactParseSpecCardSaid : Prop := Claim7.holds Tryd.pinned (.plain (OpenSpec.ofChange fnExactParseSpecSpec)) fnExactParseSpecCard

/-- THE TIED CARD OF 'laws.FnExactDigitsIn'. -/
def fnExactDigitsInCard : Claim7 := { stood := { row := fnExactDigitsInRow, standIns := [], harness := (true, "e363af9c8ccf08111d76afdb434eccbbf8f49c4be77de3f1954de84d3780a304"), looks := false }, kinds := [], alts := [], laidByText := true, laidKinds := [.data, .data, .data], laidTests := true, laidLooks := .later }
def FnExactDigitsInCardSaid : Prop := Claim7.holds Tryd.pinned (.plain (OpenSpec.ofChange fnExactDigitsInSpec)) fnExactDigitsInCard

/-- THE TIED CARD OF 'laws.FnExactUngroupDigits'. -/
def fnExactUngroupDigitsCard : Claim7 := { stood := { row := fnExactUngroupDigitsRow, standIns := [], harness := (true, "e363af9c8ccf08111d76afdb434eccbbf8f49c4be77de3f1954de84d3780a304"), looks := false }, kinds := [], alts := [], laidByText := true, laidKinds := [.data, .pinned], laidTests := true, laidLooks := .later }
def FnExactUngroupDigitsCardSaid : Prop := Claim7.holds Tryd.pinned (.plain (OpenSpec.ofChange fnExactUngroupDigitsSpec)) fnExactUngroupDigitsCard

/-- THE TIED CARD OF 'laws.FnExactReadWhole'. -/
def fnExactReadWholeCard : Claim7 := { stood := { row := fnExactReadWholeRow, standIns := [], harness := (true, "e363af9c8ccf08111d76afdb434eccbbf8f49c4be77de3f1954de84d3780a304"), looks := false }, kinds := [], alts := [], laidByText := true, laidKinds := [.data, .pinned], laidTests := true, laidLooks := .later }
def FnExactReadWholeCardSaid : Prop := Claim7.holds Tryd.pinned (.plain (OpenSpec.ofChange fnExactReadWholeSpec)) fnExactReadWholeCard

/-- THE TIED CARD OF 'laws.FnDigitsIn'. -/
def fnDigitsInCard : Claim7 := { stood := { row := fnDigitsInRow, standIns := [], harness := (true, "e363af9c8ccf08111d76afdb434eccbbf8f49c4be77de3f1954de84d3780a304"), looks := false }, kinds := [], alts := [], laidByText := true, laidKinds := [.data, .data, .data], laidTests := true, laidLooks := .later }
def FnDigitsInCardSaid : Prop := Claim7.holds Tryd.pinned (.plain (OpenSpec.ofChange fnDigitsInSpec)) fnDigitsInCard

/-- THE TIED CARD OF 'laws.FnValueIn'. -/
def fnValueInCard : Claim7 := { stood := { row := fnValueInRow, standIns := [], harness := (true, "e363af9c8ccf08111d76afdb434eccbbf8f49c4be77de3f1954de84d3780a304"), looks := false }, kinds := [], alts := [], laidByText := true, laidKinds := [.data, .data, .data], laidTests := true, laidLooks := .later }
def FnValueInCardSaid : Prop := Claim7.holds Tryd.pinned (.plain (OpenSpec.ofChange fnValueInSpec)) fnValueInCard

/-- THE TIED CARD OF 'laws.FnGroupDigits'. -/
def fnGroupDigitsCard : Claim7 := { stood := { row := fnGroupDigitsRow, standIns := [], harness := (true, "e363af9c8ccf08111d76afdb434eccbbf8f49c4be77de3f1954de84d3780a304"), looks := false }, kinds := [], alts := [], laidByText := true, laidKinds := [.data, .pinned], laidTests := true, laidLooks := .later }
def FnGroupDigitsCardSaid : Prop := Claim7.holds Tryd.pinned (.plain (OpenSpec.ofChange fnGroupDigitsSpec)) fnGroupDigitsCard

/-- THE TIED CARD OF 'laws.FnUngroupDigits'. -/
def fnUngroupDigitsCard : Claim7 := { stood := { row := fnUngroupDigitsRow, standIns := [], harness := (true, "e363af9c8ccf08111d76afdb434eccbbf8f49c4be77de3f1954de84d3780a304"), looks := false }, kinds := [], alts := [], laidByText := true, laidKinds := [.data, .pinned], laidTests := true, laidLooks := .later }
def FnUngroupDigitsCardSaid : Prop := Claim7.holds Tryd.pinned (.plain (OpenSpec.ofChange fnUngroupDigitsSpec)) fnUngroupDigitsCard

/-- THE SECOND FORM's CARD OF 'laws.FnExactParseSpec'. -/
def fnExactParseSpecUptoCard : Claim7 := { stood := { row := fnExactParseSpecUptoRow, standIns := [], harness := (true, "e363af9c8ccf08111d76afdb434eccbbf8f49c4be77de3f1954de84d3780a304"), looks := false }, kinds := [], alts := [], laidByText := true, laidKinds := [.data, .data, .data], laidTests := true, laidLooks := .later }
def FnExactParseSpecUptoCardSaid : Prop := Claim7.holds Tryd.pinned (.plain (OpenSpec.upto fnExactParseSpecSpec)) fnExactParseSpecUptoCard

/-- THE SECOND FORM's CARD OF 'laws.FnExactDigitsIn'. -/
def fnExactDigitsInUptoCard : Claim7 := { stood := { row := fnExactDigitsInUptoRow, standIns := [], harness := (true, "e363af9c8ccf08111d76afdb434eccbbf8f49c4be77de3f1954de84d3780a304"), looks := false }, kinds := [], alts := [], laidByText := true, laidKinds := [.data, .data, .data], laidTests := true, laidLooks := .later }
def FnExactDigitsInUptoCardSaid : Prop := Claim7.holds Tryd.pinned (.plain (OpenSpec.upto fnExactDigitsInSpec)) fnExactDigitsInUptoCard

/-- THE SECOND FORM's CARD OF 'laws.FnExactUngroupDigits'. -/
def fnExactUngroupDigitsUptoCard : Claim7 := { stood := { row := fnExactUngroupDigitsUptoRow, standIns := [], harness := (true, "e363af9c8ccf08111d76afdb434eccbbf8f49c4be77de3f1954de84d3780a304"), looks := false }, kinds := [], alts := [], laidByText := true, laidKinds := [.data, .pinned], laidTests := true, laidLooks := .later }
def FnExactUngroupDigitsUptoCardSaid : Prop := Claim7.holds Tryd.pinned (.plain (OpenSpec.upto fnExactUngroupDigitsSpec)) fnExactUngroupDigitsUptoCard

/-- THE SECOND FORM's CARD OF 'laws.FnExactReadWhole'. -/
def fnExactReadWholeUptoCard : Claim7 := { stood := { row := fnExactReadWholeUptoRow, standIns := [], harness := (true, "e363af9c8ccf08111d76afdb434eccbbf8f49c4be77de3f1954de84d3780a304"), looks := false }, kinds := [], alts := [], laidByText := true, laidKinds := [.data, .pinned], laidTests := true, laidLooks := .later }
def FnExactReadWholeUptoCardSaid : Prop := Claim7.holds Tryd.pinned (.plain (OpenSpec.upto fnExactReadWholeSpec)) fnExactReadWholeUptoCard

/-- THE SECOND FORM's CARD OF 'laws.FnDigitsIn'. -/
def fnDigitsInUptoCard : Claim7 := { stood := { row := fnDigitsInUptoRow, standIns := [], harness := (true, "e363af9c8ccf08111d76afdb434eccbbf8f49c4be77de3f1954de84d3780a304"), looks := false }, kinds := [], alts := [], laidByText := true, laidKinds := [.data, .data, .data], laidTests := true, laidLooks := .later }
def FnDigitsInUptoCardSaid : Prop := Claim7.holds Tryd.pinned (.plain (OpenSpec.upto fnDigitsInSpec)) fnDigitsInUptoCard

/-- THE SECOND FORM's CARD OF 'laws.FnValueIn'. -/
def fnValueInUptoCard : Claim7 := { stood := { row := fnValueInUptoRow, standIns := [], harness := (true, "e363af9c8ccf08111d76afdb434eccbbf8f49c4be77de3f1954de84d3780a304"), looks := false }, kinds := [], alts := [], laidByText := true, laidKinds := [.data, .data, .data], laidTests := true, laidLooks := .later }
def FnValueInUptoCardSaid : Prop := Claim7.holds Tryd.pinned (.plain (OpenSpec.upto fnValueInSpec)) fnValueInUptoCard

/-- THE SECOND FORM's CARD OF 'laws.FnGroupDigits'. -/
def fnGroupDigitsUptoCard : Claim7 := { stood := { row := fnGroupDigitsUptoRow, standIns := [], harness := (true, "e363af9c8ccf08111d76afdb434eccbbf8f49c4be77de3f1954de84d3780a304"), looks := false }, kinds := [], alts := [], laidByText := true, laidKinds := [.data, .pinned], laidTests := true, laidLooks := .later }
def FnGroupDigitsUptoCardSaid : Prop := Claim7.holds Tryd.pinned (.plain (OpenSpec.upto fnGroupDigitsSpec)) fnGroupDigitsUptoCard

/-- THE SECOND FORM's CARD OF 'laws.FnUngroupDigits'. -/
def fnUngroupDigitsUptoCard : Claim7 := { stood := { row := fnUngroupDigitsUptoRow, standIns := [], harness := (true, "e363af9c8ccf08111d76afdb434eccbbf8f49c4be77de3f1954de84d3780a304"), looks := false }, kinds := [], alts := [], laidByText := true, laidKinds := [.data, .pinned], laidTests := true, laidLooks := .later }
def FnUngroupDigitsUptoCardSaid : Prop := Claim7.holds Tryd.pinned (.plain (OpenSpec.upto fnUngroupDigitsSpec)) fnUngroupDigitsUptoCard
end Rows
end Go.Proofs.YtkpdpohnbnpelaaDoor
