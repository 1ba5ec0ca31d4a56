/-
  DERIVED. GIVEN WITH THE SEED: THE CARDS: each row of YtejganoipbblcaaGreatDoorRows.lean that lists a variable, with what it lists TIED to the program's text (the seventh form; the later family's looks); each row that meets fmt, with fmt's text TOLD by the authors' own Lean function (tested against real Go, not proved from fmt's source: count such statements apart). THE CARD IS WHAT COUNTS. Prove the row's statement (the work); the ties are given (YtejganoipbblcaaGreatDoorTie.lean); close each card by the builder's one call (the guide's Derived/Test/ToyasCard.lean, 'card_holds'). Laid BY PROGRAM, IN A SANDBOX (cutbox-door.mjs). By AI agents, Wed Nov 11 2026. No macro, syntax, notation, axiom, sorry.
-/
import Derived.Test.YtejganoipbblcaaGreatDoorRows
import GoSem.ClaimSeven
namespace Go.Proofs.YtejganoipbblcaaGreatDoor
namespace Rows

/-- THE TIED CARD OF 'laws.FnPlainSpecValue'. -/
def fnPlainSpecValueCard : Claim7 := { stood := { row := fnPlainSpecValueRow, standIns := [], harness := (true, "6933efefb6e096d9a2a014b580faf256fe9a780daa6d240b09c62b53f6401334"), looks := false }, kinds := [], alts := [], laidByText := true, laidKinds := [.data, .data, .data, .data, .pinned, .pinned], laidTests := true, laidLooks := .later }
def FnPlainSpecValueCardSaid : Prop := Claim7.holds Tryz.pinned (.plain (OpenSpec.ofChange fnPlainSpecValueSpec)) fnPlainSpecValueCard

/-- THE TIED CARD OF 'laws.FnFormatReal'. -/
def fnFormatRealCard : Claim7 := { stood := { row := fnFormatRealRow, standIns := [], harness := (true, "6933efefb6e096d9a2a014b580faf256fe9a780daa6d240b09c62b53f6401334"), looks := false }, kinds := [], alts := [], laidByText := true, laidKinds := [.data, .data, .data, .data, .pinned, .pinned], laidTests := true, laidLooks := .later }
def FnFormatRealCardSaid : Prop := Claim7.holds Tryz.pinned (.plain (OpenSpec.ofChange fnFormatRealSpec)) fnFormatRealCard

/-- THE TIED CARD OF 'laws.FnFormatRealParts'. -/
def fnFormatRealPartsCard : Claim7 := { stood := { row := fnFormatRealPartsRow, standIns := [], harness := (true, "6933efefb6e096d9a2a014b580faf256fe9a780daa6d240b09c62b53f6401334"), looks := false }, kinds := [], alts := [], laidByText := true, laidKinds := [.data, .data, .data, .data, .pinned, .pinned], laidTests := true, laidLooks := .later }
def FnFormatRealPartsCardSaid : Prop := Claim7.holds Tryz.pinned (.plain (OpenSpec.ofChange fnFormatRealPartsSpec)) fnFormatRealPartsCard

/-- THE TIED CARD OF 'laws.FnFormatRealPercent'. -/
def fnFormatRealPercentCard : Claim7 := { stood := { row := fnFormatRealPercentRow, standIns := [], harness := (true, "6933efefb6e096d9a2a014b580faf256fe9a780daa6d240b09c62b53f6401334"), looks := false }, kinds := [], alts := [], laidByText := true, laidKinds := [.data, .data, .data, .data, .pinned, .pinned], laidTests := true, laidLooks := .later }
def FnFormatRealPercentCardSaid : Prop := Claim7.holds Tryz.pinned (.plain (OpenSpec.ofChange fnFormatRealPercentSpec)) fnFormatRealPercentCard

/-- THE TIED CARD OF 'laws.FnFormatRealGroup'. -/
def fnFormatRealGroupCard : Claim7 := { stood := { row := fnFormatRealGroupRow, standIns := [], harness := (true, "6933efefb6e096d9a2a014b580faf256fe9a780daa6d240b09c62b53f6401334"), looks := false }, kinds := [], alts := [], laidByText := true, laidKinds := [.data, .data, .data, .data, .pinned, .pinned], laidTests := true, laidLooks := .later }
def FnFormatRealGroupCardSaid : Prop := Claim7.holds Tryz.pinned (.plain (OpenSpec.ofChange fnFormatRealGroupSpec)) fnFormatRealGroupCard

/-- THE TIED CARD OF 'laws.FnValidValue'. -/
def fnValidValueCard : Claim7 := { stood := { row := fnValidValueRow, standIns := [], harness := (true, "6933efefb6e096d9a2a014b580faf256fe9a780daa6d240b09c62b53f6401334"), looks := false }, kinds := [], alts := [], laidByText := true, laidKinds := [.data, .data, .data, .data, .pinned, .pinned], laidTests := true, laidLooks := .later }
def FnValidValueCardSaid : Prop := Claim7.holds Tryz.pinned (.plain (OpenSpec.ofChange fnValidValueSpec)) fnValidValueCard

/-- THE TIED CARD OF 'laws.FnFormatValue'. -/
def fnFormatValueCard : Claim7 := { stood := { row := fnFormatValueRow, standIns := [], harness := (true, "6933efefb6e096d9a2a014b580faf256fe9a780daa6d240b09c62b53f6401334"), looks := false }, kinds := [], alts := [], laidByText := true, laidKinds := [.data, .data, .data, .data, .pinned, .pinned], laidTests := true, laidLooks := .later }
def FnFormatValueCardSaid : Prop := Claim7.holds Tryz.pinned (.plain (OpenSpec.ofChange fnFormatValueSpec)) fnFormatValueCard

/-- THE TIED CARD OF 'laws.FnExactFormatValue'. -/
def fnExactFormatValueCard : Claim7 := { stood := { row := fnExactFormatValueRow, standIns := [], harness := (true, "6933efefb6e096d9a2a014b580faf256fe9a780daa6d240b09c62b53f6401334"), looks := false }, kinds := [], alts := [], laidByText := true, laidKinds := [.data, .data, .data, .data, .pinned, .pinned], laidTests := true, laidLooks := .later }
def FnExactFormatValueCardSaid : Prop := Claim7.holds Tryz.pinned (.plain (OpenSpec.ofChange fnExactFormatValueSpec)) fnExactFormatValueCard

/-- THE SECOND FORM's CARD OF 'laws.FnPlainSpecValue'. -/
def fnPlainSpecValueUptoCard : Claim7 := { stood := { row := fnPlainSpecValueUptoRow, standIns := [], harness := (true, "6933efefb6e096d9a2a014b580faf256fe9a780daa6d240b09c62b53f6401334"), looks := false }, kinds := [], alts := [], laidByText := true, laidKinds := [.data, .data, .data, .data, .pinned, .pinned], laidTests := true, laidLooks := .later }
def FnPlainSpecValueUptoCardSaid : Prop := Claim7.holds Tryz.pinned (.plain (OpenSpec.upto fnPlainSpecValueSpec)) fnPlainSpecValueUptoCard

/-- THE SECOND FORM's CARD OF 'laws.FnFormatReal'. -/
def fnFormatRealUptoCard : Claim7 := { stood := { row := fnFormatRealUptoRow, standIns := [], harness := (true, "6933efefb6e096d9a2a014b580faf256fe9a780daa6d240b09c62b53f6401334"), looks := false }, kinds := [], alts := [], laidByText := true, laidKinds := [.data, .data, .data, .data, .pinned, .pinned], laidTests := true, laidLooks := .later }
def FnFormatRealUptoCardSaid : Prop := Claim7.holds Tryz.pinned (.plain (OpenSpec.upto fnFormatRealSpec)) fnFormatRealUptoCard

/-- THE SECOND FORM's CARD OF 'laws.FnFormatRealParts'. -/
def fnFormatRealPartsUptoCard : Claim7 := { stood := { row := fnFormatRealPartsUptoRow, standIns := [], harness := (true, "6933efefb6e096d9a2a014b580faf256fe9a780daa6d240b09c62b53f6401334"), looks := false }, kinds := [], alts := [], laidByText := true, laidKinds := [.data, .data, .data, .data, .pinned, .pinned], laidTests := true, laidLooks := .later }
def FnFormatRealPartsUptoCardSaid : Prop := Claim7.holds Tryz.pinned (.plain (OpenSpec.upto fnFormatRealPartsSpec)) fnFormatRealPartsUptoCard

/-- THE SECOND FORM's CARD OF 'laws.FnFormatRealPercent'. -/
def fnFormatRealPercentUptoCard : Claim7 := { stood := { row := fnFormatRealPercentUptoRow, standIns := [], harness := (true, "6933efefb6e096d9a2a014b580faf256fe9a780daa6d240b09c62b53f6401334"), looks := false }, kinds := [], alts := [], laidByText := true, laidKinds := [.data, .data, .data, .data, .pinned, .pinned], laidTests := true, laidLooks := .later }
def FnFormatRealPercentUptoCardSaid : Prop := Claim7.holds Tryz.pinned (.plain (OpenSpec.upto fnFormatRealPercentSpec)) fnFormatRealPercentUptoCard

/-- THE SECOND FORM's CARD OF 'laws.FnFormatRealGroup'. -/
def fnFormatRealGroupUptoCard : Claim7 := { stood := { row := fnFormatRealGroupUptoRow, standIns := [], harness := (true, "6933efefb6e096d9a2a014b580faf256fe9a780daa6d240b09c62b53f6401334"), looks := false }, kinds := [], alts := [], laidByText := true, laidKinds := [.data, .data, .data, .data, .pinned, .pinned], laidTests := true, laidLooks := .later }
def FnFormatRealGroupUptoCardSaid : Prop := Claim7.holds Tryz.pinned (.plain (OpenSpec.upto fnFormatRealGroupSpec)) fnFormatRealGroupUptoCard

/-- THE SECOND FORM's CARD OF 'laws.FnValidValue'. -/
def fnValidValueUptoCard : Claim7 := { stood := { row := fnValidValueUptoRow, standIns := [], harness := (true, "6933efefb6e096d9a2a014b580faf256fe9a780daa6d240b09c62b53f6401334"), looks := false }, kinds := [], alts := [], laidByText := true, laidKinds := [.data, .data, .data, .data, .pinned, .pinned], laidTests := true, laidLooks := .later }
def FnValidValueUptoCardSaid : Prop := Claim7.holds Tryz.pinned (.plain (OpenSpec.upto fnValidValueSpec)) fnValidValueUptoCard

/-- THE SECOND FORM's CARD OF 'laws.FnFormatValue'. -/
def fnFormatValueUptoCard : Claim7 := { stood := { row := fnFormatValueUptoRow, standIns := [], harness := (true, "6933efefb6e096d9a2a014b580faf256fe9a780daa6d240b09c62b53f6401334"), looks := false }, kinds := [], alts := [], laidByText := true, laidKinds := [.data, .data, .data, .data, .pinned, .pinned], laidTests := true, laidLooks := .later }
def FnFormatValueUptoCardSaid : Prop := Claim7.holds Tryz.pinned (.plain (OpenSpec.upto fnFormatValueSpec)) fnFormatValueUptoCard

/-- THE SECOND FORM's CARD OF 'laws.FnExactFormatValue'. -/
def fnExactFormatValueUptoCard : Claim7 := { stood := { row := fnExactFormatValueUptoRow, standIns := [], harness := (true, "6933efefb6e096d9a2a014b580faf256fe9a780daa6d240b09c62b53f6401334"), looks := false }, kinds := [], alts := [], laidByText := true, laidKinds := [.data, .data, .data, .data, .pinned, .pinned], laidTests := true, laidLooks := .later }
def FnExactFormatValueUptoCardSaid : Prop := Claim7.holds Tryz.pinned (.plain (OpenSpec.upto fnExactFormatValueSpec)) fnExactFormatValueUptoCard
end Rows
end Go.Proofs.YtejganoipbblcaaGreatDoor
