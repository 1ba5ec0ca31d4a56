/-
  DERIVED. GIVEN WITH THE SEED: THE CARDS: each row of YtkpdpohnbnpelaaGreatDoorRows.lean that lists a variable, with what it lists TIED to the program's text (the seventh form; the later family's looks); each row that meets fmt, with fmt's text TOLD by the authors' own Lean function (tested against real Go, not proved from fmt's source: count such statements apart). THE CARD IS WHAT COUNTS. Prove the row's statement (the work); the ties are given (YtkpdpohnbnpelaaGreatDoorTie.lean); close each card by the builder's one call (the guide's Derived/Test/ToyasCard.lean, 'card_holds'). Laid BY PROGRAM, IN A SANDBOX (cutbox-door.mjs). By AI agents, Wed Nov 11 2026. No macro, syntax, notation, axiom, sorry.
-/
import Derived.Test.YtkpdpohnbnpelaaGreatDoorRows
import GoSem.ClaimSeven
namespace Go.Proofs.YtkpdpohnbnpelaaGreatDoor
namespace Rows

/-- THE TIED CARD OF 'laws.FnExactFormatWhole'. -/
def fnExactFormatWholeCard : Claim7 := { stood := { row := fnExactFormatWholeRow, standIns := [], harness := (true, "d0edf395afa53be757867674928741309aead67624899cafa4c407a877802b92"), looks := false }, kinds := [], alts := [], laidByText := true, laidKinds := [.data, .data, .data, .data, .pinned, .pinned], laidTests := true, laidLooks := .later }
def FnExactFormatWholeCardSaid : Prop := Claim7.holds Tryz.pinned (.plain (OpenSpec.ofChange fnExactFormatWholeSpec)) fnExactFormatWholeCard

/-- THE TIED CARD OF 'laws.FnFormatWhole'. -/
def fnFormatWholeCard : Claim7 := { stood := { row := fnFormatWholeRow, standIns := [], harness := (true, "d0edf395afa53be757867674928741309aead67624899cafa4c407a877802b92"), looks := false }, kinds := [], alts := [], laidByText := true, laidKinds := [.data, .data, .data, .data, .pinned, .pinned], laidTests := true, laidLooks := .later }
def FnFormatWholeCardSaid : Prop := Claim7.holds Tryz.pinned (.plain (OpenSpec.ofChange fnFormatWholeSpec)) fnFormatWholeCard

/-- THE TIED CARD OF 'laws.FnFormatWholeSign'. -/
def fnFormatWholeSignCard : Claim7 := { stood := { row := fnFormatWholeSignRow, standIns := [], harness := (true, "d0edf395afa53be757867674928741309aead67624899cafa4c407a877802b92"), looks := false }, kinds := [], alts := [], laidByText := true, laidKinds := [.data, .data, .data, .data, .pinned, .pinned], laidTests := true, laidLooks := .later }
def FnFormatWholeSignCardSaid : Prop := Claim7.holds Tryz.pinned (.plain (OpenSpec.ofChange fnFormatWholeSignSpec)) fnFormatWholeSignCard

/-- THE TIED CARD OF 'laws.FnReadWhole'. -/
def fnReadWholeCard : Claim7 := { stood := { row := fnReadWholeRow, standIns := [], harness := (true, "d0edf395afa53be757867674928741309aead67624899cafa4c407a877802b92"), looks := false }, kinds := [], alts := [], laidByText := true, laidKinds := [.data, .data, .data, .data, .pinned, .pinned], laidTests := true, laidLooks := .later }
def FnReadWholeCardSaid : Prop := Claim7.holds Tryz.pinned (.plain (OpenSpec.ofChange fnReadWholeSpec)) fnReadWholeCard

/-- THE SECOND FORM's CARD OF 'laws.FnExactFormatWhole'. -/
def fnExactFormatWholeUptoCard : Claim7 := { stood := { row := fnExactFormatWholeUptoRow, standIns := [], harness := (true, "d0edf395afa53be757867674928741309aead67624899cafa4c407a877802b92"), looks := false }, kinds := [], alts := [], laidByText := true, laidKinds := [.data, .data, .data, .data, .pinned, .pinned], laidTests := true, laidLooks := .later }
def FnExactFormatWholeUptoCardSaid : Prop := Claim7.holds Tryz.pinned (.plain (OpenSpec.upto fnExactFormatWholeSpec)) fnExactFormatWholeUptoCard

/-- THE SECOND FORM's CARD OF 'laws.FnFormatWhole'. -/
def fnFormatWholeUptoCard : Claim7 := { stood := { row := fnFormatWholeUptoRow, standIns := [], harness := (true, "d0edf395afa53be757867674928741309aead67624899cafa4c407a877802b92"), looks := false }, kinds := [], alts := [], laidByText := true, laidKinds := [.data, .data, .data, .data, .pinned, .pinned], laidTests := true, laidLooks := .later }
def FnFormatWholeUptoCardSaid : Prop := Claim7.holds Tryz.pinned (.plain (OpenSpec.upto fnFormatWholeSpec)) fnFormatWholeUptoCard

/-- THE SECOND FORM's CARD OF 'laws.FnFormatWholeSign'. -/
def fnFormatWholeSignUptoCard : Claim7 := { stood := { row := fnFormatWholeSignUptoRow, standIns := [], harness := (true, "d0edf395afa53be757867674928741309aead67624899cafa4c407a877802b92"), looks := false }, kinds := [], alts := [], laidByText := true, laidKinds := [.data, .data, .data, .data, .pinned, .pinned], laidTests := true, laidLooks := .later }
def FnFormatWholeSignUptoCardSaid : Prop := Claim7.holds Tryz.pinned (.plain (OpenSpec.upto fnFormatWholeSignSpec)) fnFormatWholeSignUptoCard

/-- THE SECOND FORM's CARD OF 'laws.FnReadWhole'. -/
def fnReadWholeUptoCard : Claim7 := { stood := { row := fnReadWholeUptoRow, standIns := [], harness := (true, "d0edf395afa53be757867674928741309aead67624899cafa4c407a877802b92"), looks := false }, kinds := [], alts := [], laidByText := true, laidKinds := [.data, .data, .data, .data, .pinned, .pinned], laidTests := true, laidLooks := .later }
def FnReadWholeUptoCardSaid : Prop := Claim7.holds Tryz.pinned (.plain (OpenSpec.upto fnReadWholeSpec)) fnReadWholeUptoCard
end Rows
end Go.Proofs.YtkpdpohnbnpelaaGreatDoor
