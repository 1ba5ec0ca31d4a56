/-
  DERIVED. GIVEN WITH THE SEED: THE CARDS: each row of YtcbpocpkfmbaoaaGreatDoorRows.lean that lists a variable, with what it lists TIED to the program's text (the seventh form; the later family's looks); each row that meets fmt, with fmt's text TOLD by the authors' own Lean function (tested against real Go, not proved from fmt's source: count such statements apart). THE CARD IS WHAT COUNTS. Prove the row's statement (the work); the ties are given (YtcbpocpkfmbaoaaGreatDoorTie.lean); close each card by the builder's one call (the guide's Derived/Test/ToyasCard.lean, 'card_holds'). Laid BY PROGRAM, IN A SANDBOX (cutbox-door.mjs). By AI agents, Wed Nov 11 2026. No macro, syntax, notation, axiom, sorry.
-/
import Derived.Test.YtcbpocpkfmbaoaaGreatDoorRows
import GoSem.ClaimSeven
namespace Go.Proofs.YtcbpocpkfmbaoaaGreatDoor
namespace Rows

/-- THE TIED CARD OF 'laws.FnFormatWhole'. -/
def fnFormatWholeCard : Claim7 := { stood := { row := fnFormatWholeRow, standIns := [], harness := (true, "5bebc5c1f1605d4ec2502fb77719ceebc4f5842768ba522358ce34c2df56ac7f"), looks := false }, kinds := [], alts := [], laidByText := true, laidKinds := [.data, .data, .data, .data, .pinned, .pinned], laidTests := true, laidLooks := .later }
def FnFormatWholeCardSaid : Prop := Claim7.holds Tryz.pinned (.plain (OpenSpec.ofChange fnFormatWholeSpec)) fnFormatWholeCard

/-- THE TIED CARD OF 'laws.FnFormatWholeFill'. -/
def fnFormatWholeFillCard : Claim7 := { stood := { row := fnFormatWholeFillRow, standIns := [], harness := (true, "5bebc5c1f1605d4ec2502fb77719ceebc4f5842768ba522358ce34c2df56ac7f"), looks := false }, kinds := [], alts := [], laidByText := true, laidKinds := [.data, .data, .data, .data, .pinned, .pinned], laidTests := true, laidLooks := .later }
def FnFormatWholeFillCardSaid : Prop := Claim7.holds Tryz.pinned (.plain (OpenSpec.ofChange fnFormatWholeFillSpec)) fnFormatWholeFillCard

/-- THE TIED CARD OF 'laws.FnReadWhole'. -/
def fnReadWholeCard : Claim7 := { stood := { row := fnReadWholeRow, standIns := [], harness := (true, "5bebc5c1f1605d4ec2502fb77719ceebc4f5842768ba522358ce34c2df56ac7f"), looks := false }, kinds := [], alts := [], laidByText := true, laidKinds := [.data, .data, .data, .data, .pinned, .pinned], laidTests := true, laidLooks := .later }
def FnReadWholeCardSaid : Prop := Claim7.holds Tryz.pinned (.plain (OpenSpec.ofChange fnReadWholeSpec)) fnReadWholeCard

/-- THE SECOND FORM's CARD OF 'laws.FnFormatWhole'. -/
def fnFormatWholeUptoCard : Claim7 := { stood := { row := fnFormatWholeUptoRow, standIns := [], harness := (true, "5bebc5c1f1605d4ec2502fb77719ceebc4f5842768ba522358ce34c2df56ac7f"), looks := false }, kinds := [], alts := [], laidByText := true, laidKinds := [.data, .data, .data, .data, .pinned, .pinned], laidTests := true, laidLooks := .later }
def FnFormatWholeUptoCardSaid : Prop := Claim7.holds Tryz.pinned (.plain (OpenSpec.upto fnFormatWholeSpec)) fnFormatWholeUptoCard

/-- THE SECOND FORM's CARD OF 'laws.FnFormatWholeFill'. -/
def fnFormatWholeFillUptoCard : Claim7 := { stood := { row := fnFormatWholeFillUptoRow, standIns := [], harness := (true, "5bebc5c1f1605d4ec2502fb77719ceebc4f5842768ba522358ce34c2df56ac7f"), looks := false }, kinds := [], alts := [], laidByText := true, laidKinds := [.data, .data, .data, .data, .pinned, .pinned], laidTests := true, laidLooks := .later }
def FnFormatWholeFillUptoCardSaid : Prop := Claim7.holds Tryz.pinned (.plain (OpenSpec.upto fnFormatWholeFillSpec)) fnFormatWholeFillUptoCard

/-- THE SECOND FORM's CARD OF 'laws.FnReadWhole'. -/
def fnReadWholeUptoCard : Claim7 := { stood := { row := fnReadWholeUptoRow, standIns := [], harness := (true, "5bebc5c1f1605d4ec2502fb77719ceebc4f5842768ba522358ce34c2df56ac7f"), looks := false }, kinds := [], alts := [], laidByText := true, laidKinds := [.data, .data, .data, .data, .pinned, .pinned], laidTests := true, laidLooks := .later }
def FnReadWholeUptoCardSaid : Prop := Claim7.holds Tryz.pinned (.plain (OpenSpec.upto fnReadWholeSpec)) fnReadWholeUptoCard
end Rows
end Go.Proofs.YtcbpocpkfmbaoaaGreatDoor
