/-
  DERIVED. GIVEN WITH THE SEED: THE CARDS: each row of YtamlnbciejnbdaaDoorRows.lean that lists a variable, with what it lists TIED to the program's text (the seventh form; the later family's looks); each row that meets fmt, with fmt's text TOLD by the authors' own Lean function (tested against real Go, not proved from fmt's source: count such statements apart). THE CARD IS WHAT COUNTS. Prove the row's statement (the work); the ties are given (YtamlnbciejnbdaaDoorTie.lean); close each card by the builder's one call (the guide's Derived/Test/ToyasCard.lean, 'card_holds'). Laid BY PROGRAM, IN A SANDBOX (cutbox-door.mjs). By AI agents, Wed Nov 11 2026. No macro, syntax, notation, axiom, sorry.
-/
import Derived.Test.YtamlnbciejnbdaaDoorRows
import GoSem.ClaimSeven
namespace Go.Proofs.YtamlnbciejnbdaaDoor
namespace Rows

/-- THE TIED CARD OF 'laws.FnExactParseSpec'. -/
def fnExactParseSpecCard : Claim7 := { stood := { row := fnExactParseSpecRow, standIns := [], harness := (true, "e57ff6d1c729d722ca7531d97a6843621deaef0a804ed023c43399fcb779dc66"), looks := true }, kinds := [], alts := [], laidByText := true, laidKinds := [.data, .data, .data], laidTests := true, laidLooks := .later }
def FnExactParseSpecCardSaid : Prop := Claim7.holds Tryd.pinned (.plain (OpenSpec.ofChange fnExactParseSpecSpec)) fnExactParseSpecCard

/-- THE TIED CARD OF 'laws.FnExactFixedText'. -/
def fnExactFixedTextCard : Claim7 := { stood := { row := fnExactFixedTextRow, standIns := [], harness := (true, "e57ff6d1c729d722ca7531d97a6843621deaef0a804ed023c43399fcb779dc66"), looks := true }, kinds := [], alts := [], laidByText := true, laidKinds := [.data, .data, .data, .data, .pinned], laidTests := true, laidLooks := .later }
def FnExactFixedTextCardSaid : Prop := Claim7.holds Tryd.pinned (.plain (OpenSpec.ofChange fnExactFixedTextSpec)) fnExactFixedTextCard

/-- THE TIED CARD OF 'laws.FnExactExpText'. -/
def fnExactExpTextCard : Claim7 := { stood := { row := fnExactExpTextRow, standIns := [], harness := (true, "e57ff6d1c729d722ca7531d97a6843621deaef0a804ed023c43399fcb779dc66"), looks := true }, kinds := [], alts := [], laidByText := true, laidKinds := [.data, .data, .data, .data, .pinned], laidTests := true, laidLooks := .later }
def FnExactExpTextCardSaid : Prop := Claim7.holds Tryd.pinned (.plain (OpenSpec.ofChange fnExactExpTextSpec)) fnExactExpTextCard

/-- THE TIED CARD OF 'laws.FnExactGeneralText'. -/
def fnExactGeneralTextCard : Claim7 := { stood := { row := fnExactGeneralTextRow, standIns := [], harness := (true, "e57ff6d1c729d722ca7531d97a6843621deaef0a804ed023c43399fcb779dc66"), looks := true }, kinds := [], alts := [], laidByText := true, laidKinds := [.data, .data, .data, .data, .pinned], laidTests := true, laidLooks := .later }
def FnExactGeneralTextCardSaid : Prop := Claim7.holds Tryd.pinned (.plain (OpenSpec.ofChange fnExactGeneralTextSpec)) fnExactGeneralTextCard

/-- THE TIED CARD OF 'laws.FnExactPlainText'. -/
def fnExactPlainTextCard : Claim7 := { stood := { row := fnExactPlainTextRow, standIns := [], harness := (true, "e57ff6d1c729d722ca7531d97a6843621deaef0a804ed023c43399fcb779dc66"), looks := true }, kinds := [], alts := [], laidByText := true, laidKinds := [.data, .data, .data, .data, .pinned], laidTests := true, laidLooks := .later }
def FnExactPlainTextCardSaid : Prop := Claim7.holds Tryd.pinned (.plain (OpenSpec.ofChange fnExactPlainTextSpec)) fnExactPlainTextCard

/-- THE TIED CARD OF 'laws.FnExactReadReal'. -/
def fnExactReadRealCard : Claim7 := { stood := { row := fnExactReadRealRow, standIns := [], harness := (true, "e57ff6d1c729d722ca7531d97a6843621deaef0a804ed023c43399fcb779dc66"), looks := true }, kinds := [], alts := [], laidByText := true, laidKinds := [.data, .data, .data, .data, .sentinel, .sentinel, .pinned], laidTests := true, laidLooks := .later }
def FnExactReadRealCardSaid : Prop := Claim7.holds Tryd.pinned (.plain (OpenSpec.ofChange fnExactReadRealSpec)) fnExactReadRealCard

/-- THE SECOND FORM's CARD OF 'laws.FnExactParseSpec'. -/
def fnExactParseSpecUptoCard : Claim7 := { stood := { row := fnExactParseSpecUptoRow, standIns := [], harness := (true, "e57ff6d1c729d722ca7531d97a6843621deaef0a804ed023c43399fcb779dc66"), looks := true }, kinds := [], alts := [], laidByText := true, laidKinds := [.data, .data, .data], laidTests := true, laidLooks := .later }
def FnExactParseSpecUptoCardSaid : Prop := Claim7.holds Tryd.pinned (.plain (OpenSpec.upto fnExactParseSpecSpec)) fnExactParseSpecUptoCard

/-- THE SECOND FORM's CARD OF 'laws.FnExactFixedText'. -/
def fnExactFixedTextUptoCard : Claim7 := { stood := { row := fnExactFixedTextUptoRow, standIns := [], harness := (true, "e57ff6d1c729d722ca7531d97a6843621deaef0a804ed023c43399fcb779dc66"), looks := true }, kinds := [], alts := [], laidByText := true, laidKinds := [.data, .data, .data, .data, .pinned], laidTests := true, laidLooks := .later }
def FnExactFixedTextUptoCardSaid : Prop := Claim7.holds Tryd.pinned (.plain (OpenSpec.upto fnExactFixedTextSpec)) fnExactFixedTextUptoCard

/-- THE SECOND FORM's CARD OF 'laws.FnExactExpText'. -/
def fnExactExpTextUptoCard : Claim7 := { stood := { row := fnExactExpTextUptoRow, standIns := [], harness := (true, "e57ff6d1c729d722ca7531d97a6843621deaef0a804ed023c43399fcb779dc66"), looks := true }, kinds := [], alts := [], laidByText := true, laidKinds := [.data, .data, .data, .data, .pinned], laidTests := true, laidLooks := .later }
def FnExactExpTextUptoCardSaid : Prop := Claim7.holds Tryd.pinned (.plain (OpenSpec.upto fnExactExpTextSpec)) fnExactExpTextUptoCard

/-- THE SECOND FORM's CARD OF 'laws.FnExactGeneralText'. -/
def fnExactGeneralTextUptoCard : Claim7 := { stood := { row := fnExactGeneralTextUptoRow, standIns := [], harness := (true, "e57ff6d1c729d722ca7531d97a6843621deaef0a804ed023c43399fcb779dc66"), looks := true }, kinds := [], alts := [], laidByText := true, laidKinds := [.data, .data, .data, .data, .pinned], laidTests := true, laidLooks := .later }
def FnExactGeneralTextUptoCardSaid : Prop := Claim7.holds Tryd.pinned (.plain (OpenSpec.upto fnExactGeneralTextSpec)) fnExactGeneralTextUptoCard

/-- THE SECOND FORM's CARD OF 'laws.FnExactPlainText'. -/
def fnExactPlainTextUptoCard : Claim7 := { stood := { row := fnExactPlainTextUptoRow, standIns := [], harness := (true, "e57ff6d1c729d722ca7531d97a6843621deaef0a804ed023c43399fcb779dc66"), looks := true }, kinds := [], alts := [], laidByText := true, laidKinds := [.data, .data, .data, .data, .pinned], laidTests := true, laidLooks := .later }
def FnExactPlainTextUptoCardSaid : Prop := Claim7.holds Tryd.pinned (.plain (OpenSpec.upto fnExactPlainTextSpec)) fnExactPlainTextUptoCard

/-- THE SECOND FORM's CARD OF 'laws.FnExactReadReal'. -/
def fnExactReadRealUptoCard : Claim7 := { stood := { row := fnExactReadRealUptoRow, standIns := [], harness := (true, "e57ff6d1c729d722ca7531d97a6843621deaef0a804ed023c43399fcb779dc66"), looks := true }, kinds := [], alts := [], laidByText := true, laidKinds := [.data, .data, .data, .data, .sentinel, .sentinel, .pinned], laidTests := true, laidLooks := .later }
def FnExactReadRealUptoCardSaid : Prop := Claim7.holds Tryd.pinned (.plain (OpenSpec.upto fnExactReadRealSpec)) fnExactReadRealUptoCard
end Rows
end Go.Proofs.YtamlnbciejnbdaaDoor
