/-
  DERIVED. GIVEN WITH THE SEED: THE CARDS: each row of YtamlnbciejnbdaaGreatDoorRows.lean that lists a variable, with what it lists TIED to the program's text (the seventh form; the later family's looks); each row that meets fmt, with fmt's text TOLD by the authors' own Lean function (tested against real Go, not proved from fmt's source: count such statements apart). THE CARD IS WHAT COUNTS. Prove the row's statement (the work); the ties are given (YtamlnbciejnbdaaGreatDoorTie.lean); close each card by the builder's one call (the guide's Derived/Test/ToyasCard.lean, 'card_holds'). Laid BY PROGRAM, IN A SANDBOX (cutbox-door.mjs). By AI agents, Wed Nov 11 2026. No macro, syntax, notation, axiom, sorry.
-/
import Derived.Test.YtamlnbciejnbdaaGreatDoorRows
import GoSem.ClaimSeven
namespace Go.Proofs.YtamlnbciejnbdaaGreatDoor
namespace Rows

/-- THE TIED CARD OF 'laws.FnFixedText'. -/
def fnFixedTextCard : Claim7 := { stood := { row := fnFixedTextRow, standIns := [], harness := (true, "89d630dab3bf9cc0937c12cfd3d661277fd68321529dce0acc83de9440a7ac0f"), looks := true }, kinds := [], alts := [], laidByText := true, laidKinds := [.data, .data, .data, .data, .sentinel, .sentinel, .pinned], laidTests := true, laidLooks := .later }
def FnFixedTextCardSaid : Prop := Claim7.holds Tryz.pinned (.plain (OpenSpec.ofChange fnFixedTextSpec)) fnFixedTextCard

/-- THE TIED CARD OF 'laws.FnExpText'. -/
def fnExpTextCard : Claim7 := { stood := { row := fnExpTextRow, standIns := [], harness := (true, "89d630dab3bf9cc0937c12cfd3d661277fd68321529dce0acc83de9440a7ac0f"), looks := true }, kinds := [], alts := [], laidByText := true, laidKinds := [.data, .data, .data, .data, .sentinel, .sentinel, .pinned], laidTests := true, laidLooks := .later }
def FnExpTextCardSaid : Prop := Claim7.holds Tryz.pinned (.plain (OpenSpec.ofChange fnExpTextSpec)) fnExpTextCard

/-- THE TIED CARD OF 'laws.FnGeneralText'. -/
def fnGeneralTextCard : Claim7 := { stood := { row := fnGeneralTextRow, standIns := [], harness := (true, "89d630dab3bf9cc0937c12cfd3d661277fd68321529dce0acc83de9440a7ac0f"), looks := true }, kinds := [], alts := [], laidByText := true, laidKinds := [.data, .data, .data, .data, .sentinel, .sentinel, .pinned], laidTests := true, laidLooks := .later }
def FnGeneralTextCardSaid : Prop := Claim7.holds Tryz.pinned (.plain (OpenSpec.ofChange fnGeneralTextSpec)) fnGeneralTextCard

/-- THE TIED CARD OF 'laws.FnPlainText'. -/
def fnPlainTextCard : Claim7 := { stood := { row := fnPlainTextRow, standIns := [], harness := (true, "89d630dab3bf9cc0937c12cfd3d661277fd68321529dce0acc83de9440a7ac0f"), looks := true }, kinds := [], alts := [], laidByText := true, laidKinds := [.data, .data, .data, .data, .sentinel, .sentinel, .pinned], laidTests := true, laidLooks := .later }
def FnPlainTextCardSaid : Prop := Claim7.holds Tryz.pinned (.plain (OpenSpec.ofChange fnPlainTextSpec)) fnPlainTextCard

/-- THE TIED CARD OF 'laws.FnFormatReal'. -/
def fnFormatRealCard : Claim7 := { stood := { row := fnFormatRealRow, standIns := [], harness := (true, "89d630dab3bf9cc0937c12cfd3d661277fd68321529dce0acc83de9440a7ac0f"), looks := true }, kinds := [], alts := [], laidByText := true, laidKinds := [.data, .data, .data, .data, .pinned, .pinned], laidTests := true, laidLooks := .later }
def FnFormatRealCardSaid : Prop := Claim7.holds Tryz.pinned (.plain (OpenSpec.ofChange fnFormatRealSpec)) fnFormatRealCard

/-- THE TIED CARD OF 'laws.FnReadReal'. -/
def fnReadRealCard : Claim7 := { stood := { row := fnReadRealRow, standIns := [], harness := (true, "89d630dab3bf9cc0937c12cfd3d661277fd68321529dce0acc83de9440a7ac0f"), looks := true }, kinds := [], alts := [], laidByText := true, laidKinds := [.data, .data, .data, .data, .sentinel, .sentinel, .pinned], laidTests := true, laidLooks := .later }
def FnReadRealCardSaid : Prop := Claim7.holds Tryz.pinned (.plain (OpenSpec.ofChange fnReadRealSpec)) fnReadRealCard

/-- THE TIED CARD OF 'laws.FnExactFormatReal'. -/
def fnExactFormatRealCard : Claim7 := { stood := { row := fnExactFormatRealRow, standIns := [], harness := (true, "89d630dab3bf9cc0937c12cfd3d661277fd68321529dce0acc83de9440a7ac0f"), looks := true }, kinds := [], alts := [], laidByText := true, laidKinds := [.data, .data, .data, .data, .pinned, .pinned], laidTests := true, laidLooks := .later }
def FnExactFormatRealCardSaid : Prop := Claim7.holds Tryz.pinned (.plain (OpenSpec.ofChange fnExactFormatRealSpec)) fnExactFormatRealCard

/-- THE SECOND FORM's CARD OF 'laws.FnFixedText'. -/
def fnFixedTextUptoCard : Claim7 := { stood := { row := fnFixedTextUptoRow, standIns := [], harness := (true, "89d630dab3bf9cc0937c12cfd3d661277fd68321529dce0acc83de9440a7ac0f"), looks := true }, kinds := [], alts := [], laidByText := true, laidKinds := [.data, .data, .data, .data, .sentinel, .sentinel, .pinned], laidTests := true, laidLooks := .later }
def FnFixedTextUptoCardSaid : Prop := Claim7.holds Tryz.pinned (.plain (OpenSpec.upto fnFixedTextSpec)) fnFixedTextUptoCard

/-- THE SECOND FORM's CARD OF 'laws.FnExpText'. -/
def fnExpTextUptoCard : Claim7 := { stood := { row := fnExpTextUptoRow, standIns := [], harness := (true, "89d630dab3bf9cc0937c12cfd3d661277fd68321529dce0acc83de9440a7ac0f"), looks := true }, kinds := [], alts := [], laidByText := true, laidKinds := [.data, .data, .data, .data, .sentinel, .sentinel, .pinned], laidTests := true, laidLooks := .later }
def FnExpTextUptoCardSaid : Prop := Claim7.holds Tryz.pinned (.plain (OpenSpec.upto fnExpTextSpec)) fnExpTextUptoCard

/-- THE SECOND FORM's CARD OF 'laws.FnGeneralText'. -/
def fnGeneralTextUptoCard : Claim7 := { stood := { row := fnGeneralTextUptoRow, standIns := [], harness := (true, "89d630dab3bf9cc0937c12cfd3d661277fd68321529dce0acc83de9440a7ac0f"), looks := true }, kinds := [], alts := [], laidByText := true, laidKinds := [.data, .data, .data, .data, .sentinel, .sentinel, .pinned], laidTests := true, laidLooks := .later }
def FnGeneralTextUptoCardSaid : Prop := Claim7.holds Tryz.pinned (.plain (OpenSpec.upto fnGeneralTextSpec)) fnGeneralTextUptoCard

/-- THE SECOND FORM's CARD OF 'laws.FnPlainText'. -/
def fnPlainTextUptoCard : Claim7 := { stood := { row := fnPlainTextUptoRow, standIns := [], harness := (true, "89d630dab3bf9cc0937c12cfd3d661277fd68321529dce0acc83de9440a7ac0f"), looks := true }, kinds := [], alts := [], laidByText := true, laidKinds := [.data, .data, .data, .data, .sentinel, .sentinel, .pinned], laidTests := true, laidLooks := .later }
def FnPlainTextUptoCardSaid : Prop := Claim7.holds Tryz.pinned (.plain (OpenSpec.upto fnPlainTextSpec)) fnPlainTextUptoCard

/-- THE SECOND FORM's CARD OF 'laws.FnFormatReal'. -/
def fnFormatRealUptoCard : Claim7 := { stood := { row := fnFormatRealUptoRow, standIns := [], harness := (true, "89d630dab3bf9cc0937c12cfd3d661277fd68321529dce0acc83de9440a7ac0f"), looks := true }, kinds := [], alts := [], laidByText := true, laidKinds := [.data, .data, .data, .data, .pinned, .pinned], laidTests := true, laidLooks := .later }
def FnFormatRealUptoCardSaid : Prop := Claim7.holds Tryz.pinned (.plain (OpenSpec.upto fnFormatRealSpec)) fnFormatRealUptoCard

/-- THE SECOND FORM's CARD OF 'laws.FnReadReal'. -/
def fnReadRealUptoCard : Claim7 := { stood := { row := fnReadRealUptoRow, standIns := [], harness := (true, "89d630dab3bf9cc0937c12cfd3d661277fd68321529dce0acc83de9440a7ac0f"), looks := true }, kinds := [], alts := [], laidByText := true, laidKinds := [.data, .data, .data, .data, .sentinel, .sentinel, .pinned], laidTests := true, laidLooks := .later }
def FnReadRealUptoCardSaid : Prop := Claim7.holds Tryz.pinned (.plain (OpenSpec.upto fnReadRealSpec)) fnReadRealUptoCard

/-- THE SECOND FORM's CARD OF 'laws.FnExactFormatReal'. -/
def fnExactFormatRealUptoCard : Claim7 := { stood := { row := fnExactFormatRealUptoRow, standIns := [], harness := (true, "89d630dab3bf9cc0937c12cfd3d661277fd68321529dce0acc83de9440a7ac0f"), looks := true }, kinds := [], alts := [], laidByText := true, laidKinds := [.data, .data, .data, .data, .pinned, .pinned], laidTests := true, laidLooks := .later }
def FnExactFormatRealUptoCardSaid : Prop := Claim7.holds Tryz.pinned (.plain (OpenSpec.upto fnExactFormatRealSpec)) fnExactFormatRealUptoCard
end Rows
end Go.Proofs.YtamlnbciejnbdaaGreatDoor
