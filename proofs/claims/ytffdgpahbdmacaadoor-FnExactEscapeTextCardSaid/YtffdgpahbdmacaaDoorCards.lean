/-
  DERIVED. GIVEN WITH THE SEED: THE CARDS: each row of YtffdgpahbdmacaaDoorRows.lean that lists a variable, with what it lists TIED to the program's text (the seventh form; the later family's looks); each row that meets fmt, with fmt's text TOLD by the authors' own Lean function (tested against real Go, not proved from fmt's source: count such statements apart). THE CARD IS WHAT COUNTS. Prove the row's statement (the work); the ties are given (YtffdgpahbdmacaaDoorTie.lean); close each card by the builder's one call (the guide's Derived/Test/ToyasCard.lean, 'card_holds'). Laid BY PROGRAM, IN A SANDBOX (cutbox-door.mjs). By AI agents, Wed Nov 11 2026. No macro, syntax, notation, axiom, sorry.
-/
import Derived.Test.YtffdgpahbdmacaaDoorRows
import GoSem.ClaimSeven
namespace Go.Proofs.YtffdgpahbdmacaaDoor
namespace Rows

/-- THE TIED CARD OF 'laws.FnValidSpec'. -/
def fnValidSpecCard : Claim7 := { stood := { row := fnValidSpecRow, standIns := [], harness := (true, "88733a62826bfdba4522e29909b9d171b45b4778109b8ec56bd87478f7ae0d8e"), looks := false }, kinds := [], alts := [], laidByText := true, laidKinds := [.data, .data, .data], laidTests := true, laidLooks := .later }
def FnValidSpecCardSaid : Prop := Claim7.holds Tryd.pinned (.plain (OpenSpec.ofChange fnValidSpecSpec)) fnValidSpecCard

/-- THE TIED CARD OF 'laws.FnSpecText'. -/
def fnSpecTextCard : Claim7 := { stood := { row := fnSpecTextRow, standIns := [], harness := (true, "88733a62826bfdba4522e29909b9d171b45b4778109b8ec56bd87478f7ae0d8e"), looks := false }, kinds := [], alts := [], laidByText := true, laidKinds := [.data, .data, .data], laidTests := true, laidLooks := .later }
def FnSpecTextCardSaid : Prop := Claim7.holds Tryd.pinned (.plain (OpenSpec.ofChange fnSpecTextSpec)) fnSpecTextCard

/-- THE TIED CARD OF 'laws.FnValidName'. -/
def fnValidNameCard : Claim7 := { stood := { row := fnValidNameRow, standIns := [], harness := (true, "88733a62826bfdba4522e29909b9d171b45b4778109b8ec56bd87478f7ae0d8e"), looks := false }, kinds := [], alts := [], laidByText := true, laidKinds := [.data, .pinned], laidTests := true, laidLooks := .later }
def FnValidNameCardSaid : Prop := Claim7.holds Tryd.pinned (.plain (OpenSpec.ofChange fnValidNameSpec)) fnValidNameCard

/-- THE TIED CARD OF 'laws.FnExactValidName'. -/
def fnExactValidNameCard : Claim7 := { stood := { row := fnExactValidNameRow, standIns := [], harness := (true, "88733a62826bfdba4522e29909b9d171b45b4778109b8ec56bd87478f7ae0d8e"), looks := false }, kinds := [], alts := [], laidByText := true, laidKinds := [.data, .pinned], laidTests := true, laidLooks := .later }
def FnExactValidNameCardSaid : Prop := Claim7.holds Tryd.pinned (.plain (OpenSpec.ofChange fnExactValidNameSpec)) fnExactValidNameCard

/-- THE TIED CARD OF 'laws.FnExactEscapeText'. -/
def fnExactEscapeTextCard : Claim7 := { stood := { row := fnExactEscapeTextRow, standIns := [], harness := (true, "88733a62826bfdba4522e29909b9d171b45b4778109b8ec56bd87478f7ae0d8e"), looks := false }, kinds := [], alts := [], laidByText := true, laidKinds := [.data, .pinned], laidTests := true, laidLooks := .later }
def FnExactEscapeTextCardSaid : Prop := Claim7.holds Tryd.pinned (.plain (OpenSpec.ofChange fnExactEscapeTextSpec)) fnExactEscapeTextCard

/-- THE TIED CARD OF 'laws.FnValidArgs'. -/
def fnValidArgsCard : Claim7 := { stood := { row := fnValidArgsRow, standIns := [], harness := (true, "88733a62826bfdba4522e29909b9d171b45b4778109b8ec56bd87478f7ae0d8e"), looks := false }, kinds := [], alts := [], laidByText := true, laidKinds := [.data, .pinned], laidTests := true, laidLooks := .later }
def FnValidArgsCardSaid : Prop := Claim7.holds Tryd.pinned (.plain (OpenSpec.ofChange fnValidArgsSpec)) fnValidArgsCard

/-- THE TIED CARD OF 'laws.FnExactValidArgs'. -/
def fnExactValidArgsCard : Claim7 := { stood := { row := fnExactValidArgsRow, standIns := [], harness := (true, "88733a62826bfdba4522e29909b9d171b45b4778109b8ec56bd87478f7ae0d8e"), looks := false }, kinds := [], alts := [], laidByText := true, laidKinds := [.data, .pinned], laidTests := true, laidLooks := .later }
def FnExactValidArgsCardSaid : Prop := Claim7.holds Tryd.pinned (.plain (OpenSpec.ofChange fnExactValidArgsSpec)) fnExactValidArgsCard

/-- THE SECOND FORM's CARD OF 'laws.FnValidSpec'. -/
def fnValidSpecUptoCard : Claim7 := { stood := { row := fnValidSpecUptoRow, standIns := [], harness := (true, "88733a62826bfdba4522e29909b9d171b45b4778109b8ec56bd87478f7ae0d8e"), looks := false }, kinds := [], alts := [], laidByText := true, laidKinds := [.data, .data, .data], laidTests := true, laidLooks := .later }
def FnValidSpecUptoCardSaid : Prop := Claim7.holds Tryd.pinned (.plain (OpenSpec.upto fnValidSpecSpec)) fnValidSpecUptoCard

/-- THE SECOND FORM's CARD OF 'laws.FnSpecText'. -/
def fnSpecTextUptoCard : Claim7 := { stood := { row := fnSpecTextUptoRow, standIns := [], harness := (true, "88733a62826bfdba4522e29909b9d171b45b4778109b8ec56bd87478f7ae0d8e"), looks := false }, kinds := [], alts := [], laidByText := true, laidKinds := [.data, .data, .data], laidTests := true, laidLooks := .later }
def FnSpecTextUptoCardSaid : Prop := Claim7.holds Tryd.pinned (.plain (OpenSpec.upto fnSpecTextSpec)) fnSpecTextUptoCard

/-- THE SECOND FORM's CARD OF 'laws.FnValidName'. -/
def fnValidNameUptoCard : Claim7 := { stood := { row := fnValidNameUptoRow, standIns := [], harness := (true, "88733a62826bfdba4522e29909b9d171b45b4778109b8ec56bd87478f7ae0d8e"), looks := false }, kinds := [], alts := [], laidByText := true, laidKinds := [.data, .pinned], laidTests := true, laidLooks := .later }
def FnValidNameUptoCardSaid : Prop := Claim7.holds Tryd.pinned (.plain (OpenSpec.upto fnValidNameSpec)) fnValidNameUptoCard

/-- THE SECOND FORM's CARD OF 'laws.FnExactValidName'. -/
def fnExactValidNameUptoCard : Claim7 := { stood := { row := fnExactValidNameUptoRow, standIns := [], harness := (true, "88733a62826bfdba4522e29909b9d171b45b4778109b8ec56bd87478f7ae0d8e"), looks := false }, kinds := [], alts := [], laidByText := true, laidKinds := [.data, .pinned], laidTests := true, laidLooks := .later }
def FnExactValidNameUptoCardSaid : Prop := Claim7.holds Tryd.pinned (.plain (OpenSpec.upto fnExactValidNameSpec)) fnExactValidNameUptoCard

/-- THE SECOND FORM's CARD OF 'laws.FnExactEscapeText'. -/
def fnExactEscapeTextUptoCard : Claim7 := { stood := { row := fnExactEscapeTextUptoRow, standIns := [], harness := (true, "88733a62826bfdba4522e29909b9d171b45b4778109b8ec56bd87478f7ae0d8e"), looks := false }, kinds := [], alts := [], laidByText := true, laidKinds := [.data, .pinned], laidTests := true, laidLooks := .later }
def FnExactEscapeTextUptoCardSaid : Prop := Claim7.holds Tryd.pinned (.plain (OpenSpec.upto fnExactEscapeTextSpec)) fnExactEscapeTextUptoCard

/-- THE SECOND FORM's CARD OF 'laws.FnValidArgs'. -/
def fnValidArgsUptoCard : Claim7 := { stood := { row := fnValidArgsUptoRow, standIns := [], harness := (true, "88733a62826bfdba4522e29909b9d171b45b4778109b8ec56bd87478f7ae0d8e"), looks := false }, kinds := [], alts := [], laidByText := true, laidKinds := [.data, .pinned], laidTests := true, laidLooks := .later }
def FnValidArgsUptoCardSaid : Prop := Claim7.holds Tryd.pinned (.plain (OpenSpec.upto fnValidArgsSpec)) fnValidArgsUptoCard

/-- THE SECOND FORM's CARD OF 'laws.FnExactValidArgs'. -/
def fnExactValidArgsUptoCard : Claim7 := { stood := { row := fnExactValidArgsUptoRow, standIns := [], harness := (true, "88733a62826bfdba4522e29909b9d171b45b4778109b8ec56bd87478f7ae0d8e"), looks := false }, kinds := [], alts := [], laidByText := true, laidKinds := [.data, .pinned], laidTests := true, laidLooks := .later }
def FnExactValidArgsUptoCardSaid : Prop := Claim7.holds Tryd.pinned (.plain (OpenSpec.upto fnExactValidArgsSpec)) fnExactValidArgsUptoCard
end Rows
end Go.Proofs.YtffdgpahbdmacaaDoor
