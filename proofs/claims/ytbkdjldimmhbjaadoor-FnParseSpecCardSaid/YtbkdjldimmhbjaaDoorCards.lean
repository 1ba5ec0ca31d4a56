/-
  DERIVED. GIVEN WITH THE SEED: THE CARDS: each row of YtbkdjldimmhbjaaDoorRows.lean that lists a variable, with what it lists TIED to the program's text (the seventh form; the later family's looks); each row that meets fmt, with fmt's text TOLD by the authors' own Lean function (tested against real Go, not proved from fmt's source: count such statements apart). THE CARD IS WHAT COUNTS. Prove the row's statement (the work); the ties are given (YtbkdjldimmhbjaaDoorTie.lean); close each card by the builder's one call (the guide's Derived/Test/ToyasCard.lean, 'card_holds'). Laid BY PROGRAM, IN A SANDBOX (cutbox-door.mjs). By AI agents, Wed Nov 11 2026. No macro, syntax, notation, axiom, sorry.
-/
import Derived.Test.YtbkdjldimmhbjaaDoorRows
import GoSem.ClaimSeven
namespace Go.Proofs.YtbkdjldimmhbjaaDoor
namespace Rows

/-- THE TIED CARD OF 'laws.FnExactEscapePercent'. -/
def fnExactEscapePercentCard : Claim7 := { stood := { row := fnExactEscapePercentRow, standIns := [], harness := (true, "fee9ba43a5bc92e8161937ef9895e73e8cd13691ba930e1efe09308ff73dae64"), looks := false }, kinds := [], alts := [], laidByText := true, laidKinds := [.data, .pinned], laidTests := true, laidLooks := .later }
def FnExactEscapePercentCardSaid : Prop := Claim7.holds Tryd.pinned (.plain (OpenSpec.ofChange fnExactEscapePercentSpec)) fnExactEscapePercentCard

/-- THE TIED CARD OF 'laws.FnExactParseSpec'. -/
def fnExactParseSpecCard : Claim7 := { stood := { row := fnExactParseSpecRow, standIns := [], harness := (true, "fee9ba43a5bc92e8161937ef9895e73e8cd13691ba930e1efe09308ff73dae64"), looks := false }, kinds := [], alts := [], laidByText := true, laidKinds := [.data, .data, .data], laidTests := true, laidLooks := .later }
def FnExactParseSpecCardSaid : Prop := Claim7.holds Tryd.pinned (.plain (OpenSpec.ofChange fnExactParseSpecSpec)) fnExactParseSpecCard

/-- THE TIED CARD OF 'laws.FnParseSpec'. -/
def fnParseSpecCard : Claim7 := { stood := { row := fnParseSpecRow, standIns := [], harness := (true, "fee9ba43a5bc92e8161937ef9895e73e8cd13691ba930e1efe09308ff73dae64"), looks := false }, kinds := [], alts := [], laidByText := true, laidKinds := [.data, .data, .data], laidTests := true, laidLooks := .later }
def FnParseSpecCardSaid : Prop := Claim7.holds Tryd.pinned (.plain (OpenSpec.ofChange fnParseSpecSpec)) fnParseSpecCard

/-- THE TIED CARD OF 'laws.FnExactValidArgs'. -/
def fnExactValidArgsCard : Claim7 := { stood := { row := fnExactValidArgsRow, standIns := [], harness := (true, "fee9ba43a5bc92e8161937ef9895e73e8cd13691ba930e1efe09308ff73dae64"), looks := false }, kinds := [], alts := [], laidByText := true, laidKinds := [.data, .pinned], laidTests := true, laidLooks := .later }
def FnExactValidArgsCardSaid : Prop := Claim7.holds Tryd.pinned (.plain (OpenSpec.ofChange fnExactValidArgsSpec)) fnExactValidArgsCard

/-- THE TIED CARD OF 'laws.FnValidArgs'. -/
def fnValidArgsCard : Claim7 := { stood := { row := fnValidArgsRow, standIns := [], harness := (true, "fee9ba43a5bc92e8161937ef9895e73e8cd13691ba930e1efe09308ff73dae64"), looks := false }, kinds := [], alts := [], laidByText := true, laidKinds := [.data, .pinned], laidTests := true, laidLooks := .later }
def FnValidArgsCardSaid : Prop := Claim7.holds Tryd.pinned (.plain (OpenSpec.ofChange fnValidArgsSpec)) fnValidArgsCard

/-- THE SECOND FORM's CARD OF 'laws.FnExactEscapePercent'. -/
def fnExactEscapePercentUptoCard : Claim7 := { stood := { row := fnExactEscapePercentUptoRow, standIns := [], harness := (true, "fee9ba43a5bc92e8161937ef9895e73e8cd13691ba930e1efe09308ff73dae64"), looks := false }, kinds := [], alts := [], laidByText := true, laidKinds := [.data, .pinned], laidTests := true, laidLooks := .later }
def FnExactEscapePercentUptoCardSaid : Prop := Claim7.holds Tryd.pinned (.plain (OpenSpec.upto fnExactEscapePercentSpec)) fnExactEscapePercentUptoCard

/-- THE SECOND FORM's CARD OF 'laws.FnExactParseSpec'. -/
def fnExactParseSpecUptoCard : Claim7 := { stood := { row := fnExactParseSpecUptoRow, standIns := [], harness := (true, "fee9ba43a5bc92e8161937ef9895e73e8cd13691ba930e1efe09308ff73dae64"), looks := false }, kinds := [], alts := [], laidByText := true, laidKinds := [.data, .data, .data], laidTests := true, laidLooks := .later }
def FnExactParseSpecUptoCardSaid : Prop := Claim7.holds Tryd.pinned (.plain (OpenSpec.upto fnExactParseSpecSpec)) fnExactParseSpecUptoCard

/-- THE SECOND FORM's CARD OF 'laws.FnParseSpec'. -/
def fnParseSpecUptoCard : Claim7 := { stood := { row := fnParseSpecUptoRow, standIns := [], harness := (true, "fee9ba43a5bc92e8161937ef9895e73e8cd13691ba930e1efe09308ff73dae64"), looks := false }, kinds := [], alts := [], laidByText := true, laidKinds := [.data, .data, .data], laidTests := true, laidLooks := .later }
def FnParseSpecUptoCardSaid : Prop := Claim7.holds Tryd.pinned (.plain (OpenSpec.upto fnParseSpecSpec)) fnParseSpecUptoCard

/-- THE SECOND FORM's CARD OF 'laws.FnExactValidArgs'. -/
def fnExactValidArgsUptoCard : Claim7 := { stood := { row := fnExactValidArgsUptoRow, standIns := [], harness := (true, "fee9ba43a5bc92e8161937ef9895e73e8cd13691ba930e1efe09308ff73dae64"), looks := false }, kinds := [], alts := [], laidByText := true, laidKinds := [.data, .pinned], laidTests := true, laidLooks := .later }
def FnExactValidArgsUptoCardSaid : Prop := Claim7.holds Tryd.pinned (.plain (OpenSpec.upto fnExactValidArgsSpec)) fnExactValidArgsUptoCard

/-- THE SECOND FORM's CARD OF 'laws.FnValidArgs'. -/
def fnValidArgsUptoCard : Claim7 := { stood := { row := fnValidArgsUptoRow, standIns := [], harness := (true, "fee9ba43a5bc92e8161937ef9895e73e8cd13691ba930e1efe09308ff73dae64"), looks := false }, kinds := [], alts := [], laidByText := true, laidKinds := [.data, .pinned], laidTests := true, laidLooks := .later }
def FnValidArgsUptoCardSaid : Prop := Claim7.holds Tryd.pinned (.plain (OpenSpec.upto fnValidArgsSpec)) fnValidArgsUptoCard
end Rows
end Go.Proofs.YtbkdjldimmhbjaaDoor
