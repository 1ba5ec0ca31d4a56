/-
  DERIVED. GIVEN WITH THE SEED: THE CARDS: each row of YteaaopippeploaaDoorRows.lean that lists a variable, with what it lists TIED to the program's text (the seventh form; the later family's looks); each row that meets fmt, with fmt's text TOLD by the authors' own Lean function (tested against real Go, not proved from fmt's source: count such statements apart). THE CARD IS WHAT COUNTS. Prove the row's statement (the work); the ties are given (YteaaopippeploaaDoorTie.lean); close each card by the builder's one call (the guide's Derived/Test/ToyasCard.lean, 'card_holds'). Laid BY PROGRAM, IN A SANDBOX (cutbox-door.mjs). By AI agents, Wed Nov 11 2026. No macro, syntax, notation, axiom, sorry.
-/
import Derived.Test.YteaaopippeploaaDoorRows
import GoSem.ClaimSeven
namespace Go.Proofs.YteaaopippeploaaDoor
namespace Rows

/-- THE TIED CARD OF 'laws.FnExactSpecText'. -/
def fnExactSpecTextCard : Claim7 := { stood := { row := fnExactSpecTextRow, standIns := [], harness := (true, "4afb527c3fbe91419ff3de0f8fe31f854ab5854dd1271abd431d9944a3381e99"), looks := false }, kinds := [], alts := [], laidByText := true, laidKinds := [.data, .data, .data], laidTests := true, laidLooks := .later }
def FnExactSpecTextCardSaid : Prop := Claim7.holds Tryd.pinned (.plain (OpenSpec.ofChange fnExactSpecTextSpec)) fnExactSpecTextCard

/-- THE TIED CARD OF 'laws.FnExactParseSpec'. -/
def fnExactParseSpecCard : Claim7 := { stood := { row := fnExactParseSpecRow, standIns := [], harness := (true, "4afb527c3fbe91419ff3de0f8fe31f854ab5854dd1271abd431d9944a3381e99"), looks := false }, kinds := [], alts := [], laidByText := true, laidKinds := [.data, .data, .data], laidTests := true, laidLooks := .later }
def FnExactParseSpecCardSaid : Prop := Claim7.holds Tryd.pinned (.plain (OpenSpec.ofChange fnExactParseSpecSpec)) fnExactParseSpecCard

/-- THE TIED CARD OF 'laws.FnExactDigitsIn'. -/
def fnExactDigitsInCard : Claim7 := { stood := { row := fnExactDigitsInRow, standIns := [], harness := (true, "4afb527c3fbe91419ff3de0f8fe31f854ab5854dd1271abd431d9944a3381e99"), looks := false }, kinds := [], alts := [], laidByText := true, laidKinds := [.data, .data, .data], laidTests := true, laidLooks := .later }
def FnExactDigitsInCardSaid : Prop := Claim7.holds Tryd.pinned (.plain (OpenSpec.ofChange fnExactDigitsInSpec)) fnExactDigitsInCard

/-- THE TIED CARD OF 'laws.FnExactUngroupDigits'. -/
def fnExactUngroupDigitsCard : Claim7 := { stood := { row := fnExactUngroupDigitsRow, standIns := [], harness := (true, "4afb527c3fbe91419ff3de0f8fe31f854ab5854dd1271abd431d9944a3381e99"), looks := false }, kinds := [], alts := [], laidByText := true, laidKinds := [.data, .pinned], laidTests := true, laidLooks := .later }
def FnExactUngroupDigitsCardSaid : Prop := Claim7.holds Tryd.pinned (.plain (OpenSpec.ofChange fnExactUngroupDigitsSpec)) fnExactUngroupDigitsCard

/-- THE TIED CARD OF 'laws.FnExactReadWhole'. -/
def fnExactReadWholeCard : Claim7 := { stood := { row := fnExactReadWholeRow, standIns := [], harness := (true, "4afb527c3fbe91419ff3de0f8fe31f854ab5854dd1271abd431d9944a3381e99"), looks := false }, kinds := [], alts := [], laidByText := true, laidKinds := [.data, .pinned], laidTests := true, laidLooks := .later }
def FnExactReadWholeCardSaid : Prop := Claim7.holds Tryd.pinned (.plain (OpenSpec.ofChange fnExactReadWholeSpec)) fnExactReadWholeCard

/-- THE SECOND FORM's CARD OF 'laws.FnExactSpecText'. -/
def fnExactSpecTextUptoCard : Claim7 := { stood := { row := fnExactSpecTextUptoRow, standIns := [], harness := (true, "4afb527c3fbe91419ff3de0f8fe31f854ab5854dd1271abd431d9944a3381e99"), looks := false }, kinds := [], alts := [], laidByText := true, laidKinds := [.data, .data, .data], laidTests := true, laidLooks := .later }
def FnExactSpecTextUptoCardSaid : Prop := Claim7.holds Tryd.pinned (.plain (OpenSpec.upto fnExactSpecTextSpec)) fnExactSpecTextUptoCard

/-- THE SECOND FORM's CARD OF 'laws.FnExactParseSpec'. -/
def fnExactParseSpecUptoCard : Claim7 := { stood := { row := fnExactParseSpecUptoRow, standIns := [], harness := (true, "4afb527c3fbe91419ff3de0f8fe31f854ab5854dd1271abd431d9944a3381e99"), looks := false }, kinds := [], alts := [], laidByText := true, laidKinds := [.data, .data, .data], laidTests := true, laidLooks := .later }
def FnExactParseSpecUptoCardSaid : Prop := Claim7.holds Tryd.pinned (.plain (OpenSpec.upto fnExactParseSpecSpec)) fnExactParseSpecUptoCard

/-- THE SECOND FORM's CARD OF 'laws.FnExactDigitsIn'. -/
def fnExactDigitsInUptoCard : Claim7 := { stood := { row := fnExactDigitsInUptoRow, standIns := [], harness := (true, "4afb527c3fbe91419ff3de0f8fe31f854ab5854dd1271abd431d9944a3381e99"), looks := false }, kinds := [], alts := [], laidByText := true, laidKinds := [.data, .data, .data], laidTests := true, laidLooks := .later }
def FnExactDigitsInUptoCardSaid : Prop := Claim7.holds Tryd.pinned (.plain (OpenSpec.upto fnExactDigitsInSpec)) fnExactDigitsInUptoCard

/-- THE SECOND FORM's CARD OF 'laws.FnExactUngroupDigits'. -/
def fnExactUngroupDigitsUptoCard : Claim7 := { stood := { row := fnExactUngroupDigitsUptoRow, standIns := [], harness := (true, "4afb527c3fbe91419ff3de0f8fe31f854ab5854dd1271abd431d9944a3381e99"), looks := false }, kinds := [], alts := [], laidByText := true, laidKinds := [.data, .pinned], laidTests := true, laidLooks := .later }
def FnExactUngroupDigitsUptoCardSaid : Prop := Claim7.holds Tryd.pinned (.plain (OpenSpec.upto fnExactUngroupDigitsSpec)) fnExactUngroupDigitsUptoCard

/-- THE SECOND FORM's CARD OF 'laws.FnExactReadWhole'. -/
def fnExactReadWholeUptoCard : Claim7 := { stood := { row := fnExactReadWholeUptoRow, standIns := [], harness := (true, "4afb527c3fbe91419ff3de0f8fe31f854ab5854dd1271abd431d9944a3381e99"), looks := false }, kinds := [], alts := [], laidByText := true, laidKinds := [.data, .pinned], laidTests := true, laidLooks := .later }
def FnExactReadWholeUptoCardSaid : Prop := Claim7.holds Tryd.pinned (.plain (OpenSpec.upto fnExactReadWholeSpec)) fnExactReadWholeUptoCard
end Rows
end Go.Proofs.YteaaopippeploaaDoor
