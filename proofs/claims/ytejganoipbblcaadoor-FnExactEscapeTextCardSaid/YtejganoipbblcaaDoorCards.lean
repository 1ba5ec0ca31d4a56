/-
  DERIVED. GIVEN WITH THE SEED: THE CARDS: each row of YtejganoipbblcaaDoorRows.lean that lists a variable, with what it lists TIED to the program's text (the seventh form; the later family's looks); each row that meets fmt, with fmt's text TOLD by the authors' own Lean function (tested against real Go, not proved from fmt's source: count such statements apart). THE CARD IS WHAT COUNTS. Prove the row's statement (the work); the ties are given (YtejganoipbblcaaDoorTie.lean); close each card by the builder's one call (the guide's Derived/Test/ToyasCard.lean, 'card_holds'). Laid BY PROGRAM, IN A SANDBOX (cutbox-door.mjs). By AI agents, Wed Nov 11 2026. No macro, syntax, notation, axiom, sorry.
-/
import Derived.Test.YtejganoipbblcaaDoorRows
import GoSem.ClaimSeven
namespace Go.Proofs.YtejganoipbblcaaDoor
namespace Rows

/-- THE TIED CARD OF 'laws.FnValidArgs'. -/
def fnValidArgsCard : Claim7 := { stood := { row := fnValidArgsRow, standIns := [], harness := (true, "fbe5fd788e94ecb16adb3e1e1a09d7dfd488d165aad4688f7fc562941195aee9"), looks := false }, kinds := [], alts := [], laidByText := true, laidKinds := [.data, .pinned], laidTests := true, laidLooks := .later }
def FnValidArgsCardSaid : Prop := Claim7.holds Tryd.pinned (.plain (OpenSpec.ofChange fnValidArgsSpec)) fnValidArgsCard

/-- THE TIED CARD OF 'laws.FnExactValidArgs'. -/
def fnExactValidArgsCard : Claim7 := { stood := { row := fnExactValidArgsRow, standIns := [], harness := (true, "fbe5fd788e94ecb16adb3e1e1a09d7dfd488d165aad4688f7fc562941195aee9"), looks := false }, kinds := [], alts := [], laidByText := true, laidKinds := [.data, .pinned], laidTests := true, laidLooks := .later }
def FnExactValidArgsCardSaid : Prop := Claim7.holds Tryd.pinned (.plain (OpenSpec.ofChange fnExactValidArgsSpec)) fnExactValidArgsCard

/-- THE TIED CARD OF 'laws.FnExactEscapeText'. -/
def fnExactEscapeTextCard : Claim7 := { stood := { row := fnExactEscapeTextRow, standIns := [], harness := (true, "fbe5fd788e94ecb16adb3e1e1a09d7dfd488d165aad4688f7fc562941195aee9"), looks := false }, kinds := [], alts := [], laidByText := true, laidKinds := [.data, .pinned], laidTests := true, laidLooks := .later }
def FnExactEscapeTextCardSaid : Prop := Claim7.holds Tryd.pinned (.plain (OpenSpec.ofChange fnExactEscapeTextSpec)) fnExactEscapeTextCard

/-- THE SECOND FORM's CARD OF 'laws.FnValidArgs'. -/
def fnValidArgsUptoCard : Claim7 := { stood := { row := fnValidArgsUptoRow, standIns := [], harness := (true, "fbe5fd788e94ecb16adb3e1e1a09d7dfd488d165aad4688f7fc562941195aee9"), looks := false }, kinds := [], alts := [], laidByText := true, laidKinds := [.data, .pinned], laidTests := true, laidLooks := .later }
def FnValidArgsUptoCardSaid : Prop := Claim7.holds Tryd.pinned (.plain (OpenSpec.upto fnValidArgsSpec)) fnValidArgsUptoCard

/-- THE SECOND FORM's CARD OF 'laws.FnExactValidArgs'. -/
def fnExactValidArgsUptoCard : Claim7 := { stood := { row := fnExactValidArgsUptoRow, standIns := [], harness := (true, "fbe5fd788e94ecb16adb3e1e1a09d7dfd488d165aad4688f7fc562941195aee9"), looks := false }, kinds := [], alts := [], laidByText := true, laidKinds := [.data, .pinned], laidTests := true, laidLooks := .later }
def FnExactValidArgsUptoCardSaid : Prop := Claim7.holds Tryd.pinned (.plain (OpenSpec.upto fnExactValidArgsSpec)) fnExactValidArgsUptoCard

/-- THE SECOND FORM's CARD OF 'laws.FnExactEscapeText'. -/
def fnExactEscapeTextUptoCard : Claim7 := { stood := { row := fnExactEscapeTextUptoRow, standIns := [], harness := (true, "fbe5fd788e94ecb16adb3e1e1a09d7dfd488d165aad4688f7fc562941195aee9"), looks := false }, kinds := [], alts := [], laidByText := true, laidKinds := [.data, .pinned], laidTests := true, laidLooks := .later }
def FnExactEscapeTextUptoCardSaid : Prop := Claim7.holds Tryd.pinned (.plain (OpenSpec.upto fnExactEscapeTextSpec)) fnExactEscapeTextUptoCard
end Rows
end Go.Proofs.YtejganoipbblcaaDoor
