/-
  DERIVED. GIVEN WITH THE SEED: THE CARDS: each row of YtcbpocpkfmbaoaaDoorRows.lean that lists a variable, with what it lists TIED to the program's text (the seventh form; the later family's looks); each row that meets fmt, with fmt's text TOLD by the authors' own Lean function (tested against real Go, not proved from fmt's source: count such statements apart). THE CARD IS WHAT COUNTS. Prove the row's statement (the work); the ties are given (YtcbpocpkfmbaoaaDoorTie.lean); close each card by the builder's one call (the guide's Derived/Test/ToyasCard.lean, 'card_holds'). Laid BY PROGRAM, IN A SANDBOX (cutbox-door.mjs). By AI agents, Wed Nov 11 2026. No macro, syntax, notation, axiom, sorry.
-/
import Derived.Test.YtcbpocpkfmbaoaaDoorRows
import GoSem.ClaimSeven
namespace Go.Proofs.YtcbpocpkfmbaoaaDoor
namespace Rows

/-- THE TIED CARD OF 'laws.FnStripText'. -/
def fnStripTextCard : Claim7 := { stood := { row := fnStripTextRow, standIns := [], harness := (true, "09966117908d7d70d91f02b0ba30974728c143a75f10f7c61ba2bea72cf1273e"), looks := false }, kinds := [], alts := [], laidByText := true, laidKinds := [.data, .pinned], laidTests := true, laidLooks := .later }
def FnStripTextCardSaid : Prop := Claim7.holds Tryd.pinned (.plain (OpenSpec.ofChange fnStripTextSpec)) fnStripTextCard

/-- THE TIED CARD OF 'laws.FnExactStripText'. -/
def fnExactStripTextCard : Claim7 := { stood := { row := fnExactStripTextRow, standIns := [], harness := (true, "09966117908d7d70d91f02b0ba30974728c143a75f10f7c61ba2bea72cf1273e"), looks := false }, kinds := [], alts := [], laidByText := true, laidKinds := [.data, .pinned], laidTests := true, laidLooks := .later }
def FnExactStripTextCardSaid : Prop := Claim7.holds Tryd.pinned (.plain (OpenSpec.ofChange fnExactStripTextSpec)) fnExactStripTextCard

/-- THE SECOND FORM's CARD OF 'laws.FnStripText'. -/
def fnStripTextUptoCard : Claim7 := { stood := { row := fnStripTextUptoRow, standIns := [], harness := (true, "09966117908d7d70d91f02b0ba30974728c143a75f10f7c61ba2bea72cf1273e"), looks := false }, kinds := [], alts := [], laidByText := true, laidKinds := [.data, .pinned], laidTests := true, laidLooks := .later }
def FnStripTextUptoCardSaid : Prop := Claim7.holds Tryd.pinned (.plain (OpenSpec.upto fnStripTextSpec)) fnStripTextUptoCard

/-- THE SECOND FORM's CARD OF 'laws.FnExactStripText'. -/
def fnExactStripTextUptoCard : Claim7 := { stood := { row := fnExactStripTextUptoRow, standIns := [], harness := (true, "09966117908d7d70d91f02b0ba30974728c143a75f10f7c61ba2bea72cf1273e"), looks := false }, kinds := [], alts := [], laidByText := true, laidKinds := [.data, .pinned], laidTests := true, laidLooks := .later }
def FnExactStripTextUptoCardSaid : Prop := Claim7.holds Tryd.pinned (.plain (OpenSpec.upto fnExactStripTextSpec)) fnExactStripTextUptoCard
end Rows
end Go.Proofs.YtcbpocpkfmbaoaaDoor
