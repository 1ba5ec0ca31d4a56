/-
  No cell of these rows narrows 'for every input' (looked for: loops, veiled, ifaces, maps, wideKeys, modest, calm, conditions, laid).
  DERIVED. THE GIVEN ROWS OF THIS SEAT. 7 by the template 'for every input the law returns true; each argument reads behind the call as it read before'; 0 by the template 'total and deterministic' (their statements: YtffdgpahbdmacaaTotals.lean).
  GIVEN WITH THE SEED: the statements are not yours to turn. If you find one false, say at which input.
  Laid BY PROGRAM, IN A SANDBOX (cutbox-rows.mjs): the forced cells as the released guide's own fill.sh prints them over the translation a0a8b9f875d4240f… (all of the seat's roots in one cut). By AI agents, Wed Nov 11 2026. No macro, syntax, notation, axiom, sorry.
-/
import Derived.Test.YtffdgpahbdmacaaChecked
import GoSem.Claim
import GoSem.ClaimJoined
import GoSem.ClaimMapViews
import Derived.JoinedTies
import Derived.KernelRfl
namespace Go.Proofs.Ytffdgpahbdmacaa
/- THE CELL 'sum', in the pinned program and in every row, IS THE sha256 OF THE DUMP (.gsa) THAT YtffdgpahbdmacaaProg.lean LOADS. Nothing in Lean hashes anything: it is a label: what it is worth is what the hold of that sum in a sandbox is worth. -/
noncomputable def Try.pinned : Pinned := { name := "ytffdgpahbdmacaa", sum := "a0a8b9f875d4240f11da7207d95c75a2f7f746eaf44c8622dd1333a725b42efb", checked := Try.checked }
namespace Rows
def none {H : Type} : Left H := { results := [], args := [] }

/-- 'laws.FnSpecSuits': WHATEVER THE INPUT: true; the input reads as it did. -/
def fnSpecSuitsSpec : ChangeSpec := { name := "fnSpecSuits", fn := fun _ => fun
  | [d] => { results := [.lit (.bool true)], args := [d] }
  | _ => none }
def fnSpecSuitsRow : OpenClaim := { program := "ytffdgpahbdmacaa", sum := "a0a8b9f875d4240f11da7207d95c75a2f7f746eaf44c8622dd1333a725b42efb", func := "loop.example/formatplans/laws.FnSpecSuits", spec := "fnSpecSuits", inPlace := ["internal/bytealg.IndexByteString", "internal/bytealg.IndexString"], named := ["internal/bytealg.MaxLen"], apart := false }
def FnSpecSuitsSaid : Prop := fnSpecSuitsRow.holds Try.pinned (OpenSpec.ofChange fnSpecSuitsSpec)

/-- ITS FALSE NEIGHBOUR: 'it returns false'. Refute it at one input. -/
def fnSpecSuitsWrong : ChangeSpec := { name := "fnSpecSuits", fn := fun _ => fun
  | [d] => { results := [.lit (.bool false)], args := [d] }
  | _ => none }
def FnSpecSuitsWrongFalsely : Prop := fnSpecSuitsRow.holds Try.pinned (OpenSpec.ofChange fnSpecSuitsWrong)

/-- 'laws.FnFillFor': WHATEVER THE INPUT: true; the input reads as it did. -/
def fnFillForSpec : ChangeSpec := { name := "fnFillFor", fn := fun _ => fun
  | [d] => { results := [.lit (.bool true)], args := [d] }
  | _ => none }
def fnFillForRow : OpenClaim := { program := "ytffdgpahbdmacaa", sum := "a0a8b9f875d4240f11da7207d95c75a2f7f746eaf44c8622dd1333a725b42efb", func := "loop.example/formatplans/laws.FnFillFor", spec := "fnFillFor", inPlace := ["internal/bytealg.IndexByteString", "internal/bytealg.IndexString"], named := ["internal/bytealg.MaxLen"], apart := false }
def FnFillForSaid : Prop := fnFillForRow.holds Try.pinned (OpenSpec.ofChange fnFillForSpec)

/-- ITS FALSE NEIGHBOUR: 'it returns false'. Refute it at one input. -/
def fnFillForWrong : ChangeSpec := { name := "fnFillFor", fn := fun _ => fun
  | [d] => { results := [.lit (.bool false)], args := [d] }
  | _ => none }
def FnFillForWrongFalsely : Prop := fnFillForRow.holds Try.pinned (OpenSpec.ofChange fnFillForWrong)

/-- 'laws.FnFormatText': WHATEVER THE INPUT: true; the input reads as it did. -/
def fnFormatTextSpec : ChangeSpec := { name := "fnFormatText", fn := fun _ => fun
  | [d] => { results := [.lit (.bool true)], args := [d] }
  | _ => none }
def fnFormatTextRow : OpenClaim := { program := "ytffdgpahbdmacaa", sum := "a0a8b9f875d4240f11da7207d95c75a2f7f746eaf44c8622dd1333a725b42efb", func := "loop.example/formatplans/laws.FnFormatText", spec := "fnFormatText", inPlace := ["internal/bytealg.IndexByteString", "internal/bytealg.IndexString", "internal/abi.NoEscape", "internal/bytealg.MakeNoZero"], named := ["internal/bytealg.MaxLen"], apart := false }
def FnFormatTextSaid : Prop := fnFormatTextRow.holds Try.pinned (OpenSpec.ofChange fnFormatTextSpec)

/-- ITS FALSE NEIGHBOUR: 'it returns false'. Refute it at one input. -/
def fnFormatTextWrong : ChangeSpec := { name := "fnFormatText", fn := fun _ => fun
  | [d] => { results := [.lit (.bool false)], args := [d] }
  | _ => none }
def FnFormatTextWrongFalsely : Prop := fnFormatTextRow.holds Try.pinned (OpenSpec.ofChange fnFormatTextWrong)

/-- 'laws.FnExactFormatText': WHATEVER THE INPUT: true; the input reads as it did. -/
def fnExactFormatTextSpec : ChangeSpec := { name := "fnExactFormatText", fn := fun _ => fun
  | [d1, d2] => { results := [.lit (.bool true)], args := [d1, d2] }
  | _ => none }
def fnExactFormatTextRow : OpenClaim := { program := "ytffdgpahbdmacaa", sum := "a0a8b9f875d4240f11da7207d95c75a2f7f746eaf44c8622dd1333a725b42efb", func := "loop.example/formatplans/laws.FnExactFormatText", spec := "fnExactFormatText", inPlace := ["internal/bytealg.IndexByteString", "internal/bytealg.IndexString", "internal/abi.NoEscape", "internal/bytealg.MakeNoZero"], named := ["internal/bytealg.MaxLen"], apart := false }
def FnExactFormatTextSaid : Prop := fnExactFormatTextRow.holds Try.pinned (OpenSpec.ofChange fnExactFormatTextSpec)

/-- ITS FALSE NEIGHBOUR: 'it returns false'. Refute it at one input. -/
def fnExactFormatTextWrong : ChangeSpec := { name := "fnExactFormatText", fn := fun _ => fun
  | [d1, d2] => { results := [.lit (.bool false)], args := [d1, d2] }
  | _ => none }
def FnExactFormatTextWrongFalsely : Prop := fnExactFormatTextRow.holds Try.pinned (OpenSpec.ofChange fnExactFormatTextWrong)

/-- 'laws.FnWidthsOf': WHATEVER THE INPUT: true; the input reads as it did. -/
def fnWidthsOfSpec : ChangeSpec := { name := "fnWidthsOf", fn := fun _ => fun
  | [d] => { results := [.lit (.bool true)], args := [d] }
  | _ => none }
def fnWidthsOfRow : OpenClaim := { program := "ytffdgpahbdmacaa", sum := "a0a8b9f875d4240f11da7207d95c75a2f7f746eaf44c8622dd1333a725b42efb", func := "loop.example/formatplans/laws.FnWidthsOf", spec := "fnWidthsOf", apart := false }
def FnWidthsOfSaid : Prop := fnWidthsOfRow.holds Try.pinned (OpenSpec.ofChange fnWidthsOfSpec)

/-- ITS FALSE NEIGHBOUR: 'it returns false'. Refute it at one input. -/
def fnWidthsOfWrong : ChangeSpec := { name := "fnWidthsOf", fn := fun _ => fun
  | [d] => { results := [.lit (.bool false)], args := [d] }
  | _ => none }
def FnWidthsOfWrongFalsely : Prop := fnWidthsOfRow.holds Try.pinned (OpenSpec.ofChange fnWidthsOfWrong)

/-- 'laws.FnExactWidthsOf': WHATEVER THE INPUT: true; the input reads as it did. -/
def fnExactWidthsOfSpec : ChangeSpec := { name := "fnExactWidthsOf", fn := fun _ => fun
  | [d] => { results := [.lit (.bool true)], args := [d] }
  | _ => none }
def fnExactWidthsOfRow : OpenClaim := { program := "ytffdgpahbdmacaa", sum := "a0a8b9f875d4240f11da7207d95c75a2f7f746eaf44c8622dd1333a725b42efb", func := "loop.example/formatplans/laws.FnExactWidthsOf", spec := "fnExactWidthsOf", apart := false }
def FnExactWidthsOfSaid : Prop := fnExactWidthsOfRow.holds Try.pinned (OpenSpec.ofChange fnExactWidthsOfSpec)

/-- ITS FALSE NEIGHBOUR: 'it returns false'. Refute it at one input. -/
def fnExactWidthsOfWrong : ChangeSpec := { name := "fnExactWidthsOf", fn := fun _ => fun
  | [d] => { results := [.lit (.bool false)], args := [d] }
  | _ => none }
def FnExactWidthsOfWrongFalsely : Prop := fnExactWidthsOfRow.holds Try.pinned (OpenSpec.ofChange fnExactWidthsOfWrong)

/-- 'laws.FnExactValidValue': WHATEVER THE INPUT: true; the input reads as it did. -/
def fnExactValidValueSpec : ChangeSpec := { name := "fnExactValidValue", fn := fun _ => fun
  | [d] => { results := [.lit (.bool true)], args := [d] }
  | _ => none }
def fnExactValidValueRow : OpenClaim := { program := "ytffdgpahbdmacaa", sum := "a0a8b9f875d4240f11da7207d95c75a2f7f746eaf44c8622dd1333a725b42efb", func := "loop.example/formatplans/laws.FnExactValidValue", spec := "fnExactValidValue", apart := false }
def FnExactValidValueSaid : Prop := fnExactValidValueRow.holds Try.pinned (OpenSpec.ofChange fnExactValidValueSpec)

/-- ITS FALSE NEIGHBOUR: 'it returns false'. Refute it at one input. -/
def fnExactValidValueWrong : ChangeSpec := { name := "fnExactValidValue", fn := fun _ => fun
  | [d] => { results := [.lit (.bool false)], args := [d] }
  | _ => none }
def FnExactValidValueWrongFalsely : Prop := fnExactValidValueRow.holds Try.pinned (OpenSpec.ofChange fnExactValidValueWrong)

/- THE SECOND FORM. 'bulk': how many values and letters a reading holds, each counted each time it is reached (what is shared counts as often as it is met; a slice's spare places count too). A statement '..UptoSaid' is the law's where the arguments, and the package variables that the reading takes, are together of bulk at most 1048576: NARROWER than '..Said'. Prove '..Said' where nothing that the law and all that it calls make is longer than what came in: it says more and counts as full. Else prove '..UptoSaid'. A law counts once. -/
mutual
def uptoBulk {H : Type} : DataW H → Nat
  | .lit (.string bytes) => bytes.length + 1
  | .lit _ => 1
  | .nil => 1
  | .ptr d => uptoBulk d + 1
  | .slice elems spare => uptoBulkAll elems + uptoBulkAll spare + 1
  | .agg parts => uptoBulkAll parts + 1
  | .iface _ d => uptoBulk d + 1
  | .map entries => uptoBulkEntries entries + 1
  | .held _ => 1
def uptoBulkAll {H : Type} : List (DataW H) → Nat
  | [] => 0
  | d :: r => uptoBulk d + uptoBulkAll r
def uptoBulkEntries {H : Type} : List (Lit × DataW H) → Nat
  | [] => 0
  | x :: r => uptoBulkEntry x + uptoBulkEntries r
def uptoBulkEntry {H : Type} : Lit × DataW H → Nat
  | (.string bytes, d) => bytes.length + uptoBulk d + 1
  | (_, d) => uptoBulk d + 1
 end
def uptoSmall : (H : Type) → List (DataW H) → Bool := fun _ ds => decide (uptoBulkAll ds ≤ 1048576)
def OpenSpec.upto (s : _root_.Go.ChangeSpec) : _root_.Go.OpenSpec := { _root_.Go.OpenSpec.ofChange s with cond := some uptoSmall }

/-- 'laws.FnSpecSuits', WHERE WHAT IT READS IS OF BULK AT MOST 1048576: true; the input reads as it did. -/
def fnSpecSuitsUptoRow : OpenClaim := { program := "ytffdgpahbdmacaa", sum := "a0a8b9f875d4240f11da7207d95c75a2f7f746eaf44c8622dd1333a725b42efb", func := "loop.example/formatplans/laws.FnSpecSuits", spec := "fnSpecSuits", inPlace := ["internal/bytealg.IndexByteString", "internal/bytealg.IndexString"], named := ["internal/bytealg.MaxLen"], apart := false, narrowed := true }
def FnSpecSuitsUptoSaid : Prop := fnSpecSuitsUptoRow.holds Try.pinned (OpenSpec.upto fnSpecSuitsSpec)

/-- 'laws.FnFillFor', WHERE WHAT IT READS IS OF BULK AT MOST 1048576: true; the input reads as it did. -/
def fnFillForUptoRow : OpenClaim := { program := "ytffdgpahbdmacaa", sum := "a0a8b9f875d4240f11da7207d95c75a2f7f746eaf44c8622dd1333a725b42efb", func := "loop.example/formatplans/laws.FnFillFor", spec := "fnFillFor", inPlace := ["internal/bytealg.IndexByteString", "internal/bytealg.IndexString"], named := ["internal/bytealg.MaxLen"], apart := false, narrowed := true }
def FnFillForUptoSaid : Prop := fnFillForUptoRow.holds Try.pinned (OpenSpec.upto fnFillForSpec)

/-- 'laws.FnFormatText', WHERE WHAT IT READS IS OF BULK AT MOST 1048576: true; the input reads as it did. -/
def fnFormatTextUptoRow : OpenClaim := { program := "ytffdgpahbdmacaa", sum := "a0a8b9f875d4240f11da7207d95c75a2f7f746eaf44c8622dd1333a725b42efb", func := "loop.example/formatplans/laws.FnFormatText", spec := "fnFormatText", inPlace := ["internal/bytealg.IndexByteString", "internal/bytealg.IndexString", "internal/abi.NoEscape", "internal/bytealg.MakeNoZero"], named := ["internal/bytealg.MaxLen"], apart := false, narrowed := true }
def FnFormatTextUptoSaid : Prop := fnFormatTextUptoRow.holds Try.pinned (OpenSpec.upto fnFormatTextSpec)

/-- 'laws.FnExactFormatText', WHERE WHAT IT READS IS OF BULK AT MOST 1048576: true; the input reads as it did. -/
def fnExactFormatTextUptoRow : OpenClaim := { program := "ytffdgpahbdmacaa", sum := "a0a8b9f875d4240f11da7207d95c75a2f7f746eaf44c8622dd1333a725b42efb", func := "loop.example/formatplans/laws.FnExactFormatText", spec := "fnExactFormatText", inPlace := ["internal/bytealg.IndexByteString", "internal/bytealg.IndexString", "internal/abi.NoEscape", "internal/bytealg.MakeNoZero"], named := ["internal/bytealg.MaxLen"], apart := false, narrowed := true }
def FnExactFormatTextUptoSaid : Prop := fnExactFormatTextUptoRow.holds Try.pinned (OpenSpec.upto fnExactFormatTextSpec)

/-- 'laws.FnWidthsOf', WHERE WHAT IT READS IS OF BULK AT MOST 1048576: true; the input reads as it did. -/
def fnWidthsOfUptoRow : OpenClaim := { program := "ytffdgpahbdmacaa", sum := "a0a8b9f875d4240f11da7207d95c75a2f7f746eaf44c8622dd1333a725b42efb", func := "loop.example/formatplans/laws.FnWidthsOf", spec := "fnWidthsOf", apart := false, narrowed := true }
def FnWidthsOfUptoSaid : Prop := fnWidthsOfUptoRow.holds Try.pinned (OpenSpec.upto fnWidthsOfSpec)

/-- 'laws.FnExactWidthsOf', WHERE WHAT IT READS IS OF BULK AT MOST 1048576: true; the input reads as it did. -/
def fnExactWidthsOfUptoRow : OpenClaim := { program := "ytffdgpahbdmacaa", sum := "a0a8b9f875d4240f11da7207d95c75a2f7f746eaf44c8622dd1333a725b42efb", func := "loop.example/formatplans/laws.FnExactWidthsOf", spec := "fnExactWidthsOf", apart := false, narrowed := true }
def FnExactWidthsOfUptoSaid : Prop := fnExactWidthsOfUptoRow.holds Try.pinned (OpenSpec.upto fnExactWidthsOfSpec)

/-- 'laws.FnExactValidValue', WHERE WHAT IT READS IS OF BULK AT MOST 1048576: true; the input reads as it did. -/
def fnExactValidValueUptoRow : OpenClaim := { program := "ytffdgpahbdmacaa", sum := "a0a8b9f875d4240f11da7207d95c75a2f7f746eaf44c8622dd1333a725b42efb", func := "loop.example/formatplans/laws.FnExactValidValue", spec := "fnExactValidValue", apart := false, narrowed := true }
def FnExactValidValueUptoSaid : Prop := fnExactValidValueUptoRow.holds Try.pinned (OpenSpec.upto fnExactValidValueSpec)

end Rows
end Go.Proofs.Ytffdgpahbdmacaa
