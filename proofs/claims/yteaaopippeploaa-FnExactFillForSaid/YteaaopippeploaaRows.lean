/-
  No cell of these rows narrows 'for every input' (looked for: loops, veiled, ifaces, maps, wideKeys, modest, calm, conditions, laid).
  DERIVED. THE GIVEN ROWS OF THIS SEAT. 10 by the template 'for every input the law returns true; each argument reads behind the call as it read before'; 0 by the template 'total and deterministic' (their statements: YteaaopippeploaaTotals.lean).
  GIVEN WITH THE SEED: the statements are not yours to turn. If you find one false, say at which input.
  Laid BY PROGRAM, IN A SANDBOX (cutbox-rows.mjs): the forced cells as the released guide's own fill.sh prints them over the translation 92ebc05cfbdcc5bc… (all of the seat's roots in one cut). By AI agents, Wed Nov 11 2026. No macro, syntax, notation, axiom, sorry.
-/
import Derived.Test.YteaaopippeploaaChecked
import GoSem.Claim
import GoSem.ClaimJoined
import GoSem.ClaimMapViews
import Derived.JoinedTies
import Derived.KernelRfl
namespace Go.Proofs.Yteaaopippeploaa
/- THE CELL 'sum', in the pinned program and in every row, IS THE sha256 OF THE DUMP (.gsa) THAT YteaaopippeploaaProg.lean LOADS. Nothing in Lean hashes anything: it is a label: what it is worth is what the hold of that sum in a sandbox is worth. -/
noncomputable def Try.pinned : Pinned := { name := "yteaaopippeploaa", sum := "92ebc05cfbdcc5bce7dd02aff2189e920e35a13bde41e0ffb17904bdff08c5da", checked := Try.checked }
namespace Rows
def none {H : Type} : Left H := { results := [], args := [] }

/-- 'laws.FnAlignFor': WHATEVER THE INPUT: true; the input reads as it did. -/
def fnAlignForSpec : ChangeSpec := { name := "fnAlignFor", fn := fun _ => fun
  | [d] => { results := [.lit (.bool true)], args := [d] }
  | _ => none }
def fnAlignForRow : OpenClaim := { program := "yteaaopippeploaa", sum := "92ebc05cfbdcc5bce7dd02aff2189e920e35a13bde41e0ffb17904bdff08c5da", func := "loop.example/formatplans/laws.FnAlignFor", spec := "fnAlignFor", inPlace := ["internal/bytealg.IndexByteString", "internal/bytealg.IndexString"], named := ["internal/bytealg.MaxLen"], apart := false }
def FnAlignForSaid : Prop := fnAlignForRow.holds Try.pinned (OpenSpec.ofChange fnAlignForSpec)

/-- ITS FALSE NEIGHBOUR: 'it returns false'. Refute it at one input. -/
def fnAlignForWrong : ChangeSpec := { name := "fnAlignFor", fn := fun _ => fun
  | [d] => { results := [.lit (.bool false)], args := [d] }
  | _ => none }
def FnAlignForWrongFalsely : Prop := fnAlignForRow.holds Try.pinned (OpenSpec.ofChange fnAlignForWrong)

/-- 'laws.FnPlainSpec': WHATEVER THE INPUT: true; the input reads as it did. -/
def fnPlainSpecSpec : ChangeSpec := { name := "fnPlainSpec", fn := fun _ => fun
  | [d] => { results := [.lit (.bool true)], args := [d] }
  | _ => none }
def fnPlainSpecRow : OpenClaim := { program := "yteaaopippeploaa", sum := "92ebc05cfbdcc5bce7dd02aff2189e920e35a13bde41e0ffb17904bdff08c5da", func := "loop.example/formatplans/laws.FnPlainSpec", spec := "fnPlainSpec", inPlace := ["internal/bytealg.IndexByteString", "internal/bytealg.IndexString"], named := ["internal/bytealg.MaxLen"], apart := false }
def FnPlainSpecSaid : Prop := fnPlainSpecRow.holds Try.pinned (OpenSpec.ofChange fnPlainSpecSpec)

/-- ITS FALSE NEIGHBOUR: 'it returns false'. Refute it at one input. -/
def fnPlainSpecWrong : ChangeSpec := { name := "fnPlainSpec", fn := fun _ => fun
  | [d] => { results := [.lit (.bool false)], args := [d] }
  | _ => none }
def FnPlainSpecWrongFalsely : Prop := fnPlainSpecRow.holds Try.pinned (OpenSpec.ofChange fnPlainSpecWrong)

/-- 'laws.FnExactValidSpec': WHATEVER THE INPUT: true; the input reads as it did. -/
def fnExactValidSpecSpec : ChangeSpec := { name := "fnExactValidSpec", fn := fun _ => fun
  | [d] => { results := [.lit (.bool true)], args := [d] }
  | _ => none }
def fnExactValidSpecRow : OpenClaim := { program := "yteaaopippeploaa", sum := "92ebc05cfbdcc5bce7dd02aff2189e920e35a13bde41e0ffb17904bdff08c5da", func := "loop.example/formatplans/laws.FnExactValidSpec", spec := "fnExactValidSpec", inPlace := ["internal/bytealg.IndexByteString", "internal/bytealg.IndexString"], named := ["internal/bytealg.MaxLen"], apart := false }
def FnExactValidSpecSaid : Prop := fnExactValidSpecRow.holds Try.pinned (OpenSpec.ofChange fnExactValidSpecSpec)

/-- ITS FALSE NEIGHBOUR: 'it returns false'. Refute it at one input. -/
def fnExactValidSpecWrong : ChangeSpec := { name := "fnExactValidSpec", fn := fun _ => fun
  | [d] => { results := [.lit (.bool false)], args := [d] }
  | _ => none }
def FnExactValidSpecWrongFalsely : Prop := fnExactValidSpecRow.holds Try.pinned (OpenSpec.ofChange fnExactValidSpecWrong)

/-- 'laws.FnExactSpecSuits': WHATEVER THE INPUT: true; the input reads as it did. -/
def fnExactSpecSuitsSpec : ChangeSpec := { name := "fnExactSpecSuits", fn := fun _ => fun
  | [d1, d2] => { results := [.lit (.bool true)], args := [d1, d2] }
  | _ => none }
def fnExactSpecSuitsRow : OpenClaim := { program := "yteaaopippeploaa", sum := "92ebc05cfbdcc5bce7dd02aff2189e920e35a13bde41e0ffb17904bdff08c5da", func := "loop.example/formatplans/laws.FnExactSpecSuits", spec := "fnExactSpecSuits", inPlace := ["internal/bytealg.IndexByteString", "internal/bytealg.IndexString"], named := ["internal/bytealg.MaxLen"], apart := false }
def FnExactSpecSuitsSaid : Prop := fnExactSpecSuitsRow.holds Try.pinned (OpenSpec.ofChange fnExactSpecSuitsSpec)

/-- ITS FALSE NEIGHBOUR: 'it returns false'. Refute it at one input. -/
def fnExactSpecSuitsWrong : ChangeSpec := { name := "fnExactSpecSuits", fn := fun _ => fun
  | [d1, d2] => { results := [.lit (.bool false)], args := [d1, d2] }
  | _ => none }
def FnExactSpecSuitsWrongFalsely : Prop := fnExactSpecSuitsRow.holds Try.pinned (OpenSpec.ofChange fnExactSpecSuitsWrong)

/-- 'laws.FnExactAlignFor': WHATEVER THE INPUT: true; the input reads as it did. -/
def fnExactAlignForSpec : ChangeSpec := { name := "fnExactAlignFor", fn := fun _ => fun
  | [d1, d2] => { results := [.lit (.bool true)], args := [d1, d2] }
  | _ => none }
def fnExactAlignForRow : OpenClaim := { program := "yteaaopippeploaa", sum := "92ebc05cfbdcc5bce7dd02aff2189e920e35a13bde41e0ffb17904bdff08c5da", func := "loop.example/formatplans/laws.FnExactAlignFor", spec := "fnExactAlignFor", inPlace := ["internal/bytealg.IndexByteString", "internal/bytealg.IndexString"], named := ["internal/bytealg.MaxLen"], apart := false }
def FnExactAlignForSaid : Prop := fnExactAlignForRow.holds Try.pinned (OpenSpec.ofChange fnExactAlignForSpec)

/-- ITS FALSE NEIGHBOUR: 'it returns false'. Refute it at one input. -/
def fnExactAlignForWrong : ChangeSpec := { name := "fnExactAlignFor", fn := fun _ => fun
  | [d1, d2] => { results := [.lit (.bool false)], args := [d1, d2] }
  | _ => none }
def FnExactAlignForWrongFalsely : Prop := fnExactAlignForRow.holds Try.pinned (OpenSpec.ofChange fnExactAlignForWrong)

/-- 'laws.FnExactFillFor': WHATEVER THE INPUT: true; the input reads as it did. -/
def fnExactFillForSpec : ChangeSpec := { name := "fnExactFillFor", fn := fun _ => fun
  | [d] => { results := [.lit (.bool true)], args := [d] }
  | _ => none }
def fnExactFillForRow : OpenClaim := { program := "yteaaopippeploaa", sum := "92ebc05cfbdcc5bce7dd02aff2189e920e35a13bde41e0ffb17904bdff08c5da", func := "loop.example/formatplans/laws.FnExactFillFor", spec := "fnExactFillFor", inPlace := ["internal/bytealg.IndexByteString", "internal/bytealg.IndexString"], named := ["internal/bytealg.MaxLen"], apart := false }
def FnExactFillForSaid : Prop := fnExactFillForRow.holds Try.pinned (OpenSpec.ofChange fnExactFillForSpec)

/-- ITS FALSE NEIGHBOUR: 'it returns false'. Refute it at one input. -/
def fnExactFillForWrong : ChangeSpec := { name := "fnExactFillFor", fn := fun _ => fun
  | [d] => { results := [.lit (.bool false)], args := [d] }
  | _ => none }
def FnExactFillForWrongFalsely : Prop := fnExactFillForRow.holds Try.pinned (OpenSpec.ofChange fnExactFillForWrong)

/-- 'laws.FnExactPlainSpec': WHATEVER THE INPUT: true; the input reads as it did. -/
def fnExactPlainSpecSpec : ChangeSpec := { name := "fnExactPlainSpec", fn := fun _ => fun
  | [d1, d2] => { results := [.lit (.bool true)], args := [d1, d2] }
  | _ => none }
def fnExactPlainSpecRow : OpenClaim := { program := "yteaaopippeploaa", sum := "92ebc05cfbdcc5bce7dd02aff2189e920e35a13bde41e0ffb17904bdff08c5da", func := "loop.example/formatplans/laws.FnExactPlainSpec", spec := "fnExactPlainSpec", inPlace := ["internal/bytealg.IndexByteString", "internal/bytealg.IndexString"], named := ["internal/bytealg.MaxLen"], apart := false }
def FnExactPlainSpecSaid : Prop := fnExactPlainSpecRow.holds Try.pinned (OpenSpec.ofChange fnExactPlainSpecSpec)

/-- ITS FALSE NEIGHBOUR: 'it returns false'. Refute it at one input. -/
def fnExactPlainSpecWrong : ChangeSpec := { name := "fnExactPlainSpec", fn := fun _ => fun
  | [d1, d2] => { results := [.lit (.bool false)], args := [d1, d2] }
  | _ => none }
def FnExactPlainSpecWrongFalsely : Prop := fnExactPlainSpecRow.holds Try.pinned (OpenSpec.ofChange fnExactPlainSpecWrong)

/-- 'laws.FnExactValueIn': WHATEVER THE INPUT: true; the input reads as it did. -/
def fnExactValueInSpec : ChangeSpec := { name := "fnExactValueIn", fn := fun _ => fun
  | [d1, d2] => { results := [.lit (.bool true)], args := [d1, d2] }
  | _ => none }
def fnExactValueInRow : OpenClaim := { program := "yteaaopippeploaa", sum := "92ebc05cfbdcc5bce7dd02aff2189e920e35a13bde41e0ffb17904bdff08c5da", func := "loop.example/formatplans/laws.FnExactValueIn", spec := "fnExactValueIn", apart := false }
def FnExactValueInSaid : Prop := fnExactValueInRow.holds Try.pinned (OpenSpec.ofChange fnExactValueInSpec)

/-- ITS FALSE NEIGHBOUR: 'it returns false'. Refute it at one input. -/
def fnExactValueInWrong : ChangeSpec := { name := "fnExactValueIn", fn := fun _ => fun
  | [d1, d2] => { results := [.lit (.bool false)], args := [d1, d2] }
  | _ => none }
def FnExactValueInWrongFalsely : Prop := fnExactValueInRow.holds Try.pinned (OpenSpec.ofChange fnExactValueInWrong)

/-- 'laws.FnExactGroupDigits': WHATEVER THE INPUT: true; the input reads as it did. -/
def fnExactGroupDigitsSpec : ChangeSpec := { name := "fnExactGroupDigits", fn := fun _ => fun
  | [d1, d2, d3] => { results := [.lit (.bool true)], args := [d1, d2, d3] }
  | _ => none }
def fnExactGroupDigitsRow : OpenClaim := { program := "yteaaopippeploaa", sum := "92ebc05cfbdcc5bce7dd02aff2189e920e35a13bde41e0ffb17904bdff08c5da", func := "loop.example/formatplans/laws.FnExactGroupDigits", spec := "fnExactGroupDigits", inPlace := ["internal/bytealg.MakeNoZero"], apart := false }
def FnExactGroupDigitsSaid : Prop := fnExactGroupDigitsRow.holds Try.pinned (OpenSpec.ofChange fnExactGroupDigitsSpec)

/-- ITS FALSE NEIGHBOUR: 'it returns false'. Refute it at one input. -/
def fnExactGroupDigitsWrong : ChangeSpec := { name := "fnExactGroupDigits", fn := fun _ => fun
  | [d1, d2, d3] => { results := [.lit (.bool false)], args := [d1, d2, d3] }
  | _ => none }
def FnExactGroupDigitsWrongFalsely : Prop := fnExactGroupDigitsRow.holds Try.pinned (OpenSpec.ofChange fnExactGroupDigitsWrong)

/-- 'laws.FnExactWidenDigits': WHATEVER THE INPUT: true; the input reads as it did. -/
def fnExactWidenDigitsSpec : ChangeSpec := { name := "fnExactWidenDigits", fn := fun _ => fun
  | [d1, d2, d3, d4] => { results := [.lit (.bool true)], args := [d1, d2, d3, d4] }
  | _ => none }
def fnExactWidenDigitsRow : OpenClaim := { program := "yteaaopippeploaa", sum := "92ebc05cfbdcc5bce7dd02aff2189e920e35a13bde41e0ffb17904bdff08c5da", func := "loop.example/formatplans/laws.FnExactWidenDigits", spec := "fnExactWidenDigits", inPlace := ["internal/abi.NoEscape", "internal/bytealg.MakeNoZero"], apart := false }
def FnExactWidenDigitsSaid : Prop := fnExactWidenDigitsRow.holds Try.pinned (OpenSpec.ofChange fnExactWidenDigitsSpec)

/-- ITS FALSE NEIGHBOUR: 'it returns false'. Refute it at one input. -/
def fnExactWidenDigitsWrong : ChangeSpec := { name := "fnExactWidenDigits", fn := fun _ => fun
  | [d1, d2, d3, d4] => { results := [.lit (.bool false)], args := [d1, d2, d3, d4] }
  | _ => none }
def FnExactWidenDigitsWrongFalsely : Prop := fnExactWidenDigitsRow.holds Try.pinned (OpenSpec.ofChange fnExactWidenDigitsWrong)

/- THE SECOND FORM. 'bulk': how many values and letters a reading holds, each counted each time it is reached (what is shared counts as often as it is met; a slice's spare places count too). A statement '..UptoSaid' is the law's where the arguments, and the package variables that the reading takes, are together of bulk at most 1048576: NARROWER than '..Said'. Prove '..Said' where nothing that the law and all that it calls make is longer than what came in: it says more and counts as full. Else prove '..UptoSaid'. A law counts once. -/
mutual
def uptoBulk {H : Type} : DataW H → Nat
  | .lit (.string bytes) => bytes.length + 1
  | .lit _ => 1
  | .nil => 1
  | .ptr d => uptoBulk d + 1
  | .slice elems spare => uptoBulkAll elems + uptoBulkAll spare + 1
  | .agg parts => uptoBulkAll parts + 1
  | .iface _ d => uptoBulk d + 1
  | .map entries => uptoBulkEntries entries + 1
  | .held _ => 1
def uptoBulkAll {H : Type} : List (DataW H) → Nat
  | [] => 0
  | d :: r => uptoBulk d + uptoBulkAll r
def uptoBulkEntries {H : Type} : List (Lit × DataW H) → Nat
  | [] => 0
  | x :: r => uptoBulkEntry x + uptoBulkEntries r
def uptoBulkEntry {H : Type} : Lit × DataW H → Nat
  | (.string bytes, d) => bytes.length + uptoBulk d + 1
  | (_, d) => uptoBulk d + 1
 end
def uptoSmall : (H : Type) → List (DataW H) → Bool := fun _ ds => decide (uptoBulkAll ds ≤ 1048576)
def OpenSpec.upto (s : _root_.Go.ChangeSpec) : _root_.Go.OpenSpec := { _root_.Go.OpenSpec.ofChange s with cond := some uptoSmall }

/-- 'laws.FnAlignFor', WHERE WHAT IT READS IS OF BULK AT MOST 1048576: true; the input reads as it did. -/
def fnAlignForUptoRow : OpenClaim := { program := "yteaaopippeploaa", sum := "92ebc05cfbdcc5bce7dd02aff2189e920e35a13bde41e0ffb17904bdff08c5da", func := "loop.example/formatplans/laws.FnAlignFor", spec := "fnAlignFor", inPlace := ["internal/bytealg.IndexByteString", "internal/bytealg.IndexString"], named := ["internal/bytealg.MaxLen"], apart := false, narrowed := true }
def FnAlignForUptoSaid : Prop := fnAlignForUptoRow.holds Try.pinned (OpenSpec.upto fnAlignForSpec)

/-- 'laws.FnPlainSpec', WHERE WHAT IT READS IS OF BULK AT MOST 1048576: true; the input reads as it did. -/
def fnPlainSpecUptoRow : OpenClaim := { program := "yteaaopippeploaa", sum := "92ebc05cfbdcc5bce7dd02aff2189e920e35a13bde41e0ffb17904bdff08c5da", func := "loop.example/formatplans/laws.FnPlainSpec", spec := "fnPlainSpec", inPlace := ["internal/bytealg.IndexByteString", "internal/bytealg.IndexString"], named := ["internal/bytealg.MaxLen"], apart := false, narrowed := true }
def FnPlainSpecUptoSaid : Prop := fnPlainSpecUptoRow.holds Try.pinned (OpenSpec.upto fnPlainSpecSpec)

/-- 'laws.FnExactValidSpec', WHERE WHAT IT READS IS OF BULK AT MOST 1048576: true; the input reads as it did. -/
def fnExactValidSpecUptoRow : OpenClaim := { program := "yteaaopippeploaa", sum := "92ebc05cfbdcc5bce7dd02aff2189e920e35a13bde41e0ffb17904bdff08c5da", func := "loop.example/formatplans/laws.FnExactValidSpec", spec := "fnExactValidSpec", inPlace := ["internal/bytealg.IndexByteString", "internal/bytealg.IndexString"], named := ["internal/bytealg.MaxLen"], apart := false, narrowed := true }
def FnExactValidSpecUptoSaid : Prop := fnExactValidSpecUptoRow.holds Try.pinned (OpenSpec.upto fnExactValidSpecSpec)

/-- 'laws.FnExactSpecSuits', WHERE WHAT IT READS IS OF BULK AT MOST 1048576: true; the input reads as it did. -/
def fnExactSpecSuitsUptoRow : OpenClaim := { program := "yteaaopippeploaa", sum := "92ebc05cfbdcc5bce7dd02aff2189e920e35a13bde41e0ffb17904bdff08c5da", func := "loop.example/formatplans/laws.FnExactSpecSuits", spec := "fnExactSpecSuits", inPlace := ["internal/bytealg.IndexByteString", "internal/bytealg.IndexString"], named := ["internal/bytealg.MaxLen"], apart := false, narrowed := true }
def FnExactSpecSuitsUptoSaid : Prop := fnExactSpecSuitsUptoRow.holds Try.pinned (OpenSpec.upto fnExactSpecSuitsSpec)

/-- 'laws.FnExactAlignFor', WHERE WHAT IT READS IS OF BULK AT MOST 1048576: true; the input reads as it did. -/
def fnExactAlignForUptoRow : OpenClaim := { program := "yteaaopippeploaa", sum := "92ebc05cfbdcc5bce7dd02aff2189e920e35a13bde41e0ffb17904bdff08c5da", func := "loop.example/formatplans/laws.FnExactAlignFor", spec := "fnExactAlignFor", inPlace := ["internal/bytealg.IndexByteString", "internal/bytealg.IndexString"], named := ["internal/bytealg.MaxLen"], apart := false, narrowed := true }
def FnExactAlignForUptoSaid : Prop := fnExactAlignForUptoRow.holds Try.pinned (OpenSpec.upto fnExactAlignForSpec)

/-- 'laws.FnExactFillFor', WHERE WHAT IT READS IS OF BULK AT MOST 1048576: true; the input reads as it did. -/
def fnExactFillForUptoRow : OpenClaim := { program := "yteaaopippeploaa", sum := "92ebc05cfbdcc5bce7dd02aff2189e920e35a13bde41e0ffb17904bdff08c5da", func := "loop.example/formatplans/laws.FnExactFillFor", spec := "fnExactFillFor", inPlace := ["internal/bytealg.IndexByteString", "internal/bytealg.IndexString"], named := ["internal/bytealg.MaxLen"], apart := false, narrowed := true }
def FnExactFillForUptoSaid : Prop := fnExactFillForUptoRow.holds Try.pinned (OpenSpec.upto fnExactFillForSpec)

/-- 'laws.FnExactPlainSpec', WHERE WHAT IT READS IS OF BULK AT MOST 1048576: true; the input reads as it did. -/
def fnExactPlainSpecUptoRow : OpenClaim := { program := "yteaaopippeploaa", sum := "92ebc05cfbdcc5bce7dd02aff2189e920e35a13bde41e0ffb17904bdff08c5da", func := "loop.example/formatplans/laws.FnExactPlainSpec", spec := "fnExactPlainSpec", inPlace := ["internal/bytealg.IndexByteString", "internal/bytealg.IndexString"], named := ["internal/bytealg.MaxLen"], apart := false, narrowed := true }
def FnExactPlainSpecUptoSaid : Prop := fnExactPlainSpecUptoRow.holds Try.pinned (OpenSpec.upto fnExactPlainSpecSpec)

/-- 'laws.FnExactValueIn', WHERE WHAT IT READS IS OF BULK AT MOST 1048576: true; the input reads as it did. -/
def fnExactValueInUptoRow : OpenClaim := { program := "yteaaopippeploaa", sum := "92ebc05cfbdcc5bce7dd02aff2189e920e35a13bde41e0ffb17904bdff08c5da", func := "loop.example/formatplans/laws.FnExactValueIn", spec := "fnExactValueIn", apart := false, narrowed := true }
def FnExactValueInUptoSaid : Prop := fnExactValueInUptoRow.holds Try.pinned (OpenSpec.upto fnExactValueInSpec)

/-- 'laws.FnExactGroupDigits', WHERE WHAT IT READS IS OF BULK AT MOST 1048576: true; the input reads as it did. -/
def fnExactGroupDigitsUptoRow : OpenClaim := { program := "yteaaopippeploaa", sum := "92ebc05cfbdcc5bce7dd02aff2189e920e35a13bde41e0ffb17904bdff08c5da", func := "loop.example/formatplans/laws.FnExactGroupDigits", spec := "fnExactGroupDigits", inPlace := ["internal/bytealg.MakeNoZero"], apart := false, narrowed := true }
def FnExactGroupDigitsUptoSaid : Prop := fnExactGroupDigitsUptoRow.holds Try.pinned (OpenSpec.upto fnExactGroupDigitsSpec)

/-- 'laws.FnExactWidenDigits', WHERE WHAT IT READS IS OF BULK AT MOST 1048576: true; the input reads as it did. -/
def fnExactWidenDigitsUptoRow : OpenClaim := { program := "yteaaopippeploaa", sum := "92ebc05cfbdcc5bce7dd02aff2189e920e35a13bde41e0ffb17904bdff08c5da", func := "loop.example/formatplans/laws.FnExactWidenDigits", spec := "fnExactWidenDigits", inPlace := ["internal/abi.NoEscape", "internal/bytealg.MakeNoZero"], apart := false, narrowed := true }
def FnExactWidenDigitsUptoSaid : Prop := fnExactWidenDigitsUptoRow.holds Try.pinned (OpenSpec.upto fnExactWidenDigitsSpec)

end Rows
end Go.Proofs.Yteaaopippeploaa
