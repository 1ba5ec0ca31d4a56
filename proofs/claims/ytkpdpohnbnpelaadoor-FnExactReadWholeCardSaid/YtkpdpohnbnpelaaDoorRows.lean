/-
  NARROWER THAN 'FOR EVERY INPUT', by the rows' own cells (each row's printed sentence says how): FnExactParseSpec: laid · FnExactDigitsIn: laid · FnExactUngroupDigits: laid · FnExactReadWhole: laid · FnDigitsIn: laid · FnValueIn: laid · FnGroupDigits: laid · FnUngroupDigits: laid.
  DERIVED. THE GIVEN ROWS OF THIS SEAT. 8 by the template 'for every input the law returns true; each argument reads behind the call as it read before'; 0 by the template 'total and deterministic' (their statements: YtkpdpohnbnpelaaDoorTotals.lean).
  GIVEN WITH THE SEED: the statements are not yours to turn. If you find one false, say at which input.
  Laid BY PROGRAM, IN A SANDBOX (cutbox-rows.mjs): the forced cells as the released guide's own fill.sh prints them over the translation 24b44d0a2f50c83b… (all of the seat's roots in one cut). By AI agents, Wed Nov 11 2026. No macro, syntax, notation, axiom, sorry.
-/
import Derived.Test.YtkpdpohnbnpelaaDoorChecked
import GoSem.PinnedTables
import GoSem.Claim
import GoSem.ClaimJoined
import GoSem.ClaimMapViews
import Derived.JoinedTies
import Derived.KernelRfl
namespace Go.Proofs.YtkpdpohnbnpelaaDoor
/- THE CELL 'sum', in the pinned program and in every row, IS THE sha256 OF THE DUMP (.gsa) THAT YtkpdpohnbnpelaaDoorProg.lean LOADS. Nothing in Lean hashes anything: it is a label: what it is worth is what the hold of that sum in a sandbox is worth. -/
noncomputable def Tryd.pinned : Pinned := { name := "ytkpdpohnbnpelaadoor", sum := "24b44d0a2f50c83b48486334a8db6ca0ef585598d2d83eb503ff83159354baee", checked := Tryd.checked }
namespace Rows
def none {H : Type} : Left H := { results := [], args := [] }

/- WHAT THE LISTED PACKAGE-LEVEL VARIABLES READ AS WHEN THE CALL BEGINS. Each datum BY PROGRAM (the guide's laid-datum.mjs) off the statement by which the dump's own 'gosem.cut.vars' lays the variable. In a bare row this is a premise. The card (YtkpdpohnbnpelaaDoorCards.lean) ties it to the program's text. -/
def laid_math_bits_deBruijn32tab {H : Type} : DataW H := .agg [.lit (.int .u8 0), .lit (.int .u8 1), .lit (.int .u8 28), .lit (.int .u8 2), .lit (.int .u8 29), .lit (.int .u8 14), .lit (.int .u8 24), .lit (.int .u8 3), .lit (.int .u8 30), .lit (.int .u8 22), .lit (.int .u8 20), .lit (.int .u8 15), .lit (.int .u8 25), .lit (.int .u8 17), .lit (.int .u8 4), .lit (.int .u8 8), .lit (.int .u8 31), .lit (.int .u8 27), .lit (.int .u8 13), .lit (.int .u8 23), .lit (.int .u8 21), .lit (.int .u8 19), .lit (.int .u8 16), .lit (.int .u8 7), .lit (.int .u8 26), .lit (.int .u8 12), .lit (.int .u8 18), .lit (.int .u8 6), .lit (.int .u8 11), .lit (.int .u8 5), .lit (.int .u8 10), .lit (.int .u8 9)]
def laid_math_bits_deBruijn64tab {H : Type} : DataW H := .agg [.lit (.int .u8 0), .lit (.int .u8 1), .lit (.int .u8 56), .lit (.int .u8 2), .lit (.int .u8 57), .lit (.int .u8 49), .lit (.int .u8 28), .lit (.int .u8 3), .lit (.int .u8 61), .lit (.int .u8 58), .lit (.int .u8 42), .lit (.int .u8 50), .lit (.int .u8 38), .lit (.int .u8 29), .lit (.int .u8 17), .lit (.int .u8 4), .lit (.int .u8 62), .lit (.int .u8 47), .lit (.int .u8 59), .lit (.int .u8 36), .lit (.int .u8 45), .lit (.int .u8 43), .lit (.int .u8 51), .lit (.int .u8 22), .lit (.int .u8 53), .lit (.int .u8 39), .lit (.int .u8 33), .lit (.int .u8 30), .lit (.int .u8 24), .lit (.int .u8 18), .lit (.int .u8 12), .lit (.int .u8 5), .lit (.int .u8 63), .lit (.int .u8 55), .lit (.int .u8 48), .lit (.int .u8 27), .lit (.int .u8 60), .lit (.int .u8 41), .lit (.int .u8 37), .lit (.int .u8 16), .lit (.int .u8 46), .lit (.int .u8 35), .lit (.int .u8 44), .lit (.int .u8 21), .lit (.int .u8 52), .lit (.int .u8 32), .lit (.int .u8 23), .lit (.int .u8 11), .lit (.int .u8 54), .lit (.int .u8 26), .lit (.int .u8 40), .lit (.int .u8 15), .lit (.int .u8 34), .lit (.int .u8 20), .lit (.int .u8 31), .lit (.int .u8 10), .lit (.int .u8 25), .lit (.int .u8 14), .lit (.int .u8 19), .lit (.int .u8 9), .lit (.int .u8 13), .lit (.int .u8 8), .lit (.int .u8 7), .lit (.int .u8 6)]
def laid_internal_strconv_uint64pow10 {H : Type} : DataW H := .agg [.lit (.int .u64 1), .lit (.int .u64 10), .lit (.int .u64 100), .lit (.int .u64 1000), .lit (.int .u64 10000), .lit (.int .u64 100000), .lit (.int .u64 1000000), .lit (.int .u64 10000000), .lit (.int .u64 100000000), .lit (.int .u64 1000000000), .lit (.int .u64 10000000000), .lit (.int .u64 100000000000), .lit (.int .u64 1000000000000), .lit (.int .u64 10000000000000), .lit (.int .u64 100000000000000), .lit (.int .u64 1000000000000000), .lit (.int .u64 10000000000000000), .lit (.int .u64 100000000000000000), .lit (.int .u64 1000000000000000000), .lit (.int .u64 10000000000000000000)]
def laid_unicode_utf8_acceptRanges {H : Type} : DataW H := .agg [.agg [.lit (.int .u8 128), .lit (.int .u8 191)], .agg [.lit (.int .u8 160), .lit (.int .u8 191)], .agg [.lit (.int .u8 128), .lit (.int .u8 159)], .agg [.lit (.int .u8 144), .lit (.int .u8 191)], .agg [.lit (.int .u8 128), .lit (.int .u8 143)], .agg [.lit (.int .u8 0), .lit (.int .u8 0)], .agg [.lit (.int .u8 0), .lit (.int .u8 0)], .agg [.lit (.int .u8 0), .lit (.int .u8 0)], .agg [.lit (.int .u8 0), .lit (.int .u8 0)], .agg [.lit (.int .u8 0), .lit (.int .u8 0)], .agg [.lit (.int .u8 0), .lit (.int .u8 0)], .agg [.lit (.int .u8 0), .lit (.int .u8 0)], .agg [.lit (.int .u8 0), .lit (.int .u8 0)], .agg [.lit (.int .u8 0), .lit (.int .u8 0)], .agg [.lit (.int .u8 0), .lit (.int .u8 0)], .agg [.lit (.int .u8 0), .lit (.int .u8 0)]]
/-- One of Go's own tables, pinned by name: the form's constant. -/
def laid_unicode_utf8_first : DataW Unit := Go.Pinned.utf8First

/-- 'laws.FnExactParseSpec': WHATEVER THE INPUT: true; the input reads as it did. -/
def fnExactParseSpecSpec : ChangeSpec := { name := "fnExactParseSpec", fn := fun _ => fun
  | [d] => { results := [.lit (.bool true)], args := [d] }
  | _ => none }
def fnExactParseSpecRow : OpenClaim := { program := "ytkpdpohnbnpelaadoor", sum := "24b44d0a2f50c83b48486334a8db6ca0ef585598d2d83eb503ff83159354baee", func := "loop.example/formatplans/laws.FnExactParseSpec", spec := "fnExactParseSpec", inPlace := ["internal/bytealg.IndexByteString", "internal/bytealg.IndexString"], recurses := true, named := ["internal/bytealg.MaxLen", "internal/strconv.uint64pow10", "math/bits.deBruijn32tab", "math/bits.deBruijn64tab"], apart := false, laid := [("math/bits.deBruijn32tab", laid_math_bits_deBruijn32tab), ("math/bits.deBruijn64tab", laid_math_bits_deBruijn64tab), ("internal/strconv.uint64pow10", laid_internal_strconv_uint64pow10)] }
def FnExactParseSpecSaid : Prop := fnExactParseSpecRow.holds Tryd.pinned (OpenSpec.ofChange fnExactParseSpecSpec)

/-- ITS FALSE NEIGHBOUR: 'it returns false'. Refute it at one input. -/
def fnExactParseSpecWrong : ChangeSpec := { name := "fnExactParseSpec", fn := fun _ => fun
  | [d] => { results := [.lit (.bool false)], args := [d] }
  | _ => none }
def FnExactParseSpecWrongFalsely : Prop := fnExactParseSpecRow.holds Tryd.pinned (OpenSpec.ofChange fnExactParseSpecWrong)

/-- 'laws.FnExactDigitsIn': WHATEVER THE INPUT: true; the input reads as it did. -/
def fnExactDigitsInSpec : ChangeSpec := { name := "fnExactDigitsIn", fn := fun _ => fun
  | [d1, d2] => { results := [.lit (.bool true)], args := [d1, d2] }
  | _ => none }
def fnExactDigitsInRow : OpenClaim := { program := "ytkpdpohnbnpelaadoor", sum := "24b44d0a2f50c83b48486334a8db6ca0ef585598d2d83eb503ff83159354baee", func := "loop.example/formatplans/laws.FnExactDigitsIn", spec := "fnExactDigitsIn", recurses := true, named := ["internal/strconv.uint64pow10", "math/bits.deBruijn32tab", "math/bits.deBruijn64tab"], apart := false, laid := [("math/bits.deBruijn32tab", laid_math_bits_deBruijn32tab), ("math/bits.deBruijn64tab", laid_math_bits_deBruijn64tab), ("internal/strconv.uint64pow10", laid_internal_strconv_uint64pow10)] }
def FnExactDigitsInSaid : Prop := fnExactDigitsInRow.holds Tryd.pinned (OpenSpec.ofChange fnExactDigitsInSpec)

/-- ITS FALSE NEIGHBOUR: 'it returns false'. Refute it at one input. -/
def fnExactDigitsInWrong : ChangeSpec := { name := "fnExactDigitsIn", fn := fun _ => fun
  | [d1, d2] => { results := [.lit (.bool false)], args := [d1, d2] }
  | _ => none }
def FnExactDigitsInWrongFalsely : Prop := fnExactDigitsInRow.holds Tryd.pinned (OpenSpec.ofChange fnExactDigitsInWrong)

/-- 'laws.FnExactUngroupDigits': WHATEVER THE INPUT: true; the input reads as it did. -/
def fnExactUngroupDigitsSpec : ChangeSpec := { name := "fnExactUngroupDigits", fn := fun _ => fun
  | [d1, d2, d3] => { results := [.lit (.bool true)], args := [d1, d2, d3] }
  | _ => none }
def fnExactUngroupDigitsRow : OpenClaim := { program := "ytkpdpohnbnpelaadoor", sum := "24b44d0a2f50c83b48486334a8db6ca0ef585598d2d83eb503ff83159354baee", func := "loop.example/formatplans/laws.FnExactUngroupDigits", spec := "fnExactUngroupDigits", inPlace := ["internal/bytealg.CountString", "internal/bytealg.IndexByteString", "internal/bytealg.IndexString", "internal/abi.NoEscape", "internal/bytealg.MakeNoZero"], named := ["internal/bytealg.MaxLen", "unicode/utf8.first", "unicode/utf8.acceptRanges"], apart := false, laid := [("unicode/utf8.acceptRanges", laid_unicode_utf8_acceptRanges), ("unicode/utf8.first", laid_unicode_utf8_first)] }
def FnExactUngroupDigitsSaid : Prop := fnExactUngroupDigitsRow.holds Tryd.pinned (OpenSpec.ofChange fnExactUngroupDigitsSpec)

/-- ITS FALSE NEIGHBOUR: 'it returns false'. Refute it at one input. -/
def fnExactUngroupDigitsWrong : ChangeSpec := { name := "fnExactUngroupDigits", fn := fun _ => fun
  | [d1, d2, d3] => { results := [.lit (.bool false)], args := [d1, d2, d3] }
  | _ => none }
def FnExactUngroupDigitsWrongFalsely : Prop := fnExactUngroupDigitsRow.holds Tryd.pinned (OpenSpec.ofChange fnExactUngroupDigitsWrong)

/-- 'laws.FnExactReadWhole': WHATEVER THE INPUT: true; the input reads as it did. -/
def fnExactReadWholeSpec : ChangeSpec := { name := "fnExactReadWhole", fn := fun _ => fun
  | [d1, d2] => { results := [.lit (.bool true)], args := [d1, d2] }
  | _ => none }
def fnExactReadWholeRow : OpenClaim := { program := "ytkpdpohnbnpelaadoor", sum := "24b44d0a2f50c83b48486334a8db6ca0ef585598d2d83eb503ff83159354baee", func := "loop.example/formatplans/laws.FnExactReadWhole", spec := "fnExactReadWhole", inPlace := ["internal/bytealg.IndexByteString", "internal/bytealg.IndexString", "internal/bytealg.CountString", "internal/abi.NoEscape", "internal/bytealg.MakeNoZero"], named := ["internal/bytealg.MaxLen", "unicode/utf8.first", "unicode/utf8.acceptRanges"], apart := false, laid := [("unicode/utf8.acceptRanges", laid_unicode_utf8_acceptRanges), ("unicode/utf8.first", laid_unicode_utf8_first)] }
def FnExactReadWholeSaid : Prop := fnExactReadWholeRow.holds Tryd.pinned (OpenSpec.ofChange fnExactReadWholeSpec)

/-- ITS FALSE NEIGHBOUR: 'it returns false'. Refute it at one input. -/
def fnExactReadWholeWrong : ChangeSpec := { name := "fnExactReadWhole", fn := fun _ => fun
  | [d1, d2] => { results := [.lit (.bool false)], args := [d1, d2] }
  | _ => none }
def FnExactReadWholeWrongFalsely : Prop := fnExactReadWholeRow.holds Tryd.pinned (OpenSpec.ofChange fnExactReadWholeWrong)

/-- 'laws.FnDigitsIn': WHATEVER THE INPUT: true; the input reads as it did. -/
def fnDigitsInSpec : ChangeSpec := { name := "fnDigitsIn", fn := fun _ => fun
  | [d] => { results := [.lit (.bool true)], args := [d] }
  | _ => none }
def fnDigitsInRow : OpenClaim := { program := "ytkpdpohnbnpelaadoor", sum := "24b44d0a2f50c83b48486334a8db6ca0ef585598d2d83eb503ff83159354baee", func := "loop.example/formatplans/laws.FnDigitsIn", spec := "fnDigitsIn", recurses := true, named := ["internal/strconv.uint64pow10", "math/bits.deBruijn32tab", "math/bits.deBruijn64tab"], apart := false, laid := [("math/bits.deBruijn32tab", laid_math_bits_deBruijn32tab), ("math/bits.deBruijn64tab", laid_math_bits_deBruijn64tab), ("internal/strconv.uint64pow10", laid_internal_strconv_uint64pow10)] }
def FnDigitsInSaid : Prop := fnDigitsInRow.holds Tryd.pinned (OpenSpec.ofChange fnDigitsInSpec)

/-- ITS FALSE NEIGHBOUR: 'it returns false'. Refute it at one input. -/
def fnDigitsInWrong : ChangeSpec := { name := "fnDigitsIn", fn := fun _ => fun
  | [d] => { results := [.lit (.bool false)], args := [d] }
  | _ => none }
def FnDigitsInWrongFalsely : Prop := fnDigitsInRow.holds Tryd.pinned (OpenSpec.ofChange fnDigitsInWrong)

/-- 'laws.FnValueIn': WHATEVER THE INPUT: true; the input reads as it did. -/
def fnValueInSpec : ChangeSpec := { name := "fnValueIn", fn := fun _ => fun
  | [d] => { results := [.lit (.bool true)], args := [d] }
  | _ => none }
def fnValueInRow : OpenClaim := { program := "ytkpdpohnbnpelaadoor", sum := "24b44d0a2f50c83b48486334a8db6ca0ef585598d2d83eb503ff83159354baee", func := "loop.example/formatplans/laws.FnValueIn", spec := "fnValueIn", recurses := true, named := ["internal/strconv.uint64pow10", "math/bits.deBruijn32tab", "math/bits.deBruijn64tab"], apart := false, laid := [("math/bits.deBruijn32tab", laid_math_bits_deBruijn32tab), ("math/bits.deBruijn64tab", laid_math_bits_deBruijn64tab), ("internal/strconv.uint64pow10", laid_internal_strconv_uint64pow10)] }
def FnValueInSaid : Prop := fnValueInRow.holds Tryd.pinned (OpenSpec.ofChange fnValueInSpec)

/-- ITS FALSE NEIGHBOUR: 'it returns false'. Refute it at one input. -/
def fnValueInWrong : ChangeSpec := { name := "fnValueIn", fn := fun _ => fun
  | [d] => { results := [.lit (.bool false)], args := [d] }
  | _ => none }
def FnValueInWrongFalsely : Prop := fnValueInRow.holds Tryd.pinned (OpenSpec.ofChange fnValueInWrong)

/-- 'laws.FnGroupDigits': WHATEVER THE INPUT: true; the input reads as it did. -/
def fnGroupDigitsSpec : ChangeSpec := { name := "fnGroupDigits", fn := fun _ => fun
  | [d] => { results := [.lit (.bool true)], args := [d] }
  | _ => none }
def fnGroupDigitsRow : OpenClaim := { program := "ytkpdpohnbnpelaadoor", sum := "24b44d0a2f50c83b48486334a8db6ca0ef585598d2d83eb503ff83159354baee", func := "loop.example/formatplans/laws.FnGroupDigits", spec := "fnGroupDigits", inPlace := ["internal/bytealg.MakeNoZero", "internal/bytealg.CountString", "internal/bytealg.IndexByteString", "internal/bytealg.IndexString", "internal/abi.NoEscape"], named := ["internal/bytealg.MaxLen", "unicode/utf8.first", "unicode/utf8.acceptRanges"], apart := false, laid := [("unicode/utf8.acceptRanges", laid_unicode_utf8_acceptRanges), ("unicode/utf8.first", laid_unicode_utf8_first)] }
def FnGroupDigitsSaid : Prop := fnGroupDigitsRow.holds Tryd.pinned (OpenSpec.ofChange fnGroupDigitsSpec)

/-- ITS FALSE NEIGHBOUR: 'it returns false'. Refute it at one input. -/
def fnGroupDigitsWrong : ChangeSpec := { name := "fnGroupDigits", fn := fun _ => fun
  | [d] => { results := [.lit (.bool false)], args := [d] }
  | _ => none }
def FnGroupDigitsWrongFalsely : Prop := fnGroupDigitsRow.holds Tryd.pinned (OpenSpec.ofChange fnGroupDigitsWrong)

/-- 'laws.FnUngroupDigits': WHATEVER THE INPUT: true; the input reads as it did. -/
def fnUngroupDigitsSpec : ChangeSpec := { name := "fnUngroupDigits", fn := fun _ => fun
  | [d] => { results := [.lit (.bool true)], args := [d] }
  | _ => none }
def fnUngroupDigitsRow : OpenClaim := { program := "ytkpdpohnbnpelaadoor", sum := "24b44d0a2f50c83b48486334a8db6ca0ef585598d2d83eb503ff83159354baee", func := "loop.example/formatplans/laws.FnUngroupDigits", spec := "fnUngroupDigits", inPlace := ["internal/bytealg.CountString", "internal/bytealg.IndexByteString", "internal/bytealg.IndexString", "internal/abi.NoEscape", "internal/bytealg.MakeNoZero"], named := ["internal/bytealg.MaxLen", "unicode/utf8.first", "unicode/utf8.acceptRanges"], apart := false, laid := [("unicode/utf8.acceptRanges", laid_unicode_utf8_acceptRanges), ("unicode/utf8.first", laid_unicode_utf8_first)] }
def FnUngroupDigitsSaid : Prop := fnUngroupDigitsRow.holds Tryd.pinned (OpenSpec.ofChange fnUngroupDigitsSpec)

/-- ITS FALSE NEIGHBOUR: 'it returns false'. Refute it at one input. -/
def fnUngroupDigitsWrong : ChangeSpec := { name := "fnUngroupDigits", fn := fun _ => fun
  | [d] => { results := [.lit (.bool false)], args := [d] }
  | _ => none }
def FnUngroupDigitsWrongFalsely : Prop := fnUngroupDigitsRow.holds Tryd.pinned (OpenSpec.ofChange fnUngroupDigitsWrong)

/- THE SECOND FORM. 'bulk': how many values and letters a reading holds, each counted each time it is reached (what is shared counts as often as it is met; a slice's spare places count too). A statement '..UptoSaid' is the law's where the arguments, and the package variables that the reading takes, are together of bulk at most 1048576: NARROWER than '..Said'. Prove '..Said' where nothing that the law and all that it calls make is longer than what came in: it says more and counts as full. Else prove '..UptoSaid'. A law counts once. -/
mutual
def uptoBulk {H : Type} : DataW H → Nat
  | .lit (.string bytes) => bytes.length + 1
  | .lit _ => 1
  | .nil => 1
  | .ptr d => uptoBulk d + 1
  | .slice elems spare => uptoBulkAll elems + uptoBulkAll spare + 1
  | .agg parts => uptoBulkAll parts + 1
  | .iface _ d => uptoBulk d + 1
  | .map entries => uptoBulkEntries entries + 1
  | .held _ => 1
def uptoBulkAll {H : Type} : List (DataW H) → Nat
  | [] => 0
  | d :: r => uptoBulk d + uptoBulkAll r
def uptoBulkEntries {H : Type} : List (Lit × DataW H) → Nat
  | [] => 0
  | x :: r => uptoBulkEntry x + uptoBulkEntries r
def uptoBulkEntry {H : Type} : Lit × DataW H → Nat
  | (.string bytes, d) => bytes.length + uptoBulk d + 1
  | (_, d) => uptoBulk d + 1
 end
def uptoSmall : (H : Type) → List (DataW H) → Bool := fun _ ds => decide (uptoBulkAll ds ≤ 1048576)
def OpenSpec.upto (s : _root_.Go.ChangeSpec) : _root_.Go.OpenSpec := { _root_.Go.OpenSpec.ofChange s with cond := some uptoSmall }

/-- 'laws.FnExactParseSpec', WHERE WHAT IT READS IS OF BULK AT MOST 1048576: true; the input reads as it did. -/
def fnExactParseSpecUptoRow : OpenClaim := { program := "ytkpdpohnbnpelaadoor", sum := "24b44d0a2f50c83b48486334a8db6ca0ef585598d2d83eb503ff83159354baee", func := "loop.example/formatplans/laws.FnExactParseSpec", spec := "fnExactParseSpec", inPlace := ["internal/bytealg.IndexByteString", "internal/bytealg.IndexString"], recurses := true, named := ["internal/bytealg.MaxLen", "internal/strconv.uint64pow10", "math/bits.deBruijn32tab", "math/bits.deBruijn64tab"], apart := false, laid := [("math/bits.deBruijn32tab", laid_math_bits_deBruijn32tab), ("math/bits.deBruijn64tab", laid_math_bits_deBruijn64tab), ("internal/strconv.uint64pow10", laid_internal_strconv_uint64pow10)], narrowed := true }
def FnExactParseSpecUptoSaid : Prop := fnExactParseSpecUptoRow.holds Tryd.pinned (OpenSpec.upto fnExactParseSpecSpec)

/-- 'laws.FnExactDigitsIn', WHERE WHAT IT READS IS OF BULK AT MOST 1048576: true; the input reads as it did. -/
def fnExactDigitsInUptoRow : OpenClaim := { program := "ytkpdpohnbnpelaadoor", sum := "24b44d0a2f50c83b48486334a8db6ca0ef585598d2d83eb503ff83159354baee", func := "loop.example/formatplans/laws.FnExactDigitsIn", spec := "fnExactDigitsIn", recurses := true, named := ["internal/strconv.uint64pow10", "math/bits.deBruijn32tab", "math/bits.deBruijn64tab"], apart := false, laid := [("math/bits.deBruijn32tab", laid_math_bits_deBruijn32tab), ("math/bits.deBruijn64tab", laid_math_bits_deBruijn64tab), ("internal/strconv.uint64pow10", laid_internal_strconv_uint64pow10)], narrowed := true }
def FnExactDigitsInUptoSaid : Prop := fnExactDigitsInUptoRow.holds Tryd.pinned (OpenSpec.upto fnExactDigitsInSpec)

/-- 'laws.FnExactUngroupDigits', WHERE WHAT IT READS IS OF BULK AT MOST 1048576: true; the input reads as it did. -/
def fnExactUngroupDigitsUptoRow : OpenClaim := { program := "ytkpdpohnbnpelaadoor", sum := "24b44d0a2f50c83b48486334a8db6ca0ef585598d2d83eb503ff83159354baee", func := "loop.example/formatplans/laws.FnExactUngroupDigits", spec := "fnExactUngroupDigits", inPlace := ["internal/bytealg.CountString", "internal/bytealg.IndexByteString", "internal/bytealg.IndexString", "internal/abi.NoEscape", "internal/bytealg.MakeNoZero"], named := ["internal/bytealg.MaxLen", "unicode/utf8.first", "unicode/utf8.acceptRanges"], apart := false, laid := [("unicode/utf8.acceptRanges", laid_unicode_utf8_acceptRanges), ("unicode/utf8.first", laid_unicode_utf8_first)], narrowed := true }
def FnExactUngroupDigitsUptoSaid : Prop := fnExactUngroupDigitsUptoRow.holds Tryd.pinned (OpenSpec.upto fnExactUngroupDigitsSpec)

/-- 'laws.FnExactReadWhole', WHERE WHAT IT READS IS OF BULK AT MOST 1048576: true; the input reads as it did. -/
def fnExactReadWholeUptoRow : OpenClaim := { program := "ytkpdpohnbnpelaadoor", sum := "24b44d0a2f50c83b48486334a8db6ca0ef585598d2d83eb503ff83159354baee", func := "loop.example/formatplans/laws.FnExactReadWhole", spec := "fnExactReadWhole", inPlace := ["internal/bytealg.IndexByteString", "internal/bytealg.IndexString", "internal/bytealg.CountString", "internal/abi.NoEscape", "internal/bytealg.MakeNoZero"], named := ["internal/bytealg.MaxLen", "unicode/utf8.first", "unicode/utf8.acceptRanges"], apart := false, laid := [("unicode/utf8.acceptRanges", laid_unicode_utf8_acceptRanges), ("unicode/utf8.first", laid_unicode_utf8_first)], narrowed := true }
def FnExactReadWholeUptoSaid : Prop := fnExactReadWholeUptoRow.holds Tryd.pinned (OpenSpec.upto fnExactReadWholeSpec)

/-- 'laws.FnDigitsIn', WHERE WHAT IT READS IS OF BULK AT MOST 1048576: true; the input reads as it did. -/
def fnDigitsInUptoRow : OpenClaim := { program := "ytkpdpohnbnpelaadoor", sum := "24b44d0a2f50c83b48486334a8db6ca0ef585598d2d83eb503ff83159354baee", func := "loop.example/formatplans/laws.FnDigitsIn", spec := "fnDigitsIn", recurses := true, named := ["internal/strconv.uint64pow10", "math/bits.deBruijn32tab", "math/bits.deBruijn64tab"], apart := false, laid := [("math/bits.deBruijn32tab", laid_math_bits_deBruijn32tab), ("math/bits.deBruijn64tab", laid_math_bits_deBruijn64tab), ("internal/strconv.uint64pow10", laid_internal_strconv_uint64pow10)], narrowed := true }
def FnDigitsInUptoSaid : Prop := fnDigitsInUptoRow.holds Tryd.pinned (OpenSpec.upto fnDigitsInSpec)

/-- 'laws.FnValueIn', WHERE WHAT IT READS IS OF BULK AT MOST 1048576: true; the input reads as it did. -/
def fnValueInUptoRow : OpenClaim := { program := "ytkpdpohnbnpelaadoor", sum := "24b44d0a2f50c83b48486334a8db6ca0ef585598d2d83eb503ff83159354baee", func := "loop.example/formatplans/laws.FnValueIn", spec := "fnValueIn", recurses := true, named := ["internal/strconv.uint64pow10", "math/bits.deBruijn32tab", "math/bits.deBruijn64tab"], apart := false, laid := [("math/bits.deBruijn32tab", laid_math_bits_deBruijn32tab), ("math/bits.deBruijn64tab", laid_math_bits_deBruijn64tab), ("internal/strconv.uint64pow10", laid_internal_strconv_uint64pow10)], narrowed := true }
def FnValueInUptoSaid : Prop := fnValueInUptoRow.holds Tryd.pinned (OpenSpec.upto fnValueInSpec)

/-- 'laws.FnGroupDigits', WHERE WHAT IT READS IS OF BULK AT MOST 1048576: true; the input reads as it did. -/
def fnGroupDigitsUptoRow : OpenClaim := { program := "ytkpdpohnbnpelaadoor", sum := "24b44d0a2f50c83b48486334a8db6ca0ef585598d2d83eb503ff83159354baee", func := "loop.example/formatplans/laws.FnGroupDigits", spec := "fnGroupDigits", inPlace := ["internal/bytealg.MakeNoZero", "internal/bytealg.CountString", "internal/bytealg.IndexByteString", "internal/bytealg.IndexString", "internal/abi.NoEscape"], named := ["internal/bytealg.MaxLen", "unicode/utf8.first", "unicode/utf8.acceptRanges"], apart := false, laid := [("unicode/utf8.acceptRanges", laid_unicode_utf8_acceptRanges), ("unicode/utf8.first", laid_unicode_utf8_first)], narrowed := true }
def FnGroupDigitsUptoSaid : Prop := fnGroupDigitsUptoRow.holds Tryd.pinned (OpenSpec.upto fnGroupDigitsSpec)

/-- 'laws.FnUngroupDigits', WHERE WHAT IT READS IS OF BULK AT MOST 1048576: true; the input reads as it did. -/
def fnUngroupDigitsUptoRow : OpenClaim := { program := "ytkpdpohnbnpelaadoor", sum := "24b44d0a2f50c83b48486334a8db6ca0ef585598d2d83eb503ff83159354baee", func := "loop.example/formatplans/laws.FnUngroupDigits", spec := "fnUngroupDigits", inPlace := ["internal/bytealg.CountString", "internal/bytealg.IndexByteString", "internal/bytealg.IndexString", "internal/abi.NoEscape", "internal/bytealg.MakeNoZero"], named := ["internal/bytealg.MaxLen", "unicode/utf8.first", "unicode/utf8.acceptRanges"], apart := false, laid := [("unicode/utf8.acceptRanges", laid_unicode_utf8_acceptRanges), ("unicode/utf8.first", laid_unicode_utf8_first)], narrowed := true }
def FnUngroupDigitsUptoSaid : Prop := fnUngroupDigitsUptoRow.holds Tryd.pinned (OpenSpec.upto fnUngroupDigitsSpec)

end Rows
end Go.Proofs.YtkpdpohnbnpelaaDoor
