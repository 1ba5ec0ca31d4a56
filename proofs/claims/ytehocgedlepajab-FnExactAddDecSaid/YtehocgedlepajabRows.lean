/-
  No cell of these rows narrows 'for every input' (looked for: loops, veiled, ifaces, maps, wideKeys, modest, calm, conditions, laid).
  DERIVED. THE GIVEN ROWS OF THIS SEAT. 13 by the template 'for every input the law returns true; each argument reads behind the call as it read before'; 0 by the template 'total and deterministic' (their statements: YtehocgedlepajabTotals.lean).
  GIVEN WITH THE SEED: the statements are not yours to turn. If you find one false, say at which input.
  Laid BY PROGRAM, IN A SANDBOX (cutbox-rows.mjs): the forced cells as the released guide's own fill.sh prints them over the translation 3cecac99ff4b9d42… (all of the seat's roots in one cut). By AI agents, Wed Nov 11 2026. No macro, syntax, notation, axiom, sorry.
-/
import Derived.Test.YtehocgedlepajabChecked
import GoSem.Claim
import GoSem.ClaimJoined
import GoSem.ClaimMapViews
import Derived.JoinedTies
import Derived.KernelRfl
namespace Go.Proofs.Ytehocgedlepajab
/- THE CELL 'sum', in the pinned program and in every row, IS THE sha256 OF THE DUMP (.gsa) THAT YtehocgedlepajabProg.lean LOADS. Nothing in Lean hashes anything: it is a label: what it is worth is what the hold of that sum in a sandbox is worth. -/
noncomputable def Try.pinned : Pinned := { name := "ytehocgedlepajab", sum := "3cecac99ff4b9d42da5f83f2c1bc51d0c7f8cbce337b6deacbd239af118aa5e9", checked := Try.checked }
namespace Rows
def none {H : Type} : Left H := { results := [], args := [] }

/-- 'laws.FnExactValidDec': WHATEVER THE INPUT: true; the input reads as it did. -/
def fnExactValidDecSpec : ChangeSpec := { name := "fnExactValidDec", fn := fun _ => fun
  | [d] => { results := [.lit (.bool true)], args := [d] }
  | _ => none }
def fnExactValidDecRow : OpenClaim := { program := "ytehocgedlepajab", sum := "3cecac99ff4b9d42da5f83f2c1bc51d0c7f8cbce337b6deacbd239af118aa5e9", func := "loop.example/formatplans/laws.FnExactValidDec", spec := "fnExactValidDec", apart := false }
def FnExactValidDecSaid : Prop := fnExactValidDecRow.holds Try.pinned (OpenSpec.ofChange fnExactValidDecSpec)

/-- ITS FALSE NEIGHBOUR: 'it returns false'. Refute it at one input. -/
def fnExactValidDecWrong : ChangeSpec := { name := "fnExactValidDec", fn := fun _ => fun
  | [d] => { results := [.lit (.bool false)], args := [d] }
  | _ => none }
def FnExactValidDecWrongFalsely : Prop := fnExactValidDecRow.holds Try.pinned (OpenSpec.ofChange fnExactValidDecWrong)

/-- 'laws.FnExactNormalDec': WHATEVER THE INPUT: true; the input reads as it did. -/
def fnExactNormalDecSpec : ChangeSpec := { name := "fnExactNormalDec", fn := fun _ => fun
  | [d] => { results := [.lit (.bool true)], args := [d] }
  | _ => none }
def fnExactNormalDecRow : OpenClaim := { program := "ytehocgedlepajab", sum := "3cecac99ff4b9d42da5f83f2c1bc51d0c7f8cbce337b6deacbd239af118aa5e9", func := "loop.example/formatplans/laws.FnExactNormalDec", spec := "fnExactNormalDec", apart := false }
def FnExactNormalDecSaid : Prop := fnExactNormalDecRow.holds Try.pinned (OpenSpec.ofChange fnExactNormalDecSpec)

/-- ITS FALSE NEIGHBOUR: 'it returns false'. Refute it at one input. -/
def fnExactNormalDecWrong : ChangeSpec := { name := "fnExactNormalDec", fn := fun _ => fun
  | [d] => { results := [.lit (.bool false)], args := [d] }
  | _ => none }
def FnExactNormalDecWrongFalsely : Prop := fnExactNormalDecRow.holds Try.pinned (OpenSpec.ofChange fnExactNormalDecWrong)

/-- 'laws.FnExactCompareDec': WHATEVER THE INPUT: true; the input reads as it did. -/
def fnExactCompareDecSpec : ChangeSpec := { name := "fnExactCompareDec", fn := fun _ => fun
  | [d1, d2] => { results := [.lit (.bool true)], args := [d1, d2] }
  | _ => none }
def fnExactCompareDecRow : OpenClaim := { program := "ytehocgedlepajab", sum := "3cecac99ff4b9d42da5f83f2c1bc51d0c7f8cbce337b6deacbd239af118aa5e9", func := "loop.example/formatplans/laws.FnExactCompareDec", spec := "fnExactCompareDec", apart := false }
def FnExactCompareDecSaid : Prop := fnExactCompareDecRow.holds Try.pinned (OpenSpec.ofChange fnExactCompareDecSpec)

/-- ITS FALSE NEIGHBOUR: 'it returns false'. Refute it at one input. -/
def fnExactCompareDecWrong : ChangeSpec := { name := "fnExactCompareDec", fn := fun _ => fun
  | [d1, d2] => { results := [.lit (.bool false)], args := [d1, d2] }
  | _ => none }
def FnExactCompareDecWrongFalsely : Prop := fnExactCompareDecRow.holds Try.pinned (OpenSpec.ofChange fnExactCompareDecWrong)

/-- 'laws.FnExactNegateDec': WHATEVER THE INPUT: true; the input reads as it did. -/
def fnExactNegateDecSpec : ChangeSpec := { name := "fnExactNegateDec", fn := fun _ => fun
  | [d] => { results := [.lit (.bool true)], args := [d] }
  | _ => none }
def fnExactNegateDecRow : OpenClaim := { program := "ytehocgedlepajab", sum := "3cecac99ff4b9d42da5f83f2c1bc51d0c7f8cbce337b6deacbd239af118aa5e9", func := "loop.example/formatplans/laws.FnExactNegateDec", spec := "fnExactNegateDec", apart := false }
def FnExactNegateDecSaid : Prop := fnExactNegateDecRow.holds Try.pinned (OpenSpec.ofChange fnExactNegateDecSpec)

/-- ITS FALSE NEIGHBOUR: 'it returns false'. Refute it at one input. -/
def fnExactNegateDecWrong : ChangeSpec := { name := "fnExactNegateDec", fn := fun _ => fun
  | [d] => { results := [.lit (.bool false)], args := [d] }
  | _ => none }
def FnExactNegateDecWrongFalsely : Prop := fnExactNegateDecRow.holds Try.pinned (OpenSpec.ofChange fnExactNegateDecWrong)

/-- 'laws.FnExactAddDec': WHATEVER THE INPUT: true; the input reads as it did. -/
def fnExactAddDecSpec : ChangeSpec := { name := "fnExactAddDec", fn := fun _ => fun
  | [d1, d2] => { results := [.lit (.bool true)], args := [d1, d2] }
  | _ => none }
def fnExactAddDecRow : OpenClaim := { program := "ytehocgedlepajab", sum := "3cecac99ff4b9d42da5f83f2c1bc51d0c7f8cbce337b6deacbd239af118aa5e9", func := "loop.example/formatplans/laws.FnExactAddDec", spec := "fnExactAddDec", apart := false }
def FnExactAddDecSaid : Prop := fnExactAddDecRow.holds Try.pinned (OpenSpec.ofChange fnExactAddDecSpec)

/-- ITS FALSE NEIGHBOUR: 'it returns false'. Refute it at one input. -/
def fnExactAddDecWrong : ChangeSpec := { name := "fnExactAddDec", fn := fun _ => fun
  | [d1, d2] => { results := [.lit (.bool false)], args := [d1, d2] }
  | _ => none }
def FnExactAddDecWrongFalsely : Prop := fnExactAddDecRow.holds Try.pinned (OpenSpec.ofChange fnExactAddDecWrong)

/-- 'laws.FnExactShiftDec': WHATEVER THE INPUT: true; the input reads as it did. -/
def fnExactShiftDecSpec : ChangeSpec := { name := "fnExactShiftDec", fn := fun _ => fun
  | [d1, d2] => { results := [.lit (.bool true)], args := [d1, d2] }
  | _ => none }
def fnExactShiftDecRow : OpenClaim := { program := "ytehocgedlepajab", sum := "3cecac99ff4b9d42da5f83f2c1bc51d0c7f8cbce337b6deacbd239af118aa5e9", func := "loop.example/formatplans/laws.FnExactShiftDec", spec := "fnExactShiftDec", apart := false }
def FnExactShiftDecSaid : Prop := fnExactShiftDecRow.holds Try.pinned (OpenSpec.ofChange fnExactShiftDecSpec)

/-- ITS FALSE NEIGHBOUR: 'it returns false'. Refute it at one input. -/
def fnExactShiftDecWrong : ChangeSpec := { name := "fnExactShiftDec", fn := fun _ => fun
  | [d1, d2] => { results := [.lit (.bool false)], args := [d1, d2] }
  | _ => none }
def FnExactShiftDecWrongFalsely : Prop := fnExactShiftDecRow.holds Try.pinned (OpenSpec.ofChange fnExactShiftDecWrong)

/-- 'laws.FnExactDigitsOf': WHATEVER THE INPUT: true; the input reads as it did. -/
def fnExactDigitsOfSpec : ChangeSpec := { name := "fnExactDigitsOf", fn := fun _ => fun
  | [d] => { results := [.lit (.bool true)], args := [d] }
  | _ => none }
def fnExactDigitsOfRow : OpenClaim := { program := "ytehocgedlepajab", sum := "3cecac99ff4b9d42da5f83f2c1bc51d0c7f8cbce337b6deacbd239af118aa5e9", func := "loop.example/formatplans/laws.FnExactDigitsOf", spec := "fnExactDigitsOf", apart := false }
def FnExactDigitsOfSaid : Prop := fnExactDigitsOfRow.holds Try.pinned (OpenSpec.ofChange fnExactDigitsOfSpec)

/-- ITS FALSE NEIGHBOUR: 'it returns false'. Refute it at one input. -/
def fnExactDigitsOfWrong : ChangeSpec := { name := "fnExactDigitsOf", fn := fun _ => fun
  | [d] => { results := [.lit (.bool false)], args := [d] }
  | _ => none }
def FnExactDigitsOfWrongFalsely : Prop := fnExactDigitsOfRow.holds Try.pinned (OpenSpec.ofChange fnExactDigitsOfWrong)

/-- 'laws.FnExactLeadOf': WHATEVER THE INPUT: true; the input reads as it did. -/
def fnExactLeadOfSpec : ChangeSpec := { name := "fnExactLeadOf", fn := fun _ => fun
  | [d] => { results := [.lit (.bool true)], args := [d] }
  | _ => none }
def fnExactLeadOfRow : OpenClaim := { program := "ytehocgedlepajab", sum := "3cecac99ff4b9d42da5f83f2c1bc51d0c7f8cbce337b6deacbd239af118aa5e9", func := "loop.example/formatplans/laws.FnExactLeadOf", spec := "fnExactLeadOf", apart := false }
def FnExactLeadOfSaid : Prop := fnExactLeadOfRow.holds Try.pinned (OpenSpec.ofChange fnExactLeadOfSpec)

/-- ITS FALSE NEIGHBOUR: 'it returns false'. Refute it at one input. -/
def fnExactLeadOfWrong : ChangeSpec := { name := "fnExactLeadOf", fn := fun _ => fun
  | [d] => { results := [.lit (.bool false)], args := [d] }
  | _ => none }
def FnExactLeadOfWrongFalsely : Prop := fnExactLeadOfRow.holds Try.pinned (OpenSpec.ofChange fnExactLeadOfWrong)

/-- 'laws.FnExactRoundDec': WHATEVER THE INPUT: true; the input reads as it did. -/
def fnExactRoundDecSpec : ChangeSpec := { name := "fnExactRoundDec", fn := fun _ => fun
  | [d1, d2] => { results := [.lit (.bool true)], args := [d1, d2] }
  | _ => none }
def fnExactRoundDecRow : OpenClaim := { program := "ytehocgedlepajab", sum := "3cecac99ff4b9d42da5f83f2c1bc51d0c7f8cbce337b6deacbd239af118aa5e9", func := "loop.example/formatplans/laws.FnExactRoundDec", spec := "fnExactRoundDec", apart := false }
def FnExactRoundDecSaid : Prop := fnExactRoundDecRow.holds Try.pinned (OpenSpec.ofChange fnExactRoundDecSpec)

/-- ITS FALSE NEIGHBOUR: 'it returns false'. Refute it at one input. -/
def fnExactRoundDecWrong : ChangeSpec := { name := "fnExactRoundDec", fn := fun _ => fun
  | [d1, d2] => { results := [.lit (.bool false)], args := [d1, d2] }
  | _ => none }
def FnExactRoundDecWrongFalsely : Prop := fnExactRoundDecRow.holds Try.pinned (OpenSpec.ofChange fnExactRoundDecWrong)

/-- 'laws.FnExactRoundDigits': WHATEVER THE INPUT: true; the input reads as it did. -/
def fnExactRoundDigitsSpec : ChangeSpec := { name := "fnExactRoundDigits", fn := fun _ => fun
  | [d1, d2] => { results := [.lit (.bool true)], args := [d1, d2] }
  | _ => none }
def fnExactRoundDigitsRow : OpenClaim := { program := "ytehocgedlepajab", sum := "3cecac99ff4b9d42da5f83f2c1bc51d0c7f8cbce337b6deacbd239af118aa5e9", func := "loop.example/formatplans/laws.FnExactRoundDigits", spec := "fnExactRoundDigits", apart := false }
def FnExactRoundDigitsSaid : Prop := fnExactRoundDigitsRow.holds Try.pinned (OpenSpec.ofChange fnExactRoundDigitsSpec)

/-- ITS FALSE NEIGHBOUR: 'it returns false'. Refute it at one input. -/
def fnExactRoundDigitsWrong : ChangeSpec := { name := "fnExactRoundDigits", fn := fun _ => fun
  | [d1, d2] => { results := [.lit (.bool false)], args := [d1, d2] }
  | _ => none }
def FnExactRoundDigitsWrongFalsely : Prop := fnExactRoundDigitsRow.holds Try.pinned (OpenSpec.ofChange fnExactRoundDigitsWrong)

/-- 'laws.FnExactIsWhole': WHATEVER THE INPUT: true; the input reads as it did. -/
def fnExactIsWholeSpec : ChangeSpec := { name := "fnExactIsWhole", fn := fun _ => fun
  | [d] => { results := [.lit (.bool true)], args := [d] }
  | _ => none }
def fnExactIsWholeRow : OpenClaim := { program := "ytehocgedlepajab", sum := "3cecac99ff4b9d42da5f83f2c1bc51d0c7f8cbce337b6deacbd239af118aa5e9", func := "loop.example/formatplans/laws.FnExactIsWhole", spec := "fnExactIsWhole", apart := false }
def FnExactIsWholeSaid : Prop := fnExactIsWholeRow.holds Try.pinned (OpenSpec.ofChange fnExactIsWholeSpec)

/-- ITS FALSE NEIGHBOUR: 'it returns false'. Refute it at one input. -/
def fnExactIsWholeWrong : ChangeSpec := { name := "fnExactIsWhole", fn := fun _ => fun
  | [d] => { results := [.lit (.bool false)], args := [d] }
  | _ => none }
def FnExactIsWholeWrongFalsely : Prop := fnExactIsWholeRow.holds Try.pinned (OpenSpec.ofChange fnExactIsWholeWrong)

/-- 'laws.FnExactPlacesOf': WHATEVER THE INPUT: true; the input reads as it did. -/
def fnExactPlacesOfSpec : ChangeSpec := { name := "fnExactPlacesOf", fn := fun _ => fun
  | [d] => { results := [.lit (.bool true)], args := [d] }
  | _ => none }
def fnExactPlacesOfRow : OpenClaim := { program := "ytehocgedlepajab", sum := "3cecac99ff4b9d42da5f83f2c1bc51d0c7f8cbce337b6deacbd239af118aa5e9", func := "loop.example/formatplans/laws.FnExactPlacesOf", spec := "fnExactPlacesOf", apart := false }
def FnExactPlacesOfSaid : Prop := fnExactPlacesOfRow.holds Try.pinned (OpenSpec.ofChange fnExactPlacesOfSpec)

/-- ITS FALSE NEIGHBOUR: 'it returns false'. Refute it at one input. -/
def fnExactPlacesOfWrong : ChangeSpec := { name := "fnExactPlacesOf", fn := fun _ => fun
  | [d] => { results := [.lit (.bool false)], args := [d] }
  | _ => none }
def FnExactPlacesOfWrongFalsely : Prop := fnExactPlacesOfRow.holds Try.pinned (OpenSpec.ofChange fnExactPlacesOfWrong)

/-- 'laws.FnAlignFor': WHATEVER THE INPUT: true; the input reads as it did. -/
def fnAlignForSpec : ChangeSpec := { name := "fnAlignFor", fn := fun _ => fun
  | [d] => { results := [.lit (.bool true)], args := [d] }
  | _ => none }
def fnAlignForRow : OpenClaim := { program := "ytehocgedlepajab", sum := "3cecac99ff4b9d42da5f83f2c1bc51d0c7f8cbce337b6deacbd239af118aa5e9", func := "loop.example/formatplans/laws.FnAlignFor", spec := "fnAlignFor", inPlace := ["internal/bytealg.IndexByteString", "internal/bytealg.IndexString"], named := ["internal/bytealg.MaxLen"], apart := false }
def FnAlignForSaid : Prop := fnAlignForRow.holds Try.pinned (OpenSpec.ofChange fnAlignForSpec)

/-- ITS FALSE NEIGHBOUR: 'it returns false'. Refute it at one input. -/
def fnAlignForWrong : ChangeSpec := { name := "fnAlignFor", fn := fun _ => fun
  | [d] => { results := [.lit (.bool false)], args := [d] }
  | _ => none }
def FnAlignForWrongFalsely : Prop := fnAlignForRow.holds Try.pinned (OpenSpec.ofChange fnAlignForWrong)

/- THE SECOND FORM. 'bulk': how many values and letters a reading holds, each counted each time it is reached (what is shared counts as often as it is met; a slice's spare places count too). A statement '..UptoSaid' is the law's where the arguments, and the package variables that the reading takes, are together of bulk at most 1048576: NARROWER than '..Said'. Prove '..Said' where nothing that the law and all that it calls make is longer than what came in: it says more and counts as full. Else prove '..UptoSaid'. A law counts once. -/
mutual
def uptoBulk {H : Type} : DataW H → Nat
  | .lit (.string bytes) => bytes.length + 1
  | .lit _ => 1
  | .nil => 1
  | .ptr d => uptoBulk d + 1
  | .slice elems spare => uptoBulkAll elems + uptoBulkAll spare + 1
  | .agg parts => uptoBulkAll parts + 1
  | .iface _ d => uptoBulk d + 1
  | .map entries => uptoBulkEntries entries + 1
  | .held _ => 1
def uptoBulkAll {H : Type} : List (DataW H) → Nat
  | [] => 0
  | d :: r => uptoBulk d + uptoBulkAll r
def uptoBulkEntries {H : Type} : List (Lit × DataW H) → Nat
  | [] => 0
  | x :: r => uptoBulkEntry x + uptoBulkEntries r
def uptoBulkEntry {H : Type} : Lit × DataW H → Nat
  | (.string bytes, d) => bytes.length + uptoBulk d + 1
  | (_, d) => uptoBulk d + 1
 end
def uptoSmall : (H : Type) → List (DataW H) → Bool := fun _ ds => decide (uptoBulkAll ds ≤ 1048576)
def OpenSpec.upto (s : _root_.Go.ChangeSpec) : _root_.Go.OpenSpec := { _root_.Go.OpenSpec.ofChange s with cond := some uptoSmall }

/-- 'laws.FnExactValidDec', WHERE WHAT IT READS IS OF BULK AT MOST 1048576: true; the input reads as it did. -/
def fnExactValidDecUptoRow : OpenClaim := { program := "ytehocgedlepajab", sum := "3cecac99ff4b9d42da5f83f2c1bc51d0c7f8cbce337b6deacbd239af118aa5e9", func := "loop.example/formatplans/laws.FnExactValidDec", spec := "fnExactValidDec", apart := false, narrowed := true }
def FnExactValidDecUptoSaid : Prop := fnExactValidDecUptoRow.holds Try.pinned (OpenSpec.upto fnExactValidDecSpec)

/-- 'laws.FnExactNormalDec', WHERE WHAT IT READS IS OF BULK AT MOST 1048576: true; the input reads as it did. -/
def fnExactNormalDecUptoRow : OpenClaim := { program := "ytehocgedlepajab", sum := "3cecac99ff4b9d42da5f83f2c1bc51d0c7f8cbce337b6deacbd239af118aa5e9", func := "loop.example/formatplans/laws.FnExactNormalDec", spec := "fnExactNormalDec", apart := false, narrowed := true }
def FnExactNormalDecUptoSaid : Prop := fnExactNormalDecUptoRow.holds Try.pinned (OpenSpec.upto fnExactNormalDecSpec)

/-- 'laws.FnExactCompareDec', WHERE WHAT IT READS IS OF BULK AT MOST 1048576: true; the input reads as it did. -/
def fnExactCompareDecUptoRow : OpenClaim := { program := "ytehocgedlepajab", sum := "3cecac99ff4b9d42da5f83f2c1bc51d0c7f8cbce337b6deacbd239af118aa5e9", func := "loop.example/formatplans/laws.FnExactCompareDec", spec := "fnExactCompareDec", apart := false, narrowed := true }
def FnExactCompareDecUptoSaid : Prop := fnExactCompareDecUptoRow.holds Try.pinned (OpenSpec.upto fnExactCompareDecSpec)

/-- 'laws.FnExactNegateDec', WHERE WHAT IT READS IS OF BULK AT MOST 1048576: true; the input reads as it did. -/
def fnExactNegateDecUptoRow : OpenClaim := { program := "ytehocgedlepajab", sum := "3cecac99ff4b9d42da5f83f2c1bc51d0c7f8cbce337b6deacbd239af118aa5e9", func := "loop.example/formatplans/laws.FnExactNegateDec", spec := "fnExactNegateDec", apart := false, narrowed := true }
def FnExactNegateDecUptoSaid : Prop := fnExactNegateDecUptoRow.holds Try.pinned (OpenSpec.upto fnExactNegateDecSpec)

/-- 'laws.FnExactAddDec', WHERE WHAT IT READS IS OF BULK AT MOST 1048576: true; the input reads as it did. -/
def fnExactAddDecUptoRow : OpenClaim := { program := "ytehocgedlepajab", sum := "3cecac99ff4b9d42da5f83f2c1bc51d0c7f8cbce337b6deacbd239af118aa5e9", func := "loop.example/formatplans/laws.FnExactAddDec", spec := "fnExactAddDec", apart := false, narrowed := true }
def FnExactAddDecUptoSaid : Prop := fnExactAddDecUptoRow.holds Try.pinned (OpenSpec.upto fnExactAddDecSpec)

/-- 'laws.FnExactShiftDec', WHERE WHAT IT READS IS OF BULK AT MOST 1048576: true; the input reads as it did. -/
def fnExactShiftDecUptoRow : OpenClaim := { program := "ytehocgedlepajab", sum := "3cecac99ff4b9d42da5f83f2c1bc51d0c7f8cbce337b6deacbd239af118aa5e9", func := "loop.example/formatplans/laws.FnExactShiftDec", spec := "fnExactShiftDec", apart := false, narrowed := true }
def FnExactShiftDecUptoSaid : Prop := fnExactShiftDecUptoRow.holds Try.pinned (OpenSpec.upto fnExactShiftDecSpec)

/-- 'laws.FnExactDigitsOf', WHERE WHAT IT READS IS OF BULK AT MOST 1048576: true; the input reads as it did. -/
def fnExactDigitsOfUptoRow : OpenClaim := { program := "ytehocgedlepajab", sum := "3cecac99ff4b9d42da5f83f2c1bc51d0c7f8cbce337b6deacbd239af118aa5e9", func := "loop.example/formatplans/laws.FnExactDigitsOf", spec := "fnExactDigitsOf", apart := false, narrowed := true }
def FnExactDigitsOfUptoSaid : Prop := fnExactDigitsOfUptoRow.holds Try.pinned (OpenSpec.upto fnExactDigitsOfSpec)

/-- 'laws.FnExactLeadOf', WHERE WHAT IT READS IS OF BULK AT MOST 1048576: true; the input reads as it did. -/
def fnExactLeadOfUptoRow : OpenClaim := { program := "ytehocgedlepajab", sum := "3cecac99ff4b9d42da5f83f2c1bc51d0c7f8cbce337b6deacbd239af118aa5e9", func := "loop.example/formatplans/laws.FnExactLeadOf", spec := "fnExactLeadOf", apart := false, narrowed := true }
def FnExactLeadOfUptoSaid : Prop := fnExactLeadOfUptoRow.holds Try.pinned (OpenSpec.upto fnExactLeadOfSpec)

/-- 'laws.FnExactRoundDec', WHERE WHAT IT READS IS OF BULK AT MOST 1048576: true; the input reads as it did. -/
def fnExactRoundDecUptoRow : OpenClaim := { program := "ytehocgedlepajab", sum := "3cecac99ff4b9d42da5f83f2c1bc51d0c7f8cbce337b6deacbd239af118aa5e9", func := "loop.example/formatplans/laws.FnExactRoundDec", spec := "fnExactRoundDec", apart := false, narrowed := true }
def FnExactRoundDecUptoSaid : Prop := fnExactRoundDecUptoRow.holds Try.pinned (OpenSpec.upto fnExactRoundDecSpec)

/-- 'laws.FnExactRoundDigits', WHERE WHAT IT READS IS OF BULK AT MOST 1048576: true; the input reads as it did. -/
def fnExactRoundDigitsUptoRow : OpenClaim := { program := "ytehocgedlepajab", sum := "3cecac99ff4b9d42da5f83f2c1bc51d0c7f8cbce337b6deacbd239af118aa5e9", func := "loop.example/formatplans/laws.FnExactRoundDigits", spec := "fnExactRoundDigits", apart := false, narrowed := true }
def FnExactRoundDigitsUptoSaid : Prop := fnExactRoundDigitsUptoRow.holds Try.pinned (OpenSpec.upto fnExactRoundDigitsSpec)

/-- 'laws.FnExactIsWhole', WHERE WHAT IT READS IS OF BULK AT MOST 1048576: true; the input reads as it did. -/
def fnExactIsWholeUptoRow : OpenClaim := { program := "ytehocgedlepajab", sum := "3cecac99ff4b9d42da5f83f2c1bc51d0c7f8cbce337b6deacbd239af118aa5e9", func := "loop.example/formatplans/laws.FnExactIsWhole", spec := "fnExactIsWhole", apart := false, narrowed := true }
def FnExactIsWholeUptoSaid : Prop := fnExactIsWholeUptoRow.holds Try.pinned (OpenSpec.upto fnExactIsWholeSpec)

/-- 'laws.FnExactPlacesOf', WHERE WHAT IT READS IS OF BULK AT MOST 1048576: true; the input reads as it did. -/
def fnExactPlacesOfUptoRow : OpenClaim := { program := "ytehocgedlepajab", sum := "3cecac99ff4b9d42da5f83f2c1bc51d0c7f8cbce337b6deacbd239af118aa5e9", func := "loop.example/formatplans/laws.FnExactPlacesOf", spec := "fnExactPlacesOf", apart := false, narrowed := true }
def FnExactPlacesOfUptoSaid : Prop := fnExactPlacesOfUptoRow.holds Try.pinned (OpenSpec.upto fnExactPlacesOfSpec)

/-- 'laws.FnAlignFor', WHERE WHAT IT READS IS OF BULK AT MOST 1048576: true; the input reads as it did. -/
def fnAlignForUptoRow : OpenClaim := { program := "ytehocgedlepajab", sum := "3cecac99ff4b9d42da5f83f2c1bc51d0c7f8cbce337b6deacbd239af118aa5e9", func := "loop.example/formatplans/laws.FnAlignFor", spec := "fnAlignFor", inPlace := ["internal/bytealg.IndexByteString", "internal/bytealg.IndexString"], named := ["internal/bytealg.MaxLen"], apart := false, narrowed := true }
def FnAlignForUptoSaid : Prop := fnAlignForUptoRow.holds Try.pinned (OpenSpec.upto fnAlignForSpec)

end Rows
end Go.Proofs.Ytehocgedlepajab
