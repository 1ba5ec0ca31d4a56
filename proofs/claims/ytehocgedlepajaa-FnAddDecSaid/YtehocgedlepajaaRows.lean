/-
  No cell of these rows narrows 'for every input' (looked for: loops, veiled, ifaces, maps, wideKeys, modest, calm, conditions, laid).
  DERIVED. THE GIVEN ROWS OF THIS SEAT. 13 by the template 'for every input the law returns true; each argument reads behind the call as it read before'; 0 by the template 'total and deterministic' (their statements: YtehocgedlepajaaTotals.lean).
  GIVEN WITH THE SEED: the statements are not yours to turn. If you find one false, say at which input.
  Laid BY PROGRAM, IN A SANDBOX (cutbox-rows.mjs): the forced cells as the released guide's own fill.sh prints them over the translation d340be9ddf8908ab… (all of the seat's roots in one cut). By AI agents, Wed Nov 11 2026. No macro, syntax, notation, axiom, sorry.
-/
import Derived.Test.YtehocgedlepajaaChecked
import GoSem.Claim
import GoSem.ClaimJoined
import GoSem.ClaimMapViews
import Derived.JoinedTies
import Derived.KernelRfl
namespace Go.Proofs.Ytehocgedlepajaa
/- THE CELL 'sum', in the pinned program and in every row, IS THE sha256 OF THE DUMP (.gsa) THAT YtehocgedlepajaaProg.lean LOADS. Nothing in Lean hashes anything: it is a label: what it is worth is what the hold of that sum in a sandbox is worth. -/
noncomputable def Try.pinned : Pinned := { name := "ytehocgedlepajaa", sum := "d340be9ddf8908abaa09ef8c72380b1294eeb49eab08787f1845a46b702ec39b", checked := Try.checked }
namespace Rows
def none {H : Type} : Left H := { results := [], args := [] }

/-- 'laws.FnValidDec': WHATEVER THE INPUT: true; the input reads as it did. -/
def fnValidDecSpec : ChangeSpec := { name := "fnValidDec", fn := fun _ => fun
  | [d] => { results := [.lit (.bool true)], args := [d] }
  | _ => none }
def fnValidDecRow : OpenClaim := { program := "ytehocgedlepajaa", sum := "d340be9ddf8908abaa09ef8c72380b1294eeb49eab08787f1845a46b702ec39b", func := "loop.example/formatplans/laws.FnValidDec", spec := "fnValidDec", apart := false }
def FnValidDecSaid : Prop := fnValidDecRow.holds Try.pinned (OpenSpec.ofChange fnValidDecSpec)

/-- ITS FALSE NEIGHBOUR: 'it returns false'. Refute it at one input. -/
def fnValidDecWrong : ChangeSpec := { name := "fnValidDec", fn := fun _ => fun
  | [d] => { results := [.lit (.bool false)], args := [d] }
  | _ => none }
def FnValidDecWrongFalsely : Prop := fnValidDecRow.holds Try.pinned (OpenSpec.ofChange fnValidDecWrong)

/-- 'laws.FnNormalDec': WHATEVER THE INPUT: true; the input reads as it did. -/
def fnNormalDecSpec : ChangeSpec := { name := "fnNormalDec", fn := fun _ => fun
  | [d] => { results := [.lit (.bool true)], args := [d] }
  | _ => none }
def fnNormalDecRow : OpenClaim := { program := "ytehocgedlepajaa", sum := "d340be9ddf8908abaa09ef8c72380b1294eeb49eab08787f1845a46b702ec39b", func := "loop.example/formatplans/laws.FnNormalDec", spec := "fnNormalDec", apart := false }
def FnNormalDecSaid : Prop := fnNormalDecRow.holds Try.pinned (OpenSpec.ofChange fnNormalDecSpec)

/-- ITS FALSE NEIGHBOUR: 'it returns false'. Refute it at one input. -/
def fnNormalDecWrong : ChangeSpec := { name := "fnNormalDec", fn := fun _ => fun
  | [d] => { results := [.lit (.bool false)], args := [d] }
  | _ => none }
def FnNormalDecWrongFalsely : Prop := fnNormalDecRow.holds Try.pinned (OpenSpec.ofChange fnNormalDecWrong)

/-- 'laws.FnCompareDec': WHATEVER THE INPUT: true; the input reads as it did. -/
def fnCompareDecSpec : ChangeSpec := { name := "fnCompareDec", fn := fun _ => fun
  | [d] => { results := [.lit (.bool true)], args := [d] }
  | _ => none }
def fnCompareDecRow : OpenClaim := { program := "ytehocgedlepajaa", sum := "d340be9ddf8908abaa09ef8c72380b1294eeb49eab08787f1845a46b702ec39b", func := "loop.example/formatplans/laws.FnCompareDec", spec := "fnCompareDec", apart := false }
def FnCompareDecSaid : Prop := fnCompareDecRow.holds Try.pinned (OpenSpec.ofChange fnCompareDecSpec)

/-- ITS FALSE NEIGHBOUR: 'it returns false'. Refute it at one input. -/
def fnCompareDecWrong : ChangeSpec := { name := "fnCompareDec", fn := fun _ => fun
  | [d] => { results := [.lit (.bool false)], args := [d] }
  | _ => none }
def FnCompareDecWrongFalsely : Prop := fnCompareDecRow.holds Try.pinned (OpenSpec.ofChange fnCompareDecWrong)

/-- 'laws.FnNegateDec': WHATEVER THE INPUT: true; the input reads as it did. -/
def fnNegateDecSpec : ChangeSpec := { name := "fnNegateDec", fn := fun _ => fun
  | [d] => { results := [.lit (.bool true)], args := [d] }
  | _ => none }
def fnNegateDecRow : OpenClaim := { program := "ytehocgedlepajaa", sum := "d340be9ddf8908abaa09ef8c72380b1294eeb49eab08787f1845a46b702ec39b", func := "loop.example/formatplans/laws.FnNegateDec", spec := "fnNegateDec", apart := false }
def FnNegateDecSaid : Prop := fnNegateDecRow.holds Try.pinned (OpenSpec.ofChange fnNegateDecSpec)

/-- ITS FALSE NEIGHBOUR: 'it returns false'. Refute it at one input. -/
def fnNegateDecWrong : ChangeSpec := { name := "fnNegateDec", fn := fun _ => fun
  | [d] => { results := [.lit (.bool false)], args := [d] }
  | _ => none }
def FnNegateDecWrongFalsely : Prop := fnNegateDecRow.holds Try.pinned (OpenSpec.ofChange fnNegateDecWrong)

/-- 'laws.FnAddDec': WHATEVER THE INPUT: true; the input reads as it did. -/
def fnAddDecSpec : ChangeSpec := { name := "fnAddDec", fn := fun _ => fun
  | [d] => { results := [.lit (.bool true)], args := [d] }
  | _ => none }
def fnAddDecRow : OpenClaim := { program := "ytehocgedlepajaa", sum := "d340be9ddf8908abaa09ef8c72380b1294eeb49eab08787f1845a46b702ec39b", func := "loop.example/formatplans/laws.FnAddDec", spec := "fnAddDec", apart := false }
def FnAddDecSaid : Prop := fnAddDecRow.holds Try.pinned (OpenSpec.ofChange fnAddDecSpec)

/-- ITS FALSE NEIGHBOUR: 'it returns false'. Refute it at one input. -/
def fnAddDecWrong : ChangeSpec := { name := "fnAddDec", fn := fun _ => fun
  | [d] => { results := [.lit (.bool false)], args := [d] }
  | _ => none }
def FnAddDecWrongFalsely : Prop := fnAddDecRow.holds Try.pinned (OpenSpec.ofChange fnAddDecWrong)

/-- 'laws.FnShiftDec': WHATEVER THE INPUT: true; the input reads as it did. -/
def fnShiftDecSpec : ChangeSpec := { name := "fnShiftDec", fn := fun _ => fun
  | [d] => { results := [.lit (.bool true)], args := [d] }
  | _ => none }
def fnShiftDecRow : OpenClaim := { program := "ytehocgedlepajaa", sum := "d340be9ddf8908abaa09ef8c72380b1294eeb49eab08787f1845a46b702ec39b", func := "loop.example/formatplans/laws.FnShiftDec", spec := "fnShiftDec", apart := false }
def FnShiftDecSaid : Prop := fnShiftDecRow.holds Try.pinned (OpenSpec.ofChange fnShiftDecSpec)

/-- ITS FALSE NEIGHBOUR: 'it returns false'. Refute it at one input. -/
def fnShiftDecWrong : ChangeSpec := { name := "fnShiftDec", fn := fun _ => fun
  | [d] => { results := [.lit (.bool false)], args := [d] }
  | _ => none }
def FnShiftDecWrongFalsely : Prop := fnShiftDecRow.holds Try.pinned (OpenSpec.ofChange fnShiftDecWrong)

/-- 'laws.FnDigitsOf': WHATEVER THE INPUT: true; the input reads as it did. -/
def fnDigitsOfSpec : ChangeSpec := { name := "fnDigitsOf", fn := fun _ => fun
  | [d] => { results := [.lit (.bool true)], args := [d] }
  | _ => none }
def fnDigitsOfRow : OpenClaim := { program := "ytehocgedlepajaa", sum := "d340be9ddf8908abaa09ef8c72380b1294eeb49eab08787f1845a46b702ec39b", func := "loop.example/formatplans/laws.FnDigitsOf", spec := "fnDigitsOf", apart := false }
def FnDigitsOfSaid : Prop := fnDigitsOfRow.holds Try.pinned (OpenSpec.ofChange fnDigitsOfSpec)

/-- ITS FALSE NEIGHBOUR: 'it returns false'. Refute it at one input. -/
def fnDigitsOfWrong : ChangeSpec := { name := "fnDigitsOf", fn := fun _ => fun
  | [d] => { results := [.lit (.bool false)], args := [d] }
  | _ => none }
def FnDigitsOfWrongFalsely : Prop := fnDigitsOfRow.holds Try.pinned (OpenSpec.ofChange fnDigitsOfWrong)

/-- 'laws.FnLeadOf': WHATEVER THE INPUT: true; the input reads as it did. -/
def fnLeadOfSpec : ChangeSpec := { name := "fnLeadOf", fn := fun _ => fun
  | [d] => { results := [.lit (.bool true)], args := [d] }
  | _ => none }
def fnLeadOfRow : OpenClaim := { program := "ytehocgedlepajaa", sum := "d340be9ddf8908abaa09ef8c72380b1294eeb49eab08787f1845a46b702ec39b", func := "loop.example/formatplans/laws.FnLeadOf", spec := "fnLeadOf", apart := false }
def FnLeadOfSaid : Prop := fnLeadOfRow.holds Try.pinned (OpenSpec.ofChange fnLeadOfSpec)

/-- ITS FALSE NEIGHBOUR: 'it returns false'. Refute it at one input. -/
def fnLeadOfWrong : ChangeSpec := { name := "fnLeadOf", fn := fun _ => fun
  | [d] => { results := [.lit (.bool false)], args := [d] }
  | _ => none }
def FnLeadOfWrongFalsely : Prop := fnLeadOfRow.holds Try.pinned (OpenSpec.ofChange fnLeadOfWrong)

/-- 'laws.FnRoundDec': WHATEVER THE INPUT: true; the input reads as it did. -/
def fnRoundDecSpec : ChangeSpec := { name := "fnRoundDec", fn := fun _ => fun
  | [d] => { results := [.lit (.bool true)], args := [d] }
  | _ => none }
def fnRoundDecRow : OpenClaim := { program := "ytehocgedlepajaa", sum := "d340be9ddf8908abaa09ef8c72380b1294eeb49eab08787f1845a46b702ec39b", func := "loop.example/formatplans/laws.FnRoundDec", spec := "fnRoundDec", apart := false }
def FnRoundDecSaid : Prop := fnRoundDecRow.holds Try.pinned (OpenSpec.ofChange fnRoundDecSpec)

/-- ITS FALSE NEIGHBOUR: 'it returns false'. Refute it at one input. -/
def fnRoundDecWrong : ChangeSpec := { name := "fnRoundDec", fn := fun _ => fun
  | [d] => { results := [.lit (.bool false)], args := [d] }
  | _ => none }
def FnRoundDecWrongFalsely : Prop := fnRoundDecRow.holds Try.pinned (OpenSpec.ofChange fnRoundDecWrong)

/-- 'laws.FnRoundDecNear': WHATEVER THE INPUT: true; the input reads as it did. -/
def fnRoundDecNearSpec : ChangeSpec := { name := "fnRoundDecNear", fn := fun _ => fun
  | [d] => { results := [.lit (.bool true)], args := [d] }
  | _ => none }
def fnRoundDecNearRow : OpenClaim := { program := "ytehocgedlepajaa", sum := "d340be9ddf8908abaa09ef8c72380b1294eeb49eab08787f1845a46b702ec39b", func := "loop.example/formatplans/laws.FnRoundDecNear", spec := "fnRoundDecNear", apart := false }
def FnRoundDecNearSaid : Prop := fnRoundDecNearRow.holds Try.pinned (OpenSpec.ofChange fnRoundDecNearSpec)

/-- ITS FALSE NEIGHBOUR: 'it returns false'. Refute it at one input. -/
def fnRoundDecNearWrong : ChangeSpec := { name := "fnRoundDecNear", fn := fun _ => fun
  | [d] => { results := [.lit (.bool false)], args := [d] }
  | _ => none }
def FnRoundDecNearWrongFalsely : Prop := fnRoundDecNearRow.holds Try.pinned (OpenSpec.ofChange fnRoundDecNearWrong)

/-- 'laws.FnRoundDigits': WHATEVER THE INPUT: true; the input reads as it did. -/
def fnRoundDigitsSpec : ChangeSpec := { name := "fnRoundDigits", fn := fun _ => fun
  | [d] => { results := [.lit (.bool true)], args := [d] }
  | _ => none }
def fnRoundDigitsRow : OpenClaim := { program := "ytehocgedlepajaa", sum := "d340be9ddf8908abaa09ef8c72380b1294eeb49eab08787f1845a46b702ec39b", func := "loop.example/formatplans/laws.FnRoundDigits", spec := "fnRoundDigits", apart := false }
def FnRoundDigitsSaid : Prop := fnRoundDigitsRow.holds Try.pinned (OpenSpec.ofChange fnRoundDigitsSpec)

/-- ITS FALSE NEIGHBOUR: 'it returns false'. Refute it at one input. -/
def fnRoundDigitsWrong : ChangeSpec := { name := "fnRoundDigits", fn := fun _ => fun
  | [d] => { results := [.lit (.bool false)], args := [d] }
  | _ => none }
def FnRoundDigitsWrongFalsely : Prop := fnRoundDigitsRow.holds Try.pinned (OpenSpec.ofChange fnRoundDigitsWrong)

/-- 'laws.FnIsWhole': WHATEVER THE INPUT: true; the input reads as it did. -/
def fnIsWholeSpec : ChangeSpec := { name := "fnIsWhole", fn := fun _ => fun
  | [d] => { results := [.lit (.bool true)], args := [d] }
  | _ => none }
def fnIsWholeRow : OpenClaim := { program := "ytehocgedlepajaa", sum := "d340be9ddf8908abaa09ef8c72380b1294eeb49eab08787f1845a46b702ec39b", func := "loop.example/formatplans/laws.FnIsWhole", spec := "fnIsWhole", apart := false }
def FnIsWholeSaid : Prop := fnIsWholeRow.holds Try.pinned (OpenSpec.ofChange fnIsWholeSpec)

/-- ITS FALSE NEIGHBOUR: 'it returns false'. Refute it at one input. -/
def fnIsWholeWrong : ChangeSpec := { name := "fnIsWhole", fn := fun _ => fun
  | [d] => { results := [.lit (.bool false)], args := [d] }
  | _ => none }
def FnIsWholeWrongFalsely : Prop := fnIsWholeRow.holds Try.pinned (OpenSpec.ofChange fnIsWholeWrong)

/-- 'laws.FnPlacesOf': WHATEVER THE INPUT: true; the input reads as it did. -/
def fnPlacesOfSpec : ChangeSpec := { name := "fnPlacesOf", fn := fun _ => fun
  | [d] => { results := [.lit (.bool true)], args := [d] }
  | _ => none }
def fnPlacesOfRow : OpenClaim := { program := "ytehocgedlepajaa", sum := "d340be9ddf8908abaa09ef8c72380b1294eeb49eab08787f1845a46b702ec39b", func := "loop.example/formatplans/laws.FnPlacesOf", spec := "fnPlacesOf", apart := false }
def FnPlacesOfSaid : Prop := fnPlacesOfRow.holds Try.pinned (OpenSpec.ofChange fnPlacesOfSpec)

/-- ITS FALSE NEIGHBOUR: 'it returns false'. Refute it at one input. -/
def fnPlacesOfWrong : ChangeSpec := { name := "fnPlacesOf", fn := fun _ => fun
  | [d] => { results := [.lit (.bool false)], args := [d] }
  | _ => none }
def FnPlacesOfWrongFalsely : Prop := fnPlacesOfRow.holds Try.pinned (OpenSpec.ofChange fnPlacesOfWrong)

/- THE SECOND FORM. 'bulk': how many values and letters a reading holds, each counted each time it is reached (what is shared counts as often as it is met; a slice's spare places count too). A statement '..UptoSaid' is the law's where the arguments, and the package variables that the reading takes, are together of bulk at most 1048576: NARROWER than '..Said'. Prove '..Said' where nothing that the law and all that it calls make is longer than what came in: it says more and counts as full. Else prove '..UptoSaid'. A law counts once. -/
mutual
def uptoBulk {H : Type} : DataW H → Nat
  | .lit (.string bytes) => bytes.length + 1
  | .lit _ => 1
  | .nil => 1
  | .ptr d => uptoBulk d + 1
  | .slice elems spare => uptoBulkAll elems + uptoBulkAll spare + 1
  | .agg parts => uptoBulkAll parts + 1
  | .iface _ d => uptoBulk d + 1
  | .map entries => uptoBulkEntries entries + 1
  | .held _ => 1
def uptoBulkAll {H : Type} : List (DataW H) → Nat
  | [] => 0
  | d :: r => uptoBulk d + uptoBulkAll r
def uptoBulkEntries {H : Type} : List (Lit × DataW H) → Nat
  | [] => 0
  | x :: r => uptoBulkEntry x + uptoBulkEntries r
def uptoBulkEntry {H : Type} : Lit × DataW H → Nat
  | (.string bytes, d) => bytes.length + uptoBulk d + 1
  | (_, d) => uptoBulk d + 1
 end
def uptoSmall : (H : Type) → List (DataW H) → Bool := fun _ ds => decide (uptoBulkAll ds ≤ 1048576)
def OpenSpec.upto (s : _root_.Go.ChangeSpec) : _root_.Go.OpenSpec := { _root_.Go.OpenSpec.ofChange s with cond := some uptoSmall }

/-- 'laws.FnValidDec', WHERE WHAT IT READS IS OF BULK AT MOST 1048576: true; the input reads as it did. -/
def fnValidDecUptoRow : OpenClaim := { program := "ytehocgedlepajaa", sum := "d340be9ddf8908abaa09ef8c72380b1294eeb49eab08787f1845a46b702ec39b", func := "loop.example/formatplans/laws.FnValidDec", spec := "fnValidDec", apart := false, narrowed := true }
def FnValidDecUptoSaid : Prop := fnValidDecUptoRow.holds Try.pinned (OpenSpec.upto fnValidDecSpec)

/-- 'laws.FnNormalDec', WHERE WHAT IT READS IS OF BULK AT MOST 1048576: true; the input reads as it did. -/
def fnNormalDecUptoRow : OpenClaim := { program := "ytehocgedlepajaa", sum := "d340be9ddf8908abaa09ef8c72380b1294eeb49eab08787f1845a46b702ec39b", func := "loop.example/formatplans/laws.FnNormalDec", spec := "fnNormalDec", apart := false, narrowed := true }
def FnNormalDecUptoSaid : Prop := fnNormalDecUptoRow.holds Try.pinned (OpenSpec.upto fnNormalDecSpec)

/-- 'laws.FnCompareDec', WHERE WHAT IT READS IS OF BULK AT MOST 1048576: true; the input reads as it did. -/
def fnCompareDecUptoRow : OpenClaim := { program := "ytehocgedlepajaa", sum := "d340be9ddf8908abaa09ef8c72380b1294eeb49eab08787f1845a46b702ec39b", func := "loop.example/formatplans/laws.FnCompareDec", spec := "fnCompareDec", apart := false, narrowed := true }
def FnCompareDecUptoSaid : Prop := fnCompareDecUptoRow.holds Try.pinned (OpenSpec.upto fnCompareDecSpec)

/-- 'laws.FnNegateDec', WHERE WHAT IT READS IS OF BULK AT MOST 1048576: true; the input reads as it did. -/
def fnNegateDecUptoRow : OpenClaim := { program := "ytehocgedlepajaa", sum := "d340be9ddf8908abaa09ef8c72380b1294eeb49eab08787f1845a46b702ec39b", func := "loop.example/formatplans/laws.FnNegateDec", spec := "fnNegateDec", apart := false, narrowed := true }
def FnNegateDecUptoSaid : Prop := fnNegateDecUptoRow.holds Try.pinned (OpenSpec.upto fnNegateDecSpec)

/-- 'laws.FnAddDec', WHERE WHAT IT READS IS OF BULK AT MOST 1048576: true; the input reads as it did. -/
def fnAddDecUptoRow : OpenClaim := { program := "ytehocgedlepajaa", sum := "d340be9ddf8908abaa09ef8c72380b1294eeb49eab08787f1845a46b702ec39b", func := "loop.example/formatplans/laws.FnAddDec", spec := "fnAddDec", apart := false, narrowed := true }
def FnAddDecUptoSaid : Prop := fnAddDecUptoRow.holds Try.pinned (OpenSpec.upto fnAddDecSpec)

/-- 'laws.FnShiftDec', WHERE WHAT IT READS IS OF BULK AT MOST 1048576: true; the input reads as it did. -/
def fnShiftDecUptoRow : OpenClaim := { program := "ytehocgedlepajaa", sum := "d340be9ddf8908abaa09ef8c72380b1294eeb49eab08787f1845a46b702ec39b", func := "loop.example/formatplans/laws.FnShiftDec", spec := "fnShiftDec", apart := false, narrowed := true }
def FnShiftDecUptoSaid : Prop := fnShiftDecUptoRow.holds Try.pinned (OpenSpec.upto fnShiftDecSpec)

/-- 'laws.FnDigitsOf', WHERE WHAT IT READS IS OF BULK AT MOST 1048576: true; the input reads as it did. -/
def fnDigitsOfUptoRow : OpenClaim := { program := "ytehocgedlepajaa", sum := "d340be9ddf8908abaa09ef8c72380b1294eeb49eab08787f1845a46b702ec39b", func := "loop.example/formatplans/laws.FnDigitsOf", spec := "fnDigitsOf", apart := false, narrowed := true }
def FnDigitsOfUptoSaid : Prop := fnDigitsOfUptoRow.holds Try.pinned (OpenSpec.upto fnDigitsOfSpec)

/-- 'laws.FnLeadOf', WHERE WHAT IT READS IS OF BULK AT MOST 1048576: true; the input reads as it did. -/
def fnLeadOfUptoRow : OpenClaim := { program := "ytehocgedlepajaa", sum := "d340be9ddf8908abaa09ef8c72380b1294eeb49eab08787f1845a46b702ec39b", func := "loop.example/formatplans/laws.FnLeadOf", spec := "fnLeadOf", apart := false, narrowed := true }
def FnLeadOfUptoSaid : Prop := fnLeadOfUptoRow.holds Try.pinned (OpenSpec.upto fnLeadOfSpec)

/-- 'laws.FnRoundDec', WHERE WHAT IT READS IS OF BULK AT MOST 1048576: true; the input reads as it did. -/
def fnRoundDecUptoRow : OpenClaim := { program := "ytehocgedlepajaa", sum := "d340be9ddf8908abaa09ef8c72380b1294eeb49eab08787f1845a46b702ec39b", func := "loop.example/formatplans/laws.FnRoundDec", spec := "fnRoundDec", apart := false, narrowed := true }
def FnRoundDecUptoSaid : Prop := fnRoundDecUptoRow.holds Try.pinned (OpenSpec.upto fnRoundDecSpec)

/-- 'laws.FnRoundDecNear', WHERE WHAT IT READS IS OF BULK AT MOST 1048576: true; the input reads as it did. -/
def fnRoundDecNearUptoRow : OpenClaim := { program := "ytehocgedlepajaa", sum := "d340be9ddf8908abaa09ef8c72380b1294eeb49eab08787f1845a46b702ec39b", func := "loop.example/formatplans/laws.FnRoundDecNear", spec := "fnRoundDecNear", apart := false, narrowed := true }
def FnRoundDecNearUptoSaid : Prop := fnRoundDecNearUptoRow.holds Try.pinned (OpenSpec.upto fnRoundDecNearSpec)

/-- 'laws.FnRoundDigits', WHERE WHAT IT READS IS OF BULK AT MOST 1048576: true; the input reads as it did. -/
def fnRoundDigitsUptoRow : OpenClaim := { program := "ytehocgedlepajaa", sum := "d340be9ddf8908abaa09ef8c72380b1294eeb49eab08787f1845a46b702ec39b", func := "loop.example/formatplans/laws.FnRoundDigits", spec := "fnRoundDigits", apart := false, narrowed := true }
def FnRoundDigitsUptoSaid : Prop := fnRoundDigitsUptoRow.holds Try.pinned (OpenSpec.upto fnRoundDigitsSpec)

/-- 'laws.FnIsWhole', WHERE WHAT IT READS IS OF BULK AT MOST 1048576: true; the input reads as it did. -/
def fnIsWholeUptoRow : OpenClaim := { program := "ytehocgedlepajaa", sum := "d340be9ddf8908abaa09ef8c72380b1294eeb49eab08787f1845a46b702ec39b", func := "loop.example/formatplans/laws.FnIsWhole", spec := "fnIsWhole", apart := false, narrowed := true }
def FnIsWholeUptoSaid : Prop := fnIsWholeUptoRow.holds Try.pinned (OpenSpec.upto fnIsWholeSpec)

/-- 'laws.FnPlacesOf', WHERE WHAT IT READS IS OF BULK AT MOST 1048576: true; the input reads as it did. -/
def fnPlacesOfUptoRow : OpenClaim := { program := "ytehocgedlepajaa", sum := "d340be9ddf8908abaa09ef8c72380b1294eeb49eab08787f1845a46b702ec39b", func := "loop.example/formatplans/laws.FnPlacesOf", spec := "fnPlacesOf", apart := false, narrowed := true }
def FnPlacesOfUptoSaid : Prop := fnPlacesOfUptoRow.holds Try.pinned (OpenSpec.upto fnPlacesOfSpec)

end Rows
end Go.Proofs.Ytehocgedlepajaa
