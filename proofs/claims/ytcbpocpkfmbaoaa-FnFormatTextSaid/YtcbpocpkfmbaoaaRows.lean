/-
  No cell of these rows narrows 'for every input' (looked for: loops, veiled, ifaces, maps, wideKeys, modest, calm, conditions, laid).
  DERIVED. THE GIVEN ROWS OF THIS SEAT. 8 by the template 'for every input the law returns true; each argument reads behind the call as it read before'; 0 by the template 'total and deterministic' (their statements: YtcbpocpkfmbaoaaTotals.lean).
  GIVEN WITH THE SEED: the statements are not yours to turn. If you find one false, say at which input.
  Laid BY PROGRAM, IN A SANDBOX (cutbox-rows.mjs): the forced cells as the released guide's own fill.sh prints them over the translation 4abd6f1c31a91be1… (all of the seat's roots in one cut). By AI agents, Wed Nov 11 2026. No macro, syntax, notation, axiom, sorry.
-/
import Derived.Test.YtcbpocpkfmbaoaaChecked
import GoSem.Claim
import GoSem.ClaimJoined
import GoSem.ClaimMapViews
import Derived.JoinedTies
import Derived.KernelRfl
namespace Go.Proofs.Ytcbpocpkfmbaoaa
/- THE CELL 'sum', in the pinned program and in every row, IS THE sha256 OF THE DUMP (.gsa) THAT YtcbpocpkfmbaoaaProg.lean LOADS. Nothing in Lean hashes anything: it is a label: what it is worth is what the hold of that sum in a sandbox is worth. -/
noncomputable def Try.pinned : Pinned := { name := "ytcbpocpkfmbaoaa", sum := "4abd6f1c31a91be10b2c420b402a2211697c030209114b7443aef0cb71c084a6", checked := Try.checked }
namespace Rows
def none {H : Type} : Left H := { results := [], args := [] }

/-- 'laws.FnValidText': WHATEVER THE INPUT: true; the input reads as it did. -/
def fnValidTextSpec : ChangeSpec := { name := "fnValidText", fn := fun _ => fun
  | [d] => { results := [.lit (.bool true)], args := [d] }
  | _ => none }
def fnValidTextRow : OpenClaim := { program := "ytcbpocpkfmbaoaa", sum := "4abd6f1c31a91be10b2c420b402a2211697c030209114b7443aef0cb71c084a6", func := "loop.example/formatplans/laws.FnValidText", spec := "fnValidText", apart := false }
def FnValidTextSaid : Prop := fnValidTextRow.holds Try.pinned (OpenSpec.ofChange fnValidTextSpec)

/-- ITS FALSE NEIGHBOUR: 'it returns false'. Refute it at one input. -/
def fnValidTextWrong : ChangeSpec := { name := "fnValidText", fn := fun _ => fun
  | [d] => { results := [.lit (.bool false)], args := [d] }
  | _ => none }
def FnValidTextWrongFalsely : Prop := fnValidTextRow.holds Try.pinned (OpenSpec.ofChange fnValidTextWrong)

/-- 'laws.FnPadText': WHATEVER THE INPUT: true; the input reads as it did. -/
def fnPadTextSpec : ChangeSpec := { name := "fnPadText", fn := fun _ => fun
  | [d] => { results := [.lit (.bool true)], args := [d] }
  | _ => none }
def fnPadTextRow : OpenClaim := { program := "ytcbpocpkfmbaoaa", sum := "4abd6f1c31a91be10b2c420b402a2211697c030209114b7443aef0cb71c084a6", func := "loop.example/formatplans/laws.FnPadText", spec := "fnPadText", inPlace := ["internal/abi.NoEscape", "internal/bytealg.MakeNoZero"], apart := false }
def FnPadTextSaid : Prop := fnPadTextRow.holds Try.pinned (OpenSpec.ofChange fnPadTextSpec)

/-- ITS FALSE NEIGHBOUR: 'it returns false'. Refute it at one input. -/
def fnPadTextWrong : ChangeSpec := { name := "fnPadText", fn := fun _ => fun
  | [d] => { results := [.lit (.bool false)], args := [d] }
  | _ => none }
def FnPadTextWrongFalsely : Prop := fnPadTextRow.holds Try.pinned (OpenSpec.ofChange fnPadTextWrong)

/-- 'laws.FnFormatText': WHATEVER THE INPUT: true; the input reads as it did. -/
def fnFormatTextSpec : ChangeSpec := { name := "fnFormatText", fn := fun _ => fun
  | [d] => { results := [.lit (.bool true)], args := [d] }
  | _ => none }
def fnFormatTextRow : OpenClaim := { program := "ytcbpocpkfmbaoaa", sum := "4abd6f1c31a91be10b2c420b402a2211697c030209114b7443aef0cb71c084a6", func := "loop.example/formatplans/laws.FnFormatText", spec := "fnFormatText", inPlace := ["internal/bytealg.IndexByteString", "internal/bytealg.IndexString", "internal/abi.NoEscape", "internal/bytealg.MakeNoZero"], named := ["internal/bytealg.MaxLen"], apart := false }
def FnFormatTextSaid : Prop := fnFormatTextRow.holds Try.pinned (OpenSpec.ofChange fnFormatTextSpec)

/-- ITS FALSE NEIGHBOUR: 'it returns false'. Refute it at one input. -/
def fnFormatTextWrong : ChangeSpec := { name := "fnFormatText", fn := fun _ => fun
  | [d] => { results := [.lit (.bool false)], args := [d] }
  | _ => none }
def FnFormatTextWrongFalsely : Prop := fnFormatTextRow.holds Try.pinned (OpenSpec.ofChange fnFormatTextWrong)

/-- 'laws.FnWidthsOf': WHATEVER THE INPUT: true; the input reads as it did. -/
def fnWidthsOfSpec : ChangeSpec := { name := "fnWidthsOf", fn := fun _ => fun
  | [d] => { results := [.lit (.bool true)], args := [d] }
  | _ => none }
def fnWidthsOfRow : OpenClaim := { program := "ytcbpocpkfmbaoaa", sum := "4abd6f1c31a91be10b2c420b402a2211697c030209114b7443aef0cb71c084a6", func := "loop.example/formatplans/laws.FnWidthsOf", spec := "fnWidthsOf", apart := false }
def FnWidthsOfSaid : Prop := fnWidthsOfRow.holds Try.pinned (OpenSpec.ofChange fnWidthsOfSpec)

/-- ITS FALSE NEIGHBOUR: 'it returns false'. Refute it at one input. -/
def fnWidthsOfWrong : ChangeSpec := { name := "fnWidthsOf", fn := fun _ => fun
  | [d] => { results := [.lit (.bool false)], args := [d] }
  | _ => none }
def FnWidthsOfWrongFalsely : Prop := fnWidthsOfRow.holds Try.pinned (OpenSpec.ofChange fnWidthsOfWrong)

/-- 'laws.FnExactValidText': WHATEVER THE INPUT: true; the input reads as it did. -/
def fnExactValidTextSpec : ChangeSpec := { name := "fnExactValidText", fn := fun _ => fun
  | [d] => { results := [.lit (.bool true)], args := [d] }
  | _ => none }
def fnExactValidTextRow : OpenClaim := { program := "ytcbpocpkfmbaoaa", sum := "4abd6f1c31a91be10b2c420b402a2211697c030209114b7443aef0cb71c084a6", func := "loop.example/formatplans/laws.FnExactValidText", spec := "fnExactValidText", apart := false }
def FnExactValidTextSaid : Prop := fnExactValidTextRow.holds Try.pinned (OpenSpec.ofChange fnExactValidTextSpec)

/-- ITS FALSE NEIGHBOUR: 'it returns false'. Refute it at one input. -/
def fnExactValidTextWrong : ChangeSpec := { name := "fnExactValidText", fn := fun _ => fun
  | [d] => { results := [.lit (.bool false)], args := [d] }
  | _ => none }
def FnExactValidTextWrongFalsely : Prop := fnExactValidTextRow.holds Try.pinned (OpenSpec.ofChange fnExactValidTextWrong)

/-- 'laws.FnExactPadText': WHATEVER THE INPUT: true; the input reads as it did. -/
def fnExactPadTextSpec : ChangeSpec := { name := "fnExactPadText", fn := fun _ => fun
  | [d1, d2, d3, d4] => { results := [.lit (.bool true)], args := [d1, d2, d3, d4] }
  | _ => none }
def fnExactPadTextRow : OpenClaim := { program := "ytcbpocpkfmbaoaa", sum := "4abd6f1c31a91be10b2c420b402a2211697c030209114b7443aef0cb71c084a6", func := "loop.example/formatplans/laws.FnExactPadText", spec := "fnExactPadText", inPlace := ["internal/abi.NoEscape", "internal/bytealg.MakeNoZero"], apart := false }
def FnExactPadTextSaid : Prop := fnExactPadTextRow.holds Try.pinned (OpenSpec.ofChange fnExactPadTextSpec)

/-- ITS FALSE NEIGHBOUR: 'it returns false'. Refute it at one input. -/
def fnExactPadTextWrong : ChangeSpec := { name := "fnExactPadText", fn := fun _ => fun
  | [d1, d2, d3, d4] => { results := [.lit (.bool false)], args := [d1, d2, d3, d4] }
  | _ => none }
def FnExactPadTextWrongFalsely : Prop := fnExactPadTextRow.holds Try.pinned (OpenSpec.ofChange fnExactPadTextWrong)

/-- 'laws.FnExactFormatText': WHATEVER THE INPUT: true; the input reads as it did. -/
def fnExactFormatTextSpec : ChangeSpec := { name := "fnExactFormatText", fn := fun _ => fun
  | [d1, d2] => { results := [.lit (.bool true)], args := [d1, d2] }
  | _ => none }
def fnExactFormatTextRow : OpenClaim := { program := "ytcbpocpkfmbaoaa", sum := "4abd6f1c31a91be10b2c420b402a2211697c030209114b7443aef0cb71c084a6", func := "loop.example/formatplans/laws.FnExactFormatText", spec := "fnExactFormatText", inPlace := ["internal/bytealg.IndexByteString", "internal/bytealg.IndexString", "internal/abi.NoEscape", "internal/bytealg.MakeNoZero"], named := ["internal/bytealg.MaxLen"], apart := false }
def FnExactFormatTextSaid : Prop := fnExactFormatTextRow.holds Try.pinned (OpenSpec.ofChange fnExactFormatTextSpec)

/-- ITS FALSE NEIGHBOUR: 'it returns false'. Refute it at one input. -/
def fnExactFormatTextWrong : ChangeSpec := { name := "fnExactFormatText", fn := fun _ => fun
  | [d1, d2] => { results := [.lit (.bool false)], args := [d1, d2] }
  | _ => none }
def FnExactFormatTextWrongFalsely : Prop := fnExactFormatTextRow.holds Try.pinned (OpenSpec.ofChange fnExactFormatTextWrong)

/-- 'laws.FnExactWidthsOf': WHATEVER THE INPUT: true; the input reads as it did. -/
def fnExactWidthsOfSpec : ChangeSpec := { name := "fnExactWidthsOf", fn := fun _ => fun
  | [d] => { results := [.lit (.bool true)], args := [d] }
  | _ => none }
def fnExactWidthsOfRow : OpenClaim := { program := "ytcbpocpkfmbaoaa", sum := "4abd6f1c31a91be10b2c420b402a2211697c030209114b7443aef0cb71c084a6", func := "loop.example/formatplans/laws.FnExactWidthsOf", spec := "fnExactWidthsOf", apart := false }
def FnExactWidthsOfSaid : Prop := fnExactWidthsOfRow.holds Try.pinned (OpenSpec.ofChange fnExactWidthsOfSpec)

/-- ITS FALSE NEIGHBOUR: 'it returns false'. Refute it at one input. -/
def fnExactWidthsOfWrong : ChangeSpec := { name := "fnExactWidthsOf", fn := fun _ => fun
  | [d] => { results := [.lit (.bool false)], args := [d] }
  | _ => none }
def FnExactWidthsOfWrongFalsely : Prop := fnExactWidthsOfRow.holds Try.pinned (OpenSpec.ofChange fnExactWidthsOfWrong)

/- THE SECOND FORM. 'bulk': how many values and letters a reading holds, each counted each time it is reached (what is shared counts as often as it is met; a slice's spare places count too). A statement '..UptoSaid' is the law's where the arguments, and the package variables that the reading takes, are together of bulk at most 1048576: NARROWER than '..Said'. Prove '..Said' where nothing that the law and all that it calls make is longer than what came in: it says more and counts as full. Else prove '..UptoSaid'. A law counts once. -/
mutual
def uptoBulk {H : Type} : DataW H → Nat
  | .lit (.string bytes) => bytes.length + 1
  | .lit _ => 1
  | .nil => 1
  | .ptr d => uptoBulk d + 1
  | .slice elems spare => uptoBulkAll elems + uptoBulkAll spare + 1
  | .agg parts => uptoBulkAll parts + 1
  | .iface _ d => uptoBulk d + 1
  | .map entries => uptoBulkEntries entries + 1
  | .held _ => 1
def uptoBulkAll {H : Type} : List (DataW H) → Nat
  | [] => 0
  | d :: r => uptoBulk d + uptoBulkAll r
def uptoBulkEntries {H : Type} : List (Lit × DataW H) → Nat
  | [] => 0
  | x :: r => uptoBulkEntry x + uptoBulkEntries r
def uptoBulkEntry {H : Type} : Lit × DataW H → Nat
  | (.string bytes, d) => bytes.length + uptoBulk d + 1
  | (_, d) => uptoBulk d + 1
 end
def uptoSmall : (H : Type) → List (DataW H) → Bool := fun _ ds => decide (uptoBulkAll ds ≤ 1048576)
def OpenSpec.upto (s : _root_.Go.ChangeSpec) : _root_.Go.OpenSpec := { _root_.Go.OpenSpec.ofChange s with cond := some uptoSmall }

/-- 'laws.FnValidText', WHERE WHAT IT READS IS OF BULK AT MOST 1048576: true; the input reads as it did. -/
def fnValidTextUptoRow : OpenClaim := { program := "ytcbpocpkfmbaoaa", sum := "4abd6f1c31a91be10b2c420b402a2211697c030209114b7443aef0cb71c084a6", func := "loop.example/formatplans/laws.FnValidText", spec := "fnValidText", apart := false, narrowed := true }
def FnValidTextUptoSaid : Prop := fnValidTextUptoRow.holds Try.pinned (OpenSpec.upto fnValidTextSpec)

/-- 'laws.FnPadText', WHERE WHAT IT READS IS OF BULK AT MOST 1048576: true; the input reads as it did. -/
def fnPadTextUptoRow : OpenClaim := { program := "ytcbpocpkfmbaoaa", sum := "4abd6f1c31a91be10b2c420b402a2211697c030209114b7443aef0cb71c084a6", func := "loop.example/formatplans/laws.FnPadText", spec := "fnPadText", inPlace := ["internal/abi.NoEscape", "internal/bytealg.MakeNoZero"], apart := false, narrowed := true }
def FnPadTextUptoSaid : Prop := fnPadTextUptoRow.holds Try.pinned (OpenSpec.upto fnPadTextSpec)

/-- 'laws.FnFormatText', WHERE WHAT IT READS IS OF BULK AT MOST 1048576: true; the input reads as it did. -/
def fnFormatTextUptoRow : OpenClaim := { program := "ytcbpocpkfmbaoaa", sum := "4abd6f1c31a91be10b2c420b402a2211697c030209114b7443aef0cb71c084a6", func := "loop.example/formatplans/laws.FnFormatText", spec := "fnFormatText", inPlace := ["internal/bytealg.IndexByteString", "internal/bytealg.IndexString", "internal/abi.NoEscape", "internal/bytealg.MakeNoZero"], named := ["internal/bytealg.MaxLen"], apart := false, narrowed := true }
def FnFormatTextUptoSaid : Prop := fnFormatTextUptoRow.holds Try.pinned (OpenSpec.upto fnFormatTextSpec)

/-- 'laws.FnWidthsOf', WHERE WHAT IT READS IS OF BULK AT MOST 1048576: true; the input reads as it did. -/
def fnWidthsOfUptoRow : OpenClaim := { program := "ytcbpocpkfmbaoaa", sum := "4abd6f1c31a91be10b2c420b402a2211697c030209114b7443aef0cb71c084a6", func := "loop.example/formatplans/laws.FnWidthsOf", spec := "fnWidthsOf", apart := false, narrowed := true }
def FnWidthsOfUptoSaid : Prop := fnWidthsOfUptoRow.holds Try.pinned (OpenSpec.upto fnWidthsOfSpec)

/-- 'laws.FnExactValidText', WHERE WHAT IT READS IS OF BULK AT MOST 1048576: true; the input reads as it did. -/
def fnExactValidTextUptoRow : OpenClaim := { program := "ytcbpocpkfmbaoaa", sum := "4abd6f1c31a91be10b2c420b402a2211697c030209114b7443aef0cb71c084a6", func := "loop.example/formatplans/laws.FnExactValidText", spec := "fnExactValidText", apart := false, narrowed := true }
def FnExactValidTextUptoSaid : Prop := fnExactValidTextUptoRow.holds Try.pinned (OpenSpec.upto fnExactValidTextSpec)

/-- 'laws.FnExactPadText', WHERE WHAT IT READS IS OF BULK AT MOST 1048576: true; the input reads as it did. -/
def fnExactPadTextUptoRow : OpenClaim := { program := "ytcbpocpkfmbaoaa", sum := "4abd6f1c31a91be10b2c420b402a2211697c030209114b7443aef0cb71c084a6", func := "loop.example/formatplans/laws.FnExactPadText", spec := "fnExactPadText", inPlace := ["internal/abi.NoEscape", "internal/bytealg.MakeNoZero"], apart := false, narrowed := true }
def FnExactPadTextUptoSaid : Prop := fnExactPadTextUptoRow.holds Try.pinned (OpenSpec.upto fnExactPadTextSpec)

/-- 'laws.FnExactFormatText', WHERE WHAT IT READS IS OF BULK AT MOST 1048576: true; the input reads as it did. -/
def fnExactFormatTextUptoRow : OpenClaim := { program := "ytcbpocpkfmbaoaa", sum := "4abd6f1c31a91be10b2c420b402a2211697c030209114b7443aef0cb71c084a6", func := "loop.example/formatplans/laws.FnExactFormatText", spec := "fnExactFormatText", inPlace := ["internal/bytealg.IndexByteString", "internal/bytealg.IndexString", "internal/abi.NoEscape", "internal/bytealg.MakeNoZero"], named := ["internal/bytealg.MaxLen"], apart := false, narrowed := true }
def FnExactFormatTextUptoSaid : Prop := fnExactFormatTextUptoRow.holds Try.pinned (OpenSpec.upto fnExactFormatTextSpec)

/-- 'laws.FnExactWidthsOf', WHERE WHAT IT READS IS OF BULK AT MOST 1048576: true; the input reads as it did. -/
def fnExactWidthsOfUptoRow : OpenClaim := { program := "ytcbpocpkfmbaoaa", sum := "4abd6f1c31a91be10b2c420b402a2211697c030209114b7443aef0cb71c084a6", func := "loop.example/formatplans/laws.FnExactWidthsOf", spec := "fnExactWidthsOf", apart := false, narrowed := true }
def FnExactWidthsOfUptoSaid : Prop := fnExactWidthsOfUptoRow.holds Try.pinned (OpenSpec.upto fnExactWidthsOfSpec)

end Rows
end Go.Proofs.Ytcbpocpkfmbaoaa
