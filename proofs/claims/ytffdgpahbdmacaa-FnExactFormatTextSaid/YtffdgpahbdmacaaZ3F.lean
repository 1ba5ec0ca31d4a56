import Derived.Test.YtffdgpahbdmacaaZ3
import Derived.Test.YtffdgpahbdmacaaV9
namespace Go.Proofs.Ytffdgpahbdmacaa
open Go.RowKit
/-- the fill's byte -/
def fcB (f : ByteArray) (ze : Bool) : UInt8 := match f.data.toList with | [] => if ze then 48 else 32 | b :: _ => b
theorem fill_one {f : ByteArray} {al : Int} {ze : Bool} (h : okFill f al = true) : fillW true f ze = ⟨#[fcB f ze]⟩ := by
  rcases okFill_cases h with rfl | ⟨b, rfl⟩
  · cases ze <;> rfl
  · rfl
theorem alW_in {al : Int} (ze : Bool) (h0 : 0 ≤ al) (h4 : al ≤ 4) : 1 ≤ alW al ze 0 ∧ alW al ze 0 ≤ 4 := by
  unfold alW
  split
  · cases ze <;> simp
  · omega
end Go.Proofs.Ytffdgpahbdmacaa
