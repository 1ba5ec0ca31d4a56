import Derived.Test.YtejganoipbblcaaDoorB
namespace Go.Proofs.YtejganoipbblcaaDoor
open Go.RowKit
/-- what holds at all 256 bytes, looked at one by one -/
theorem all_bytes (p : UInt8 → Bool) (h : ((List.range 256).all fun n => p (UInt8.ofNat n)) = true) (b : UInt8) : p b = true := by
  have hb : b.toNat < 256 := b.toNat_lt
  have := List.all_eq_true.1 h b.toNat (List.mem_range.2 hb)
  simpa using this
end Go.Proofs.YtejganoipbblcaaDoor
