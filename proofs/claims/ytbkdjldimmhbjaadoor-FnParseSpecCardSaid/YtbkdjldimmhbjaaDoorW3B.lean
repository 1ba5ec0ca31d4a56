import Derived.Test.YtbkdjldimmhbjaaDoorW2
namespace Go.Proofs.YtbkdjldimmhbjaaDoor
open Go.RowKit

theorem mB {fn : FuncId} {args : Array Value} {v : Value} {w : World} (h : Calls Tryd.prog fn args w fun r w' => r = .returned v ∧ w = w') : Calls Tryd.prog fn args w fun r w' => r = .returned v ∧ Below w.heap.size w w' := h.mono (by rintro r w1 ⟨rfl, rfl⟩; exact ⟨rfl, Below.refl _ _⟩)
theorem size_fill {f : ByteArray} {al : Int} (h : okFill f al = true) : f.data.toList.length ≤ 1 := by
  rcases bytes_cases f with rfl | ⟨b, rfl⟩ | h2
  · exact Nat.zero_le _
  · exact Nat.le_refl _
  · rw [okFill_two h2] at h; cases h
theorem size_type {t : ByteArray} (h : okType t = true) : t.data.toList.length ≤ 1 := by
  rcases bytes_cases t with rfl | ⟨b, rfl⟩ | h2
  · exact Nat.zero_le _
  · exact Nat.le_refl _
  · rw [okType_two h2] at h; cases h

end Go.Proofs.YtbkdjldimmhbjaaDoor
