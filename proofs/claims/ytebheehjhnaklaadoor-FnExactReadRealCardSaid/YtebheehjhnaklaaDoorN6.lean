import Derived.Test.YtebheehjhnaklaaDoorN3
import Derived.Test.YtebheehjhnaklaaDoorShelf
import Derived.Test.YtebheehjhnaklaaDoorC3T
import Derived.Laws.IdiomStrings
import Derived.OwnWalk
namespace Go.Proofs.YtebheehjhnaklaaDoor
open Go.RowKit
theorem mBn {fn : FuncId} {args : Array Value} {v : Value} {w : World} (h : Calls Tryd.prog fn args w fun r w' => r = .returned v ∧ w = w') : Calls Tryd.prog fn args w fun r w' => r = .returned v ∧ Below w.heap.size w w' := h.mono (by rintro r w1 ⟨rfl, rfl⟩; exact ⟨rfl, Below.refl _ _⟩)
theorem cat_lN (a b : List UInt8) : (⟨a.toArray⟩ : ByteArray) ++ ⟨b.toArray⟩ = ⟨(a ++ b).toArray⟩ := by
  apply ByteArray.ext
  rw [ByteArray.data_append]
  simp
end Go.Proofs.YtebheehjhnaklaaDoor
namespace Go.Proofs.YtebheehjhnaklaaDoor
open Go.RowKit
end Go.Proofs.YtebheehjhnaklaaDoor
