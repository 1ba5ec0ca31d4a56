import Derived.Test.YtebheehjhnaklaaDoorTL
import Derived.Test.YtebheehjhnaklaaDoorN6
import Derived.Test.YtebheehjhnaklaaDoorC7
import Derived.Test.YtebheehjhnaklaaDoorPl2
import Derived.Test.YtebheehjhnaklaaDoorY13
import Derived.Test.YtebheehjhnaklaaDoorZ3
import Derived.Test.YtebheehjhnaklaaDoorC3T
import Derived.Test.YtebheehjhnaklaaDoorY4
import Derived.Test.YtebheehjhnaklaaDoorX1
import Derived.Test.YtebheehjhnaklaaDoorHSh
import Derived.Handy
import Derived.Lib.AppendIntMem
import Derived.Lib.ItoaMem
namespace Go.Proofs.YtebheehjhnaklaaDoor
open Go Go.RowKit
theorem set3 {w1 : World} {b : Nat} {a0 a1 a2 : Value} (h0 : w1.cell? ⟨b, 0, none⟩ = some a0) (h1 : w1.cell? ⟨b, 1, none⟩ = some a1) (h2 : w1.cell? ⟨b, 2, none⟩ = some a2) (x y z : Value) :
    (((w1.setCell ⟨b, 0, none⟩ x).setCell ⟨b, 1, none⟩ y).setCell ⟨b, 2, none⟩ z).cell? ⟨b, 0, none⟩ = some x ∧
    (((w1.setCell ⟨b, 0, none⟩ x).setCell ⟨b, 1, none⟩ y).setCell ⟨b, 2, none⟩ z).cell? ⟨b, 1, none⟩ = some y ∧
    (((w1.setCell ⟨b, 0, none⟩ x).setCell ⟨b, 1, none⟩ y).setCell ⟨b, 2, none⟩ z).cell? ⟨b, 2, none⟩ = some z := by
  refine ⟨?_, ?_, ?_⟩ <;> simp [h0, h1, h2, go_sem]
end Go.Proofs.YtebheehjhnaklaaDoor
