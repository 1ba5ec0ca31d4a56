import Derived.Test.YtebheehjhnaklaaDoorRC
import Derived.Handed
import Derived.SizedLaws
import Derived.Shelf.Vars
namespace Go.Proofs.YtebheehjhnaklaaDoor
open Go Go.ChangeShapes Go.WideShapes Go.ChangeAt Go.RowKit
/-- the library's own variable holds some number -/
def HasMax (w : World) : Prop := 0 < w.heap.size ∧ ∃ m, w.cell? ⟨0, 0, none⟩ = some (.int .i64 m)
theorem HasMax.on {w w1 : World} (h : HasMax w) (hb : Below w.heap.size w w1) : HasMax w1 := by
  obtain ⟨hl, m, hm⟩ := h
  exact ⟨Nat.lt_of_lt_of_le hl hb.size, m, (hb.cell (p := ⟨0, 0, none⟩) hl).trans hm⟩
end Go.Proofs.YtebheehjhnaklaaDoor
