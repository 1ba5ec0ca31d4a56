import Derived.Test.YtebheehjhnaklaaGreatDoorN3
import Derived.Test.YtebheehjhnaklaaGreatDoorY7
namespace Go.Proofs.YtebheehjhnaklaaGreatDoor
open Go.RowKit
theorem mBn {fn : FuncId} {args : Array Value} {v : Value} {w : World} (h : Calls Tryz.prog fn args w fun r w' => r = .returned v ∧ w = w') : Calls Tryz.prog fn args w fun r w' => r = .returned v ∧ Below w.heap.size w w' := h.mono (by rintro r w1 ⟨rfl, rfl⟩; exact ⟨rfl, Below.refl _ _⟩)
theorem ret_strN {a b : ByteArray} (h : a = b) : Ending.returned (.string a) = .returned (.string b) := by rw [h]
theorem cat_lN (a b : List UInt8) : (⟨a.toArray⟩ : ByteArray) ++ ⟨b.toArray⟩ = ⟨(a ++ b).toArray⟩ := by
  apply ByteArray.ext
  rw [ByteArray.data_append]
  simp
theorem tdivN (a b : Nat) : ((a : Int)).tdiv b = ((a / b : Nat) : Int) := by rw [Int.tdiv_eq_ediv_of_nonneg (by omega)]; rfl
theorem tmodN (a b : Nat) : ((a : Int)).tmod b = ((a % b : Nat) : Int) := by rw [Int.tmod_eq_emod_of_nonneg (by omega)]; rfl
end Go.Proofs.YtebheehjhnaklaaGreatDoor
namespace Go.Proofs.YtebheehjhnaklaaGreatDoor
open Go.RowKit
end Go.Proofs.YtebheehjhnaklaaGreatDoor
