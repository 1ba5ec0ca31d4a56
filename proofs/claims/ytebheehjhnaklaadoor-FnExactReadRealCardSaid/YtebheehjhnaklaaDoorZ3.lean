import Derived.Test.YtebheehjhnaklaaDoorX1
import Derived.Test.YtebheehjhnaklaaDoorC3T
namespace Go.Proofs.YtebheehjhnaklaaDoor
open Go.RowKit
theorem ext_take (k : Nat) (l : List UInt8) : (⟨l.toArray⟩ : ByteArray).extract 0 k = ⟨(l.take k).toArray⟩ := by
  apply ByteArray.ext
  rw [ByteArray.data_extract]
  apply Array.ext'
  rw [Array.toList_extract]
  simp [List.extract_eq_take_drop]
theorem ext_drop (k : Nat) (l : List UInt8) : (⟨l.toArray⟩ : ByteArray).extract k l.length = ⟨(l.drop k).toArray⟩ := by
  apply ByteArray.ext
  rw [ByteArray.data_extract]
  apply Array.ext'
  rw [Array.toList_extract]
  simp only [List.extract_eq_take_drop, List.toList_toArray]
  exact List.take_of_length_le (by rw [List.length_drop]; exact Nat.le_refl _)
end Go.Proofs.YtebheehjhnaklaaDoor
namespace Go.Proofs.YtebheehjhnaklaaDoor
open Go.RowKit
end Go.Proofs.YtebheehjhnaklaaDoor
namespace Go.Proofs.YtebheehjhnaklaaDoor
open Go.RowKit
end Go.Proofs.YtebheehjhnaklaaDoor
