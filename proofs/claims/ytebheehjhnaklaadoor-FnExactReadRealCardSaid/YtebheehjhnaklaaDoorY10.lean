import Derived.Test.YtebheehjhnaklaaDoorC3T
import Derived.Test.YtebheehjhnaklaaDoorShelf
import Derived.Laws.IdiomStrings
import Derived.OwnWalk
namespace Go.Proofs.YtebheehjhnaklaaDoor
open Go.RowKit
theorem of_list (s : ByteArray) : s = ⟨s.data.toList.toArray⟩ := by
  apply ByteArray.ext
  simp
end Go.Proofs.YtebheehjhnaklaaDoor
namespace Go.Proofs.YtebheehjhnaklaaDoor
open Go.RowKit
end Go.Proofs.YtebheehjhnaklaaDoor
namespace Go.Proofs.YtebheehjhnaklaaDoor
open Go.RowKit
end Go.Proofs.YtebheehjhnaklaaDoor
