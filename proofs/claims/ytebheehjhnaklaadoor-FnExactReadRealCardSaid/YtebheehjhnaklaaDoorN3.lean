import Derived.Test.YtebheehjhnaklaaDoorC3T
import Derived.Lib.ItoaNum
import Derived.Deep.RegionWith
import Derived.Deep.LoopGhost
namespace Go.Proofs.YtebheehjhnaklaaDoor
open Go.RowKit
theorem wrap_i64 (n : Int) : IntKind.i64.wrap n = wrap64 n := by rw [IntKind.wrap_i64]; unfold wrap64; rfl
end Go.Proofs.YtebheehjhnaklaaDoor
namespace Go.Proofs.YtebheehjhnaklaaDoor
open Go.RowKit
end Go.Proofs.YtebheehjhnaklaaDoor
namespace Go.Proofs.YtebheehjhnaklaaDoor
open Go.RowKit
end Go.Proofs.YtebheehjhnaklaaDoor
