import Derived.Test.YtebheehjhnaklaaDoorY10
namespace Go.Proofs.YtebheehjhnaklaaDoor
open Go.RowKit
def zeros (m : Nat) : List UInt8 := List.replicate m 48
end Go.Proofs.YtebheehjhnaklaaDoor
namespace Go.Proofs.YtebheehjhnaklaaDoor
open Go.RowKit
end Go.Proofs.YtebheehjhnaklaaDoor
namespace Go.Proofs.YtebheehjhnaklaaDoor
open Go.RowKit
end Go.Proofs.YtebheehjhnaklaaDoor
