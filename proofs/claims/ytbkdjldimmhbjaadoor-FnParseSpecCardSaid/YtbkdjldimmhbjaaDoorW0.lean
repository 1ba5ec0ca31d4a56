import Derived.Test.YtbkdjldimmhbjaaDoorV2
namespace Go.Proofs.YtbkdjldimmhbjaaDoor
open Go.RowKit
end Go.Proofs.YtbkdjldimmhbjaaDoor
