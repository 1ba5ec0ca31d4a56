import Derived.Test.YtffdgpahbdmacaaDoorV2
namespace Go.Proofs.YtffdgpahbdmacaaDoor
open Go.RowKit
end Go.Proofs.YtffdgpahbdmacaaDoor
