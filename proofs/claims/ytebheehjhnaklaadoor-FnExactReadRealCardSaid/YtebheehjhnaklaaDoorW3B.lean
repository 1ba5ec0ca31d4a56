import Derived.Test.YtebheehjhnaklaaDoorC3T
namespace Go.Proofs.YtebheehjhnaklaaDoor
open Go.RowKit
/-- the mark at a place counted from 1 -/
def mk (l : List UInt8) (k : Int) : List UInt8 := if k = 0 then [] else (l.drop (k.toNat - 1)).take 1
/-- a number of at most two digits -/
def dec2 (n : Nat) : List UInt8 := if n < 10 then [UInt8.ofNat (48 + n)] else [UInt8.ofNat (48 + n / 10), UInt8.ofNat (48 + n % 10)]
end Go.Proofs.YtebheehjhnaklaaDoor
namespace Go.Proofs.YtebheehjhnaklaaDoor
open Go.RowKit
end Go.Proofs.YtebheehjhnaklaaDoor
namespace Go.Proofs.YtebheehjhnaklaaDoor
open Go.RowKit
end Go.Proofs.YtebheehjhnaklaaDoor
