import Derived.Test.YtejganoipbblcaaDoorB
namespace Go.Proofs.YtejganoipbblcaaDoor
open Go.RowKit
theorem less_one (a b : UInt8) : Op.bytesLess [a] [b] = decide (a < b) := by
  simp [Op.bytesLess]
/-- a printable byte -/
def okByte (b : UInt8) : Bool := !decide (b < 32) && (decide (b < 126) || b == 126)
set_option maxHeartbeats 1000000 in
theorem isPrintable_one (b : UInt8) (w : World) :
    Calls Tryd.prog 64 #[.string ⟨#[b]⟩] w fun r w' => r = .returned (.bool (okByte b)) ∧ w = w' := by
  go_enter Tryd.func64, Tryd.ntmps64
  go_wp2
  all_goals go_ret
  all_goals refine ⟨ret_bool ?_, rfl⟩
  all_goals simp_all [okByte, less_one]
set_option maxHeartbeats 1000000 in
theorem isPrintable_no (s : ByteArray) (h : s.size ≠ 1) (w : World) :
    Calls Tryd.prog 64 #[.string s] w fun r w' => r = .returned (.bool false) ∧ w = w' := by
  have h' : ¬ (s.size : Int) = 1 := by omega
  go_enter Tryd.func64, Tryd.ntmps64
  go_wp2
  all_goals go_ret
  all_goals exact ⟨rfl, rfl⟩

def okFill (f : ByteArray) (al : Int) : Bool := match f.data.toList with | [] => true | [b] => !(al == 0) && okByte b && !(b == 123) && !(b == 125) | _ => false
def types : List UInt8 := [100, 98, 111, 120, 88, 99, 115, 102, 101, 69, 103, 71, 37]
def okType (t : ByteArray) : Bool := match t.data.toList with | [] => true | [b] => decide (0 ≤ Lib.indexByte types b) | _ => false
end Go.Proofs.YtejganoipbblcaaDoor
