import Derived.Test.YtebheehjhnaklaaDoorTL
import Derived.Test.YtebheehjhnaklaaDoorN6
import Derived.Test.YtebheehjhnaklaaDoorC7
import Derived.Test.YtebheehjhnaklaaDoorPl2
import Derived.Test.YtebheehjhnaklaaDoorY13
import Derived.Test.YtebheehjhnaklaaDoorZ3
import Derived.Test.YtebheehjhnaklaaDoorC3T
import Derived.Handy
import Derived.Lib.AppendIntMem
import Derived.Lib.ItoaMem
namespace Go.Proofs.YtebheehjhnaklaaDoor
open Go.RowKit
theorem beq_48 (a : UInt8) : ((a.toNat : Int) == 48) = decide (a = 48) := beq_u8 (a := a) (b := 48)
set_option maxRecDepth 100000 in
set_option maxHeartbeats 4000000 in
theorem trimmedS_any (s : ByteArray) (hs : s.size ≤ 1000) (w : World) :
    Calls Tryd.prog 31 #[.string s] w fun r w' => r = .returned (.string (trRB 48 s)) ∧ w = w' := by
  go_enter Tryd.func31, Tryd.ntmps31
  go_wp2
  go_loopg [0] s.size (fun g s0 wr => ∃ T : ByteArray, wr = w ∧ s0 = .string T ∧ T.size ≤ s.size ∧ Aside (trRB 48 T = trRB 48 s) ∧ Aside (g = T.size))
  case atStart => exact ⟨s, rfl, rfl, Nat.le_refl _, by show _ = _; rfl, by show _ = _; rfl⟩
  case round =>
    obtain ⟨T, rfl, rfl, hk, hv, hg⟩ := hrel
    have hg' := hg.out
    have hv' := hv.out
    clear hg hv
    by_cases h0 : T.size = 0
    · obtain rfl := sz0 h0
      rw [trRB_nil] at hv'
      have HV := Lib.hid hv'
      clear hv'
      go_wp2
      all_goals go_ret
      all_goals exact ⟨ret_str HV.out, rfl⟩
    · have hp : 0 < T.size := by omega
      have hne : T.toList.isEmpty = false := nonempty_list (by omega)
      have hq := beq_48 (T[T.size - 1])
      by_cases hc : T[T.size - 1] = 48
      · have hst := trR_step 48 hp hc
        rw [hv'] at hst
        rw [decide_eq_true hc] at hq
        have HV := Lib.hid hst
        clear hst hv' hc
        go_wp2
        go_roundg (T.size - 1)
        case measure => omega
        case rel => exact ⟨T.extract 0 (T.size - 1), rfl, rfl, by rw [ByteArray.size_extract]; omega, HV.out, by show _ = _; rw [ByteArray.size_extract]; omega⟩
      · have hst := trR_stop 48 hp hc
        rw [hv'] at hst
        rw [decide_eq_false hc] at hq
        have HV := Lib.hid hst
        clear hst hv' hc
        go_wp2
        all_goals go_ret
        all_goals exact ⟨ret_str HV.out.symm, rfl⟩
end Go.Proofs.YtebheehjhnaklaaDoor
namespace Go.Proofs.YtebheehjhnaklaaDoor
open Go.RowKit
end Go.Proofs.YtebheehjhnaklaaDoor
namespace Go.Proofs.YtebheehjhnaklaaDoor
open Go.RowKit
end Go.Proofs.YtebheehjhnaklaaDoor
