import Derived.Test.YtebheehjhnaklaaGreatDoorC3T
namespace Go.Proofs.YtebheehjhnaklaaGreatDoor
open Go.RowKit
set_option maxHeartbeats 1000000 in
theorem digitValue_any (n : Int) (h0 : 0 ≤ n) (h1 : n < 256) (w : World) :
    Calls Tryz.prog 109 #[.int .u8 n] w fun r w' => r = .returned (.int .i64 (dg n)) ∧ w = w' := by
  have u1 : 48 ≤ n → IntKind.u8.wrap (n - 48) = n - 48 := fun h => by rw [IntKind.wrap_u8]; omega
  have u2 : 97 ≤ n → IntKind.u8.wrap (n - 97) = n - 97 := fun h => by rw [IntKind.wrap_u8]; omega
  have u3 : 65 ≤ n → IntKind.u8.wrap (n - 65) = n - 65 := fun h => by rw [IntKind.wrap_u8]; omega
  go_enter Tryz.func109, Tryz.ntmps109
  go_wp2
  all_goals go_ret
  all_goals refine ⟨ret_int ?_, rfl⟩
  all_goals first | (unfold dg; (repeat' split) <;> omega)
end Go.Proofs.YtebheehjhnaklaaGreatDoor
