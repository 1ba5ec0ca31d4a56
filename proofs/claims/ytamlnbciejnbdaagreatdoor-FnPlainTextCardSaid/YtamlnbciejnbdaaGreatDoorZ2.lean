import Derived.Handy
import Derived.Test.YtamlnbciejnbdaaGreatDoorZ1
namespace Go.Proofs.YtamlnbciejnbdaaGreatDoor
open Go.RowKit
theorem rep_snoc (c : UInt8) (k : Nat) : rep c k ++ [c] = rep c (k + 1) := by
  simp [rep, List.replicate_succ']
set_option maxRecDepth 100000 in
set_option maxHeartbeats 2000000 in
theorem repeatS_any (c : UInt8) (n : Nat) (hn : n ≤ 100) (w : World) : Calls Tryz.prog 143 #[.string ⟨#[c]⟩, .int .i64 n] w fun r w' => r = .returned (.string ⟨(rep c n).toArray⟩) ∧ w = w' := by
  go_enter Tryz.func143, Tryz.ntmps143
  go_wp2
  go_loopg [5, 6] n (fun g s5 s6 wr => ∃ k : Nat, wr = w ∧ s5 = .string ⟨(rep c k).toArray⟩ ∧ s6 = .int .i64 k ∧ k ≤ n ∧ Aside (g = n - k))
  case atStart => exact ⟨0, rfl, rfl, rfl, by omega, by show _ = _; omega⟩
  case round =>
    obtain ⟨k, rfl, rfl, rfl, hk, hg⟩ := hrel
    have hg' := hg.out
    clear hg
    by_cases hlt : k < n
    · have i1 : (k : Int) < n := by omega
      have hq : ¬ (9223372036854775807 < (rep c k).length + 1) := by rw [rep_len]; omega
      have hc : (⟨(rep c k).toArray⟩ : ByteArray) ++ ⟨#[c]⟩ = ⟨(rep c (k + 1)).toArray⟩ := by rw [← rep_snoc]; exact cat_l (rep c k) [c]
      go_wp2
      go_roundg (n - (k + 1))
      case measure => omega
      case rel => exact ⟨k + 1, rfl, rfl, by go_num, by omega, rfl⟩
    · obtain rfl : k = n := by omega
      have i1 : ¬ (k : Int) < k := by omega
      go_wp2
      go_ret
      exact ⟨rfl, rfl⟩
end Go.Proofs.YtamlnbciejnbdaaGreatDoor
