import Derived.Test.YtebheehjhnaklaaGreatDoorN2
import Derived.Test.YtebheehjhnaklaaGreatDoorY10
namespace Go.Proofs.YtebheehjhnaklaaGreatDoor
open Go.RowKit
theorem wo_step (c : UInt8) {s : ByteArray} {k : Nat} (h : k < s.size) : wo c (s.data.toList.drop k) = (if s[k] == c then [] else [s[k]]) ++ wo c (s.data.toList.drop (k + 1)) := by
  rw [drop_at h]
  unfold wo
  rw [List.filter_cons]
  by_cases hc : s[k] = c
  · rw [if_neg (by simp [hc]), if_pos (by simp [hc])]; rfl
  · rw [if_pos (by simp [hc]), if_neg (by simp [hc])]; rfl
end Go.Proofs.YtebheehjhnaklaaGreatDoor
