import Derived.Test.YtkpdpohnbnpelaaGreatDoorN2
import Derived.Test.YtkpdpohnbnpelaaGreatDoorY9
namespace Go.Proofs.YtkpdpohnbnpelaaGreatDoor
open Go.RowKit
theorem wo_step (c : UInt8) {s : ByteArray} {k : Nat} (h : k < s.size) : wo c (s.data.toList.drop k) = (if s[k] == c then [] else [s[k]]) ++ wo c (s.data.toList.drop (k + 1)) := by
  rw [drop_at h]
  unfold wo
  rw [List.filter_cons]
  by_cases hc : s[k] = c
  · rw [if_neg (by simp [hc]), if_pos (by simp [hc])]; rfl
  · rw [if_pos (by simp [hc]), if_neg (by simp [hc])]; rfl
set_option maxRecDepth 100000 in
set_option maxHeartbeats 4000000 in
theorem drop_any (s : ByteArray) (c : UInt8) (w : World) (hs : s.size ≤ 1000) :
    Calls Tryz.prog 39 #[.string s, .int .u8 c.toNat] w fun r w' => r = .returned (.string ⟨(wo c s.data.toList).toArray⟩) ∧ w = w' := by
  go_enter Tryz.func39, Tryz.ntmps39
  go_wp2
  go_loopg [5, 6] s.size (fun g s4 s5 wr => ∃ (k : Nat) (out : List UInt8), wr = w ∧ s4 = .string ⟨out.toArray⟩ ∧ s5 = .int .i64 k ∧ k ≤ s.size ∧ out.length ≤ k ∧ Aside (out ++ wo c (s.data.toList.drop k) = wo c s.data.toList) ∧ Aside (g = s.size - k))
  case atStart => exact ⟨0, [], rfl, rfl, rfl, by omega, by simp, by show _ = _; simp, by show _ = _; omega⟩
  case round =>
    obtain ⟨k, out, rfl, rfl, rfl, hk, ho, hG, hg⟩ := hrel
    have hG' := hG.out
    have hg' := hg.out
    clear hG hg
    by_cases hlt : k < s.size
    · have i1 : (k : Int) < s.size := by omega
      have i2 : (k : Int) + 1 ≤ s.size := by omega
      have T1 := wo_step c hlt
      by_cases hc : s[k] = c
      · rw [if_pos (by simp [hc]), List.nil_append] at T1
        rw [T1] at hG'
        have e1 : ((s[k].toNat : Int) == (c.toNat : Int)) = true := by rw [hc]; simp
        have e2 : ((s[k].toNat : Int) != (c.toNat : Int)) = false := by simp [bne, e1]
        have HG := Lib.hid hG'
        clear hG' T1 hc
        go_wp2
        go_roundg (s.size - (k + 1))
        case measure => omega
        case rel => exact ⟨k + 1, out, rfl, rfl, by go_num, by omega, by omega, HG.out, rfl⟩
      · rw [if_neg (by simp [hc])] at T1
        rw [T1] at hG'
        have e0 : ¬ ((s[k].toNat : Int) = (c.toNat : Int)) := fun e => hc (UInt8.toNat_inj.1 (by omega))
        have e1 : ((s[k].toNat : Int) == (c.toNat : Int)) = false := by simpa using e0
        have e2 : ((s[k].toNat : Int) != (c.toNat : Int)) = true := by simp [bne, e1]
        have HG := Lib.hid hG'
        clear hG' T1 hc
        go_wp2
        go_roundg (s.size - (k + 1))
        case measure => omega
        case rel => exact ⟨k + 1, out ++ [s[k]], rfl, by rw [cat_one out hlt], by go_num, by omega, by simp; omega, by show _ = _; rw [List.append_assoc]; exact HG.out, rfl⟩
    · have i1 : ¬ (k : Int) < s.size := by omega
      have hll : s.data.toList.length = s.size := by rw [Array.length_toList]; rfl
      rw [List.drop_eq_nil_of_le (by omega)] at hG'
      have e : out = wo c s.data.toList := by simpa [wo] using hG'
      subst e
      clear hG'
      go_wp2
      go_ret
      exact ⟨rfl, rfl⟩
end Go.Proofs.YtkpdpohnbnpelaaGreatDoor
