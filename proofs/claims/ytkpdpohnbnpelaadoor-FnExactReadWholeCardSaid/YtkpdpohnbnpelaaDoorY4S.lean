import Derived.Test.YtkpdpohnbnpelaaDoorY4
namespace Go.Proofs.YtkpdpohnbnpelaaDoor
open Go.RowKit
set_option maxHeartbeats 1000000 in
theorem ValueInS_any (s : ByteArray) (base : Int) (hs : s.size ≤ 9223372036854775807) (w : World) :
    Calls Tryd.prog 25 #[.string s, .int .i64 base] w fun r w' => r = .returned (.int .i64 (valW s base)) ∧ w = w' := by
  have k1 := fun W => inRangeS_any base 2 16 W
  by_cases hb : 2 ≤ base ∧ base ≤ 16
  · rw [show inr base 2 16 = true by simp [inr]; omega] at k1
    have k2 := fun W => valueInS_any s base hs hb W
    generalize valW s base = X at *
    have K1 := Lib.hid k1; have K2 := Lib.hid k2
    clear k1 k2
    go_enter Tryd.func25, Tryd.ntmps25
    go_wp2_with (first | (go_at_call 38; (with_reducible refine Calls.mono (K1.out _) ?_); rintro r w1 ⟨rfl, rfl⟩) | (go_at_call 61; (with_reducible refine Calls.mono (K2.out _) ?_); rintro r w1 ⟨rfl, rfl⟩))
    all_goals go_ret
    all_goals exact ⟨rfl, rfl⟩
  · rw [show inr base 2 16 = false by simp [inr]; omega] at k1
    have hv : valW s base = -1 := by
      unfold valW
      by_cases h0 : s.size = 0
      · rw [if_pos h0]
      · rw [if_neg h0]
        by_cases h : base < 2
        · rw [if_pos h]
        · rw [if_neg h, if_pos (by omega)]
    rw [hv]
    have K1 := Lib.hid k1
    clear k1 hv
    go_enter Tryd.func25, Tryd.ntmps25
    go_wp2_with (go_at_call 38; (with_reducible refine Calls.mono (K1.out _) ?_); rintro r w1 ⟨rfl, rfl⟩)
    all_goals go_ret
    all_goals exact ⟨rfl, rfl⟩

end Go.Proofs.YtkpdpohnbnpelaaDoor
