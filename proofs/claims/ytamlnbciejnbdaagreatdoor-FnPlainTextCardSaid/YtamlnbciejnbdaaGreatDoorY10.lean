import Derived.Test.YtamlnbciejnbdaaGreatDoorY8
import Derived.Test.YtamlnbciejnbdaaGreatDoorY9
namespace Go.Proofs.YtamlnbciejnbdaaGreatDoor
open Go.RowKit

theorem grp_none (n : Nat) (sep : List UInt8) : grp n sep [] = [] := rfl
set_option maxRecDepth 100000 in
set_option maxHeartbeats 4000000 in
theorem GroupDigits_any (s : ByteArray) (n : Int) (sep : ByteArray) (w : World) (hs : s.size ≤ 9223372036854775807) (_hsep : sep.size ≤ 9223372036854775807) :
    Calls Tryz.prog 123 #[.string s, .int .i64 n, .string sep] w fun r w' => r = .returned (.string (grpW s n sep)) ∧ Below w.heap.size w w' := by
  by_cases h : s.size ≤ 80 ∧ 1 ≤ n ∧ n ≤ 9 ∧ sep.size = 1
  · obtain ⟨h1, h2, h3, h4⟩ := h
    obtain ⟨m, rfl⟩ := Int.eq_ofNat_of_zero_le (show 0 ≤ n by omega)
    rw [grpW_yes ⟨h1, by omega, by omega, h4⟩]
    by_cases h0 : s.size = 0
    · rw [size_zero h0]
      exact GroupDigits_none m sep w (by omega) (by omega) h4
    · exact GroupDigits_some s m sep w h1 (by omega) (by omega) (by omega) h4
  · rw [grpW_no h]
    have k1 := fun W => within_any n 1 9 W
    by_cases h1 : s.size ≤ 80
    · have i1 : (s.size : Int) ≤ 80 := by omega
      by_cases h2 : 1 ≤ n ∧ n ≤ 9
      · have h4 : ¬ sep.size = 1 := fun e => h ⟨h1, h2.1, h2.2, e⟩
        have i4 : ((sep.size : Int) == 1) = false := by simp; omega
        have i5 : ¬ (sep.size : Int) = 1 := by omega
        have i6 : ((sep.size : Int) != 1) = true := by simp; omega
        rw [show inr n 1 9 = true by simp [inr]; omega] at k1
        have K1 := Lib.hid k1
        clear k1 h
        go_enter Tryz.func123, Tryz.ntmps123
        go_wp2_with (go_at_call 42; (with_reducible refine Calls.mono (K1.out _) ?_); rintro r w1 ⟨rfl, rfl⟩)
        all_goals go_ret
        all_goals exact ⟨rfl, (by repeat (first | with_reducible exact Below.refl _ _ | with_reducible assumption | with_reducible refine Below.setCell ?_ (by first | omega | (simp; done) | (simp <;> omega)) _ | with_reducible refine below_drewN ?_ _ | with_reducible refine Below.drew ?_ | with_reducible refine Below.alloc ?_ (by first | omega | (simp; done) | (simp <;> omega)) _))⟩
      · rw [show inr n 1 9 = false by simp [inr]; omega] at k1
        have K1 := Lib.hid k1
        clear k1 h
        go_enter Tryz.func123, Tryz.ntmps123
        go_wp2_with (go_at_call 42; (with_reducible refine Calls.mono (K1.out _) ?_); rintro r w1 ⟨rfl, rfl⟩)
        all_goals go_ret
        all_goals exact ⟨rfl, (by repeat (first | with_reducible exact Below.refl _ _ | with_reducible assumption | with_reducible refine Below.setCell ?_ (by first | omega | (simp; done) | (simp <;> omega)) _ | with_reducible refine below_drewN ?_ _ | with_reducible refine Below.drew ?_ | with_reducible refine Below.alloc ?_ (by first | omega | (simp; done) | (simp <;> omega)) _))⟩
    · have i1 : (80 : Int) < s.size := by omega
      clear h
      go_enter Tryz.func123, Tryz.ntmps123
      go_wp2
      all_goals go_ret
      all_goals exact ⟨rfl, (by repeat (first | with_reducible exact Below.refl _ _ | with_reducible assumption | with_reducible refine Below.setCell ?_ (by first | omega | (simp; done) | (simp <;> omega)) _ | with_reducible refine below_drewN ?_ _ | with_reducible refine Below.drew ?_ | with_reducible refine Below.alloc ?_ (by first | omega | (simp; done) | (simp <;> omega)) _))⟩
end Go.Proofs.YtamlnbciejnbdaaGreatDoor
