import Derived.Test.YtkpdpohnbnpelaaGreatDoorN12
import Derived.Test.YtkpdpohnbnpelaaGreatDoorN13
import Derived.Lib.AppendIntMem
namespace Go.Proofs.YtkpdpohnbnpelaaGreatDoor
open Go.RowKit
/-- the tables that numbers are written by -/
structure DT (w : World) : Prop where
  tz : TzTab w
  p10 : Lib.TabIs Tryz.prog w "internal/strconv.uint64pow10" .u64 Lib.pow10Tab
theorem DT.on {w w1 : World} (h : DT w) (hb : Below w.heap.size w w1) : DT w1 := ⟨h.tz.on hb, Lib.tabBelow_of_tabIs h.p10 w1 hb⟩
theorem DT.of {W w w1 : World} (h : DT W) (hw : Below W.heap.size W w) (hb : Below w.heap.size w w1) : DT w1 := (h.on hw).on hb
def digW (n base : Int) : ByteArray := if 0 ≤ n ∧ n ≤ 999999999999 ∧ 2 ≤ base ∧ base ≤ 16 then ⟨(digs false base.toNat n.toNat).toArray⟩ else ⟨#[]⟩
theorem digW_yes {n b : Nat} (h1 : n ≤ 999999999999) (h2 : 2 ≤ b) (h3 : b ≤ 16) : digW n b = ⟨(digs false b n).toArray⟩ := by unfold digW; rw [if_pos (by omega)]; rfl
theorem digW_no {n base : Int} (h : ¬ (0 ≤ n ∧ n ≤ 999999999999 ∧ 2 ≤ base ∧ base ≤ 16)) : digW n base = ⟨#[]⟩ := if_neg h
set_option maxRecDepth 100000 in
set_option maxHeartbeats 2000000 in
theorem formatBits_any (b n : Nat) (h2 : 2 ≤ b) (h16 : b ≤ 16) (h10 : b ≠ 10) (hn : n ≤ 999999999999) (w : World) (hT : TzTab w) :
    Calls Tryz.prog 121 #[.slice none 0 0, .int .u64 n, .int .i64 b, .bool false, .bool false] w fun r w' => r = .returned (.tuple #[.slice none 0 0, .string ⟨(digs false b n).toArray⟩]) ∧ Below w.heap.size w w' := by
  by_cases h : b = 3 ∨ b = 5 ∨ b = 6 ∨ b = 7 ∨ b = 9 ∨ b = 11 ∨ b = 12 ∨ b = 13 ∨ b = 14 ∨ b = 15
  · exact formatBits_odd b n h hn w
  · have hb : b = 2 ∨ b = 4 ∨ b = 8 ∨ b = 16 := by omega
    rcases hb with rfl | rfl | rfl | rfl
    · exact formatBits_2 n hn w hT
    · exact formatBits_4 n hn w hT
    · exact formatBits_8 n hn w hT
    · exact formatBits_16 n hn w hT
set_option maxRecDepth 100000 in
set_option maxHeartbeats 2000000 in
theorem FormatInt_any (b n : Nat) (h2 : 2 ≤ b) (h16 : b ≤ 16) (hn : n ≤ 999999999999) (w : World) (hT : DT w) :
    Calls Tryz.prog 91 #[.int .i64 n, .int .i64 b] w fun r w' => r = .returned (.string ⟨(digs false b n).toArray⟩) ∧ Below w.heap.size w w' := by
  by_cases h10 : b = 10
  · subst h10
    have h := Tryz.strconv_FormatInt_10 (n : Int) (by omega) (by omega) w hT.p10
    have e : Lib.itoa (n : Int) = digs false 10 n := by
      unfold Lib.itoa
      rw [if_neg (by omega)]
      exact decDigits_digs n n (Nat.le_refl _)
    rw [e] at h
    exact h.mono (by rintro r w1 ⟨rfl, k, os, rfl⟩; exact ⟨rfl, Lib.below_grow _ _ (Nat.le_refl _) _ _⟩)
  · have k1 := formatBits_any b n h2 h16 h10 hn w hT.tz
    have i1 : ((b : Int) == 10) = false := by simp; omega
    have i2 : ¬ (b : Int) = 10 := by omega
    have i3 : ¬ b = 10 := h10
    have i4 : ¬ (n : Int) < 0 := by omega
    have i5 : IntKind.u64.wrap (n : Int) = n := u64_in (by omega) (by omega)
    have K1 := Lib.hid k1
    clear k1
    have k2 : Calls Tryz.prog 105 #[.int .i64 n, .int .i64 b] w fun r w' => r = .returned (.string ⟨(digs false b n).toArray⟩) ∧ Below w.heap.size w w' := by
      go_enter Tryz.func105, Tryz.ntmps105
      go_wp2_with (go_at_call 121; (with_reducible refine Calls.mono K1.out ?_); rintro r w1 ⟨rfl, hb⟩)
      go_ret
      exact ⟨rfl, hb⟩
    have K2 := Lib.hid k2
    clear k2
    go_enter Tryz.func91, Tryz.ntmps91
    go_wp2_with (go_at_call 105; (with_reducible refine Calls.mono K2.out ?_); rintro r w1 ⟨rfl, hb⟩)
    go_ret
    exact ⟨rfl, hb⟩
set_option maxRecDepth 100000 in
set_option maxHeartbeats 2000000 in
theorem DigitsIn_any (n base : Int) (w : World) (hT : DT w) :
    Calls Tryz.prog 61 #[.int .i64 n, .int .i64 base] w fun r w' => r = .returned (.string (digW n base)) ∧ Below w.heap.size w w' := by
  have k1 := fun W => within_any n 0 999999999999 W
  have k2 := fun W => within_any base 2 16 W
  by_cases h1 : 0 ≤ n ∧ n ≤ 999999999999
  · rw [show inr n 0 999999999999 = true by simp [inr]; omega] at k1
    by_cases h2 : 2 ≤ base ∧ base ≤ 16
    · rw [show inr base 2 16 = true by simp [inr]; omega] at k2
      obtain ⟨n, rfl⟩ := Int.eq_ofNat_of_zero_le h1.1
      obtain ⟨b, rfl⟩ := Int.eq_ofNat_of_zero_le (show 0 ≤ base by omega)
      rw [digW_yes (by omega) (by omega) (by omega)]
      have k3 := FormatInt_any b n (by omega) (by omega) (by omega) w hT
      have K1 := Lib.hid k1; have K2 := Lib.hid k2; have K3 := Lib.hid k3
      clear k1 k2 k3 hT
      go_enter Tryz.func61, Tryz.ntmps61
      go_wp2_with (first | (go_at_call 19; (with_reducible refine Calls.mono (K1.out _) ?_); rintro r w1 ⟨rfl, rfl⟩) | (go_at_call 19; (with_reducible refine Calls.mono (K2.out _) ?_); rintro r w1 ⟨rfl, rfl⟩) | (go_at_call 91; (with_reducible refine Calls.mono K3.out ?_); rintro r w1 ⟨rfl, hb⟩))
      go_ret
      exact ⟨rfl, hb⟩
    · rw [show inr base 2 16 = false by simp [inr]; omega] at k2
      rw [digW_no (by omega)]
      have K1 := Lib.hid k1; have K2 := Lib.hid k2
      clear k1 k2 hT
      go_enter Tryz.func61, Tryz.ntmps61
      go_wp2_with (first | (go_at_call 19; (with_reducible refine Calls.mono (K1.out _) ?_); rintro r w1 ⟨rfl, rfl⟩) | (go_at_call 19; (with_reducible refine Calls.mono (K2.out _) ?_); rintro r w1 ⟨rfl, rfl⟩))
      all_goals go_ret
      all_goals exact ⟨rfl, (by repeat (first | with_reducible exact Below.refl _ _ | with_reducible assumption | with_reducible refine Below.setCell ?_ (by first | omega | (simp; done) | (simp <;> omega)) _ | with_reducible refine below_drewN ?_ _ | with_reducible refine Below.drew ?_ | with_reducible refine Below.alloc ?_ (by first | omega | (simp; done) | (simp <;> omega)) _))⟩
  · rw [show inr n 0 999999999999 = false by simp [inr]; omega] at k1
    rw [digW_no (by omega)]
    have K1 := Lib.hid k1
    clear k1 k2 hT
    go_enter Tryz.func61, Tryz.ntmps61
    go_wp2_with (go_at_call 19; (with_reducible refine Calls.mono (K1.out _) ?_); rintro r w1 ⟨rfl, rfl⟩)
    all_goals go_ret
    all_goals exact ⟨rfl, (by repeat (first | with_reducible exact Below.refl _ _ | with_reducible assumption | with_reducible refine Below.setCell ?_ (by first | omega | (simp; done) | (simp <;> omega)) _ | with_reducible refine below_drewN ?_ _ | with_reducible refine Below.drew ?_ | with_reducible refine Below.alloc ?_ (by first | omega | (simp; done) | (simp <;> omega)) _))⟩
end Go.Proofs.YtkpdpohnbnpelaaGreatDoor
