import Derived.Test.YtamlnbciejnbdaaGreatDoorC1
namespace Go.Proofs.YtamlnbciejnbdaaGreatDoor
open Go.RowKit

set_option maxHeartbeats 400000 in
theorem digits_any (n : Bool) (c e : Int) (w : World) (h1 : c ≤ 999999999) :
    Calls Tryz.prog 63 #[.agg #[.bool n, .int .i64 c, .int .i64 e]] w fun r w' => r = .returned (.int .i64 (Fd.dc c)) ∧ Below w.heap.size w w' := by
  have hd := Fd.dc_le9 h1
  go_enter Tryz.func63, Tryz.ntmps63
  go_wp2
  go_loopg [3, 4] (Fd.dc c).toNat (fun g s3 s4 wr => ∃ k x : Int, wr = w.alloc (.cells #[.bool n, .int .i64 c, .int .i64 e] 24) ∧ s3 = .int .i64 k ∧ s4 = .int .i64 x ∧ 0 ≤ k ∧ k ≤ 9 ∧ x ≤ 999999999 ∧ Aside (k + Fd.dc x = Fd.dc c) ∧ Aside (g = (Fd.dc x).toNat))
  case atStart => exact ⟨0, c, rfl, rfl, rfl, by omega, by omega, h1, by show (0 : Int) + _ = _; omega, rfl⟩
  case round =>
    obtain ⟨k, x, rfl, rfl, rfl, h2, h3, h4, h5, h6⟩ := hrel
    by_cases hgo : 0 < x
    · go_wp2
      have e5 := h5.out
      have e6 := h6.out
      have d1 := Fd.dc_pos hgo
      have d2 := Fd.dc_nonneg (x / 10)
      go_roundg (Fd.dc (x / 10)).toNat
      case measure => omega
      case rel => exact ⟨k + 1, x / 10, rfl, rfl, rfl, by omega, by omega, by omega, by show _ = _; omega, rfl⟩
    · go_wp2
      go_ret
      have e5 := h5.out
      rw [Fd.dc_zero (by omega)] at e5
      exact ⟨ret_int (by omega), (Below.refl _ _).alloc (Nat.le_refl _) _⟩

set_option maxHeartbeats 400000 in
theorem digitCount_any (c : Int) (w : World) (h1 : c ≤ 999999999) :
    Calls Tryz.prog 156 #[.int .i64 c] w fun r w' => r = .returned (.int .i64 (Fd.dc c)) ∧ w = w' := by
  have hd := Fd.dc_le9 h1
  go_enter Tryz.func156, Tryz.ntmps156
  go_wp2
  go_loopg [3, 0] (Fd.dc c).toNat (fun g s3 s4 wr => ∃ k x : Int, wr = w ∧ s3 = .int .i64 k ∧ s4 = .int .i64 x ∧ 0 ≤ k ∧ k ≤ 9 ∧ x ≤ 999999999 ∧ Aside (k + Fd.dc x = Fd.dc c) ∧ Aside (g = (Fd.dc x).toNat))
  case atStart => exact ⟨0, c, rfl, rfl, rfl, by omega, by omega, h1, by show (0 : Int) + _ = _; omega, rfl⟩
  case round =>
    obtain ⟨k, x, rfl, rfl, rfl, h2, h3, h4, h5, h6⟩ := hrel
    by_cases hgo : 0 < x
    · go_wp2
      have e5 := h5.out
      have e6 := h6.out
      have d1 := Fd.dc_pos hgo
      have d2 := Fd.dc_nonneg (x / 10)
      go_roundg (Fd.dc (x / 10)).toNat
      case measure => omega
      case rel => exact ⟨k + 1, x / 10, rfl, rfl, rfl, by omega, by omega, by omega, by show _ = _; omega, rfl⟩
    · go_wp2
      go_ret
      have e5 := h5.out
      rw [Fd.dc_zero (by omega)] at e5
      exact ⟨ret_int (by omega), rfl⟩

set_option maxHeartbeats 400000 in
theorem power_any (n : Int) (w : World) (h0 : 0 ≤ n) (h1 : n ≤ 18) :
    Calls Tryz.prog 142 #[.int .i64 n] w fun r w' => r = .returned (.int .i64 (Fd.p10 n)) ∧ w = w' := by
  go_enter Tryz.func142, Tryz.ntmps142
  go_wp2
  go_loopg [3, 4] n.toNat (fun g s3 s4 wr => ∃ k x : Int, wr = w ∧ s3 = .int .i64 x ∧ s4 = .int .i64 k ∧ 0 ≤ k ∧ k ≤ n ∧ 0 ≤ x ∧ x ≤ 1000000000000000000 ∧ Aside (x = Fd.p10 k) ∧ Aside (g = (n - k).toNat))
  case atStart => exact ⟨0, 1, rfl, rfl, rfl, by omega, by omega, by omega, by omega, rfl, by show _ = _; omega⟩
  case round =>
    obtain ⟨k, x, rfl, rfl, rfl, h2, h3, h4, h4', h5, h6⟩ := hrel
    by_cases hgo : k < n
    · have hx : x * 10 ≤ 1000000000000000000 := by
        have := Fd.p10_le18 (k := k + 1) (by omega) (by omega)
        rw [Fd.p10_succ h2, ← h5.out] at this; omega
      go_wp2
      have e5 := h5.out
      have e6 := h6.out
      go_roundg (n - (k + 1)).toNat
      case measure => omega
      case rel => exact ⟨k + 1, x * 10, rfl, rfl, rfl, by omega, by omega, by omega, by omega, by show _ = _; rw [Fd.p10_succ h2, ← e5]; omega, rfl⟩
    · go_wp2
      go_ret
      have e5 := h5.out
      exact ⟨ret_int (by rw [e5]; congr 1; omega), rfl⟩

/-- the array of powers when k of them are laid -/
def pc : Nat → Array Value
  | 0 => #[.int .i64 0, .int .i64 0, .int .i64 0, .int .i64 0, .int .i64 0, .int .i64 0, .int .i64 0, .int .i64 0, .int .i64 0, .int .i64 0]
  | 1 => #[.int .i64 1, .int .i64 0, .int .i64 0, .int .i64 0, .int .i64 0, .int .i64 0, .int .i64 0, .int .i64 0, .int .i64 0, .int .i64 0]
  | 2 => #[.int .i64 1, .int .i64 10, .int .i64 0, .int .i64 0, .int .i64 0, .int .i64 0, .int .i64 0, .int .i64 0, .int .i64 0, .int .i64 0]
  | 3 => #[.int .i64 1, .int .i64 10, .int .i64 100, .int .i64 0, .int .i64 0, .int .i64 0, .int .i64 0, .int .i64 0, .int .i64 0, .int .i64 0]
  | 4 => #[.int .i64 1, .int .i64 10, .int .i64 100, .int .i64 1000, .int .i64 0, .int .i64 0, .int .i64 0, .int .i64 0, .int .i64 0, .int .i64 0]
  | 5 => #[.int .i64 1, .int .i64 10, .int .i64 100, .int .i64 1000, .int .i64 10000, .int .i64 0, .int .i64 0, .int .i64 0, .int .i64 0, .int .i64 0]
  | 6 => #[.int .i64 1, .int .i64 10, .int .i64 100, .int .i64 1000, .int .i64 10000, .int .i64 100000, .int .i64 0, .int .i64 0, .int .i64 0, .int .i64 0]
  | 7 => #[.int .i64 1, .int .i64 10, .int .i64 100, .int .i64 1000, .int .i64 10000, .int .i64 100000, .int .i64 1000000, .int .i64 0, .int .i64 0, .int .i64 0]
  | 8 => #[.int .i64 1, .int .i64 10, .int .i64 100, .int .i64 1000, .int .i64 10000, .int .i64 100000, .int .i64 1000000, .int .i64 10000000, .int .i64 0, .int .i64 0]
  | 9 => #[.int .i64 1, .int .i64 10, .int .i64 100, .int .i64 1000, .int .i64 10000, .int .i64 100000, .int .i64 1000000, .int .i64 10000000, .int .i64 100000000, .int .i64 0]
  | _ => #[.int .i64 1, .int .i64 10, .int .i64 100, .int .i64 1000, .int .i64 10000, .int .i64 100000, .int .i64 1000000, .int .i64 10000000, .int .i64 100000000, .int .i64 1000000000]
set_option maxHeartbeats 4000000 in
theorem powers_any (w : World) :
    Calls Tryz.prog 106 #[] w fun r w' => r = .returned (.agg #[.int .i64 1, .int .i64 10, .int .i64 100, .int .i64 1000, .int .i64 10000, .int .i64 100000, .int .i64 1000000, .int .i64 10000000, .int .i64 100000000, .int .i64 1000000000]) ∧ Below w.heap.size w w' := by
  go_enter Tryz.func106, Tryz.ntmps106
  go_wp2
  go_loopg [2, 4] 10 (fun g s2 s4 wr => ∃ (k : Nat) (x : Int) (C : Array Value), wr = (w.alloc (.cells #[.int .i64 0, .int .i64 0, .int .i64 0, .int .i64 0, .int .i64 0, .int .i64 0, .int .i64 0, .int .i64 0, .int .i64 0, .int .i64 0] 116)).alloc (.cells C 116) ∧ s4 = .int .i64 k ∧ s2 = .int .i64 x ∧ k ≤ 10 ∧ Aside (C = pc k ∧ x = (10 : Int) ^ k ∧ g = 10 - k))
  case atStart => exact ⟨0, 1, _, rfl, rfl, rfl, by omega, rfl, rfl, rfl⟩
  case round =>
    obtain ⟨k, x, C, rfl, rfl, rfl, hk, hA⟩ := hrel
    have hcase : k = 0 ∨ k = 1 ∨ k = 2 ∨ k = 3 ∨ k = 4 ∨ k = 5 ∨ k = 6 ∨ k = 7 ∨ k = 8 ∨ k = 9 ∨ k = 10 := by omega
    obtain ⟨e1, e2, e3⟩ := hA.out
    clear hA hk
    rcases hcase with rfl | rfl | rfl | rfl | rfl | rfl | rfl | rfl | rfl | rfl | rfl
    · obtain rfl : C = #[.int .i64 0, .int .i64 0, .int .i64 0, .int .i64 0, .int .i64 0, .int .i64 0, .int .i64 0, .int .i64 0, .int .i64 0, .int .i64 0] := e1
      obtain rfl : x = 1 := e2
      have E3 := Lib.hid e3
      clear e3
      go_wp2
      go_roundg (10 - 1)
      case measure => have := E3.out; omega
      case rel => exact ⟨1, 10, _, rfl, rfl, rfl, by omega, rfl, rfl, rfl⟩
    · obtain rfl : C = #[.int .i64 1, .int .i64 0, .int .i64 0, .int .i64 0, .int .i64 0, .int .i64 0, .int .i64 0, .int .i64 0, .int .i64 0, .int .i64 0] := e1
      obtain rfl : x = 10 := e2
      have E3 := Lib.hid e3
      clear e3
      go_wp2
      go_roundg (10 - 2)
      case measure => have := E3.out; omega
      case rel => exact ⟨2, 100, _, rfl, rfl, rfl, by omega, rfl, rfl, rfl⟩
    · obtain rfl : C = #[.int .i64 1, .int .i64 10, .int .i64 0, .int .i64 0, .int .i64 0, .int .i64 0, .int .i64 0, .int .i64 0, .int .i64 0, .int .i64 0] := e1
      obtain rfl : x = 100 := e2
      have E3 := Lib.hid e3
      clear e3
      go_wp2
      go_roundg (10 - 3)
      case measure => have := E3.out; omega
      case rel => exact ⟨3, 1000, _, rfl, rfl, rfl, by omega, rfl, rfl, rfl⟩
    · obtain rfl : C = #[.int .i64 1, .int .i64 10, .int .i64 100, .int .i64 0, .int .i64 0, .int .i64 0, .int .i64 0, .int .i64 0, .int .i64 0, .int .i64 0] := e1
      obtain rfl : x = 1000 := e2
      have E3 := Lib.hid e3
      clear e3
      go_wp2
      go_roundg (10 - 4)
      case measure => have := E3.out; omega
      case rel => exact ⟨4, 10000, _, rfl, rfl, rfl, by omega, rfl, rfl, rfl⟩
    · obtain rfl : C = #[.int .i64 1, .int .i64 10, .int .i64 100, .int .i64 1000, .int .i64 0, .int .i64 0, .int .i64 0, .int .i64 0, .int .i64 0, .int .i64 0] := e1
      obtain rfl : x = 10000 := e2
      have E3 := Lib.hid e3
      clear e3
      go_wp2
      go_roundg (10 - 5)
      case measure => have := E3.out; omega
      case rel => exact ⟨5, 100000, _, rfl, rfl, rfl, by omega, rfl, rfl, rfl⟩
    · obtain rfl : C = #[.int .i64 1, .int .i64 10, .int .i64 100, .int .i64 1000, .int .i64 10000, .int .i64 0, .int .i64 0, .int .i64 0, .int .i64 0, .int .i64 0] := e1
      obtain rfl : x = 100000 := e2
      have E3 := Lib.hid e3
      clear e3
      go_wp2
      go_roundg (10 - 6)
      case measure => have := E3.out; omega
      case rel => exact ⟨6, 1000000, _, rfl, rfl, rfl, by omega, rfl, rfl, rfl⟩
    · obtain rfl : C = #[.int .i64 1, .int .i64 10, .int .i64 100, .int .i64 1000, .int .i64 10000, .int .i64 100000, .int .i64 0, .int .i64 0, .int .i64 0, .int .i64 0] := e1
      obtain rfl : x = 1000000 := e2
      have E3 := Lib.hid e3
      clear e3
      go_wp2
      go_roundg (10 - 7)
      case measure => have := E3.out; omega
      case rel => exact ⟨7, 10000000, _, rfl, rfl, rfl, by omega, rfl, rfl, rfl⟩
    · obtain rfl : C = #[.int .i64 1, .int .i64 10, .int .i64 100, .int .i64 1000, .int .i64 10000, .int .i64 100000, .int .i64 1000000, .int .i64 0, .int .i64 0, .int .i64 0] := e1
      obtain rfl : x = 10000000 := e2
      have E3 := Lib.hid e3
      clear e3
      go_wp2
      go_roundg (10 - 8)
      case measure => have := E3.out; omega
      case rel => exact ⟨8, 100000000, _, rfl, rfl, rfl, by omega, rfl, rfl, rfl⟩
    · obtain rfl : C = #[.int .i64 1, .int .i64 10, .int .i64 100, .int .i64 1000, .int .i64 10000, .int .i64 100000, .int .i64 1000000, .int .i64 10000000, .int .i64 0, .int .i64 0] := e1
      obtain rfl : x = 100000000 := e2
      have E3 := Lib.hid e3
      clear e3
      go_wp2
      go_roundg (10 - 9)
      case measure => have := E3.out; omega
      case rel => exact ⟨9, 1000000000, _, rfl, rfl, rfl, by omega, rfl, rfl, rfl⟩
    · obtain rfl : C = #[.int .i64 1, .int .i64 10, .int .i64 100, .int .i64 1000, .int .i64 10000, .int .i64 100000, .int .i64 1000000, .int .i64 10000000, .int .i64 100000000, .int .i64 0] := e1
      obtain rfl : x = 1000000000 := e2
      have E3 := Lib.hid e3
      clear e3
      go_wp2
      go_roundg (10 - 10)
      case measure => have := E3.out; omega
      case rel => exact ⟨10, 10000000000, _, rfl, rfl, rfl, by omega, rfl, rfl, rfl⟩
    · obtain rfl : C = #[.int .i64 1, .int .i64 10, .int .i64 100, .int .i64 1000, .int .i64 10000, .int .i64 100000, .int .i64 1000000, .int .i64 10000000, .int .i64 100000000, .int .i64 1000000000] := e1
      obtain rfl : x = 10000000000 := e2
      clear e3
      go_wp2
      exact bodyPost_ret (v := .agg #[.int .i64 1, .int .i64 10, .int .i64 100, .int .i64 1000, .int .i64 10000, .int .i64 100000, .int .i64 1000000, .int .i64 10000000, .int .i64 100000000, .int .i64 1000000000]) (by simp [results, Tryz.results106, go_sem]) rfl ⟨rfl, ((Below.refl _ _).alloc (Nat.le_refl _) _).alloc (by simp) _⟩
end Go.Proofs.YtamlnbciejnbdaaGreatDoor
