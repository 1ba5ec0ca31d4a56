import Derived.Test.YtebheehjhnaklaaGreatDoorC3T
import Derived.Test.YtebheehjhnaklaaGreatDoorPl2
import Derived.WalkKit
import Derived.WalkSpells
import Derived.WalkLawsBesides
import Derived.BigQuiet
import Derived.Deep.QuietTactic
import Derived.Deep.LoopGhost
import Derived.Lib.Hide
import Derived.Deep.RegionHeld3
import Derived.RegionTactic
import Derived.IntWalk
namespace Go.Proofs.YtebheehjhnaklaaGreatDoor
open Go.RowKit
theorem bcell {W w1 : World} (hb : Below W.heap.size W w1) : (∀ b o, b < W.heap.size → w1.cell? ⟨b, o, none⟩ = W.cell? ⟨b, o, none⟩) ∧ (∀ b o, b < W.heap.size → w1.frozen? ⟨b, o, none⟩ = W.frozen? ⟨b, o, none⟩) :=
  ⟨fun b o h => hb.cell (p := ⟨b, o, none⟩) h, fun b o h => hb.frozen (p := ⟨b, o, none⟩) h⟩
set_option maxHeartbeats 400000 in
theorem inRange_any (n lo hi : Int) (w : World) :
    Calls Tryz.prog 48 #[.int .i64 n, .int .i64 lo, .int .i64 hi] w fun r w' => r = .returned (.bool (Fd.inr n lo hi)) ∧ w = w' := by
  go_enter Tryz.func48, Tryz.ntmps48
  go_wp2
  all_goals go_ret
  all_goals exact ⟨ret_bool (by simp [Fd.inr]; try omega), rfl⟩
set_option maxHeartbeats 400000 in
theorem valid_any (n : Bool) (c e : Int) (w : World) :
    Calls Tryz.prog 59 #[.agg #[.bool n, .int .i64 c, .int .i64 e]] w fun r w' => r = .returned (.bool (Fd.vld ⟨n, c, e⟩)) ∧ Below w.heap.size w w' := by
  go_enter Tryz.func59, Tryz.ntmps59
  go_wp2
  all_goals go_ret
  all_goals refine ⟨ret_bool ?_, (Below.refl _ _).alloc (Nat.le_refl _) _⟩
  all_goals (rw [Bool.eq_iff_iff]; cases n <;> simp [Fd.vld, Fd.vldP] <;> omega)
set_option maxHeartbeats 400000 in
theorem validS_any (n : Bool) (c e : Int) (w : World) :
    Calls Tryz.prog 47 #[.agg #[.bool n, .int .i64 c, .int .i64 e]] w fun r w' => r = .returned (.bool (Fd.vld ⟨n, c, e⟩)) ∧ Below w.heap.size w w' := by
  go_enter Tryz.func47, Tryz.ntmps47
  go_wp2_with (go_at_call 48; refine (inRange_any _ _ _ _).mono ?_; rintro r w' ⟨rfl, rfl⟩)
  all_goals go_ret
  all_goals refine ⟨ret_bool ?_, (Below.refl _ _).alloc (Nat.le_refl _) _⟩
  all_goals (rw [Bool.eq_iff_iff]; simp only [Fd.inr, Bool.and_eq_true, decide_eq_true_eq] at *; cases n <;> simp [Fd.vld, Fd.vldP] <;> first | omega | simp_all)
end Go.Proofs.YtebheehjhnaklaaGreatDoor
namespace Go.Proofs.YtebheehjhnaklaaGreatDoor
open Go.RowKit
set_option maxHeartbeats 1000000 in
theorem fitted_any (n : Bool) (c e : Int) (w : World) (h0 : 0 ≤ c) (h1 : c ≤ 2000000000000000000) (h2 : -24 ≤ e) (h3 : e ≤ 24) :
    Calls Tryz.prog 58 #[.agg #[.bool n, .int .i64 c, .int .i64 e]] w fun r w' =>
      r = .returned (.tuple #[.agg #[.bool (Fd.fit1 ⟨n, c, e⟩).1.n, .int .i64 (Fd.fit1 ⟨n, c, e⟩).1.c, .int .i64 (Fd.fit1 ⟨n, c, e⟩).1.e], .bool (Fd.fit1 ⟨n, c, e⟩).2]) ∧ Below w.heap.size w w' := by
  by_cases hz : c = 0
  · subst hz
    rw [Fd.fit_cz]
    go_enter Tryz.func58, Tryz.ntmps58
    go_wp2
    exact bodyPost_ret (v := .tuple #[.agg #[.bool false, .int .i64 0, .int .i64 0], .bool true]) (by simp [results, Tryz.results58, go_sem]) rfl ⟨rfl, ((Below.refl _ _).alloc (Nat.le_refl _) _).alloc (by simp) _⟩
  · have hzb : (c == 0) = false := by simpa using hz
    go_enter Tryz.func58, Tryz.ntmps58
    go_wp2
    go_loopg [16] (12 - e).toNat (fun g _ wr => ∃ c' e' : Int, wr = (w.alloc (.cells #[.bool n, .int .i64 c', .int .i64 e'] 24)).alloc (.cells #[.bool false, .int .i64 0, .int .i64 0] 24) ∧ 0 < c' ∧ c' ≤ c ∧ e ≤ e' ∧ (e' ≤ 24) ∧ g = (12 - e').toNat ∧ Aside (Fd.strip1 c' e' = Fd.strip1 c e))
    case atStart => exact ⟨c, e, rfl, by omega, by omega, by omega, by omega, rfl, rfl⟩
    case round =>
      obtain ⟨c', e', rfl, r1, r2, r3, r4, rfl, r5⟩ := hrel
      by_cases hgo : e' < 12 ∧ c' % 10 = 0
      · obtain ⟨g1, g2⟩ := hgo
        have g2b : (c' % 10 == 0) = true := by simpa using g2
        have G2 := Lib.hid g2
        clear g2
        go_wp2
        go_roundg (12 - (e' + 1)).toNat
        case measure => omega
        case rel => exact ⟨c' / 10, e' + 1, rfl, by have := G2.out; omega, by omega, by omega, by omega, rfl, by rw [← r5.out, ← Fd.strip1_yes r1 g1 G2.out]; exact rfl⟩
      · have R5 : Aside (Fd.strip1 c e = (c', e')) := by rw [← r5.out, Fd.strip1_no (by omega)]; exact rfl
        have hcase : (e' < 12 ∧ (c' % 10 == 0) = false) ∨ 12 ≤ e' := by
          by_cases g1 : e' < 12
          · left; exact ⟨g1, by simp; omega⟩
          · right; omega
        clear hgo r5
        rcases hcase with ⟨g1, g2b⟩ | g1
        all_goals
          go_wp2
          go_loopg [32] e'.toNat (fun g _ wr => ∃ c2 e2 : Int, wr = (w.alloc (.cells #[.bool n, .int .i64 c2, .int .i64 e2] 24)).alloc (.cells #[.bool false, .int .i64 0, .int .i64 0] 24) ∧ 0 < c2 ∧ c2 ≤ 2000000000000000000 ∧ -24 ≤ e2 ∧ e2 ≤ 24 ∧ g = e2.toNat ∧ Aside (Fd.grow1 c2 e2 = Fd.grow1 c' e'))
          case atStart => exact ⟨c', e', rfl, by omega, by omega, by omega, by omega, rfl, rfl⟩
          case round =>
            obtain ⟨c2, e2, rfl, q1, q2, q3, q4, rfl, q5⟩ := hrel
            by_cases hgo : 12 < e2 ∧ c2 ≤ 999999999
            · obtain ⟨g3, g4⟩ := hgo
              go_wp2
              go_roundg (e2 - 1).toNat
              case measure => omega
              case rel => exact ⟨c2 * 10, e2 - 1, rfl, by omega, by omega, by omega, by omega, rfl, by rw [← q5.out, ← Fd.grow1_yes g3 g4]; exact rfl⟩
            · have Q5 := Lib.hid (Fd.fit1_of (n := n) hz R5.out (q5.out.symm.trans (Fd.grow1_no hgo)))
              clear q5
              have hcase : (12 < e2 ∧ 999999999 < c2) ∨ e2 ≤ 12 := by omega
              clear hgo
              have HV : (Fd.vld ⟨n, c2, e2⟩ = false ∧ Hid (Fd.fit1 ⟨n, c, e⟩ = (Fd.D.z, false))) ∨ (Fd.vld ⟨n, c2, e2⟩ = true ∧ Hid (Fd.fit1 ⟨n, c, e⟩ = (⟨n, c2, e2⟩, true))) := by
                cases hv : Fd.vld ⟨n, c2, e2⟩
                · left; exact ⟨rfl, Lib.hid (by rw [Q5.out, hv]; rfl)⟩
                · right; exact ⟨rfl, Lib.hid (by rw [Q5.out, hv]; rfl)⟩
              rcases HV with ⟨hv, HV⟩ | ⟨hv, HV⟩
              · rcases hcase with ⟨g3, g4⟩ | g3
                all_goals
                  go_wp2_with (go_at_call 59; refine (valid_any _ _ _ _).mono ?_; rintro r w1 ⟨rfl, hb⟩; obtain ⟨hc, hf⟩ := bcell hb)
                  exact bodyPost_ret (v := .tuple #[.agg #[.bool false, .int .i64 0, .int .i64 0], .bool false]) (by simp [results, Tryz.results58, go_sem, hc]) rfl
                    ⟨by rw [HV.out]; rfl, (((((Below.refl _ _).alloc (Nat.le_refl _) _).alloc (by simp) _).trans (hb.mono (by simp; omega))).setCell (by simp) _ |>.setCell (by simp) _).setCell (by simp) _⟩
              · rcases hcase with ⟨g3, g4⟩ | g3
                all_goals
                  go_wp2_with (go_at_call 59; refine (valid_any _ _ _ _).mono ?_; rintro r w1 ⟨rfl, hb⟩; obtain ⟨hc, hf⟩ := bcell hb)
                  exact bodyPost_ret (v := .tuple #[.agg #[.bool n, .int .i64 c2, .int .i64 e2], .bool true]) (by simp [results, Tryz.results58, go_sem, hc]) rfl
                    ⟨by rw [HV.out], (((((Below.refl _ _).alloc (Nat.le_refl _) _).alloc (by simp) _).trans (hb.mono (by simp; omega))).setCell (by simp) _ |>.setCell (by simp) _).setCell (by simp) _⟩
end Go.Proofs.YtebheehjhnaklaaGreatDoor
namespace Go.Proofs.YtebheehjhnaklaaGreatDoor
open Go.RowKit
set_option maxHeartbeats 400000 in
theorem digits_any (n : Bool) (c e : Int) (w : World) (h1 : c ≤ 999999999) :
    Calls Tryz.prog 61 #[.agg #[.bool n, .int .i64 c, .int .i64 e]] w fun r w' => r = .returned (.int .i64 (Fd.dc c)) ∧ Below w.heap.size w w' := by
  have hd := Fd.dc_le9 h1
  go_enter Tryz.func61, Tryz.ntmps61
  go_wp2
  go_loopg [3, 4] (Fd.dc c).toNat (fun g s3 s4 wr => ∃ k x : Int, wr = w.alloc (.cells #[.bool n, .int .i64 c, .int .i64 e] 24) ∧ s3 = .int .i64 k ∧ s4 = .int .i64 x ∧ 0 ≤ k ∧ k ≤ 9 ∧ x ≤ 999999999 ∧ Aside (k + Fd.dc x = Fd.dc c) ∧ Aside (g = (Fd.dc x).toNat))
  case atStart => exact ⟨0, c, rfl, rfl, rfl, by omega, by omega, h1, by show (0 : Int) + _ = _; omega, rfl⟩
  case round =>
    obtain ⟨k, x, rfl, rfl, rfl, h2, h3, h4, h5, h6⟩ := hrel
    by_cases hgo : 0 < x
    · go_wp2
      have e5 := h5.out
      have e6 := h6.out
      have d1 := Fd.dc_pos hgo
      have d2 := Fd.dc_nonneg (x / 10)
      go_roundg (Fd.dc (x / 10)).toNat
      case measure => omega
      case rel => exact ⟨k + 1, x / 10, rfl, rfl, rfl, by omega, by omega, by omega, by show _ = _; omega, rfl⟩
    · go_wp2
      go_ret
      have e5 := h5.out
      rw [Fd.dc_zero (by omega)] at e5
      exact ⟨ret_int (by omega), (Below.refl _ _).alloc (Nat.le_refl _) _⟩
set_option maxHeartbeats 400000 in
theorem digitCount_any (c : Int) (w : World) (h1 : c ≤ 999999999) :
    Calls Tryz.prog 170 #[.int .i64 c] w fun r w' => r = .returned (.int .i64 (Fd.dc c)) ∧ w = w' := by
  have hd := Fd.dc_le9 h1
  go_enter Tryz.func170, Tryz.ntmps170
  go_wp2
  go_loopg [3, 0] (Fd.dc c).toNat (fun g s3 s4 wr => ∃ k x : Int, wr = w ∧ s3 = .int .i64 k ∧ s4 = .int .i64 x ∧ 0 ≤ k ∧ k ≤ 9 ∧ x ≤ 999999999 ∧ Aside (k + Fd.dc x = Fd.dc c) ∧ Aside (g = (Fd.dc x).toNat))
  case atStart => exact ⟨0, c, rfl, rfl, rfl, by omega, by omega, h1, by show (0 : Int) + _ = _; omega, rfl⟩
  case round =>
    obtain ⟨k, x, rfl, rfl, rfl, h2, h3, h4, h5, h6⟩ := hrel
    by_cases hgo : 0 < x
    · go_wp2
      have e5 := h5.out
      have e6 := h6.out
      have d1 := Fd.dc_pos hgo
      have d2 := Fd.dc_nonneg (x / 10)
      go_roundg (Fd.dc (x / 10)).toNat
      case measure => omega
      case rel => exact ⟨k + 1, x / 10, rfl, rfl, rfl, by omega, by omega, by omega, by show _ = _; omega, rfl⟩
    · go_wp2
      go_ret
      have e5 := h5.out
      rw [Fd.dc_zero (by omega)] at e5
      exact ⟨ret_int (by omega), rfl⟩
set_option maxHeartbeats 400000 in
theorem power_any (n : Int) (w : World) (h0 : 0 ≤ n) (h1 : n ≤ 18) :
    Calls Tryz.prog 225 #[.int .i64 n] w fun r w' => r = .returned (.int .i64 (Fd.p10 n)) ∧ w = w' := by
  go_enter Tryz.func225, Tryz.ntmps225
  go_wp2
  go_loopg [3, 4] n.toNat (fun g s3 s4 wr => ∃ k x : Int, wr = w ∧ s3 = .int .i64 x ∧ s4 = .int .i64 k ∧ 0 ≤ k ∧ k ≤ n ∧ 0 ≤ x ∧ x ≤ 1000000000000000000 ∧ Aside (x = Fd.p10 k) ∧ Aside (g = (n - k).toNat))
  case atStart => exact ⟨0, 1, rfl, rfl, rfl, by omega, by omega, by omega, by omega, rfl, by show _ = _; omega⟩
  case round =>
    obtain ⟨k, x, rfl, rfl, rfl, h2, h3, h4, h4', h5, h6⟩ := hrel
    by_cases hgo : k < n
    · have hx : x * 10 ≤ 1000000000000000000 := by
        have := Fd.p10_le18 (k := k + 1) (by omega) (by omega)
        rw [Fd.p10_succ h2, ← h5.out] at this; omega
      go_wp2
      have e5 := h5.out
      have e6 := h6.out
      go_roundg (n - (k + 1)).toNat
      case measure => omega
      case rel => exact ⟨k + 1, x * 10, rfl, rfl, rfl, by omega, by omega, by omega, by omega, by show _ = _; rw [Fd.p10_succ h2, ← e5]; omega, rfl⟩
    · go_wp2
      go_ret
      have e5 := h5.out
      exact ⟨ret_int (by rw [e5]; congr 1; omega), rfl⟩
/-- the array of powers when k of them are laid -/
def pc : Nat → Array Value
  | 0 => #[.int .i64 0, .int .i64 0, .int .i64 0, .int .i64 0, .int .i64 0, .int .i64 0, .int .i64 0, .int .i64 0, .int .i64 0, .int .i64 0]
  | 1 => #[.int .i64 1, .int .i64 0, .int .i64 0, .int .i64 0, .int .i64 0, .int .i64 0, .int .i64 0, .int .i64 0, .int .i64 0, .int .i64 0]
  | 2 => #[.int .i64 1, .int .i64 10, .int .i64 0, .int .i64 0, .int .i64 0, .int .i64 0, .int .i64 0, .int .i64 0, .int .i64 0, .int .i64 0]
  | 3 => #[.int .i64 1, .int .i64 10, .int .i64 100, .int .i64 0, .int .i64 0, .int .i64 0, .int .i64 0, .int .i64 0, .int .i64 0, .int .i64 0]
  | 4 => #[.int .i64 1, .int .i64 10, .int .i64 100, .int .i64 1000, .int .i64 0, .int .i64 0, .int .i64 0, .int .i64 0, .int .i64 0, .int .i64 0]
  | 5 => #[.int .i64 1, .int .i64 10, .int .i64 100, .int .i64 1000, .int .i64 10000, .int .i64 0, .int .i64 0, .int .i64 0, .int .i64 0, .int .i64 0]
  | 6 => #[.int .i64 1, .int .i64 10, .int .i64 100, .int .i64 1000, .int .i64 10000, .int .i64 100000, .int .i64 0, .int .i64 0, .int .i64 0, .int .i64 0]
  | 7 => #[.int .i64 1, .int .i64 10, .int .i64 100, .int .i64 1000, .int .i64 10000, .int .i64 100000, .int .i64 1000000, .int .i64 0, .int .i64 0, .int .i64 0]
  | 8 => #[.int .i64 1, .int .i64 10, .int .i64 100, .int .i64 1000, .int .i64 10000, .int .i64 100000, .int .i64 1000000, .int .i64 10000000, .int .i64 0, .int .i64 0]
  | 9 => #[.int .i64 1, .int .i64 10, .int .i64 100, .int .i64 1000, .int .i64 10000, .int .i64 100000, .int .i64 1000000, .int .i64 10000000, .int .i64 100000000, .int .i64 0]
  | _ => #[.int .i64 1, .int .i64 10, .int .i64 100, .int .i64 1000, .int .i64 10000, .int .i64 100000, .int .i64 1000000, .int .i64 10000000, .int .i64 100000000, .int .i64 1000000000]
set_option maxHeartbeats 4000000 in
theorem powers_any (w : World) :
    Calls Tryz.prog 110 #[] w fun r w' => r = .returned (.agg #[.int .i64 1, .int .i64 10, .int .i64 100, .int .i64 1000, .int .i64 10000, .int .i64 100000, .int .i64 1000000, .int .i64 10000000, .int .i64 100000000, .int .i64 1000000000]) ∧ Below w.heap.size w w' := by
  go_enter Tryz.func110, Tryz.ntmps110
  go_wp2
  go_loopg [2, 4] 10 (fun g s2 s4 wr => ∃ (k : Nat) (x : Int) (C : Array Value), wr = (w.alloc (.cells #[.int .i64 0, .int .i64 0, .int .i64 0, .int .i64 0, .int .i64 0, .int .i64 0, .int .i64 0, .int .i64 0, .int .i64 0, .int .i64 0] 123)).alloc (.cells C 123) ∧ s4 = .int .i64 k ∧ s2 = .int .i64 x ∧ k ≤ 10 ∧ Aside (C = pc k ∧ x = (10 : Int) ^ k ∧ g = 10 - k))
  case atStart => exact ⟨0, 1, _, rfl, rfl, rfl, by omega, rfl, rfl, rfl⟩
  case round =>
    obtain ⟨k, x, C, rfl, rfl, rfl, hk, hA⟩ := hrel
    have hcase : k = 0 ∨ k = 1 ∨ k = 2 ∨ k = 3 ∨ k = 4 ∨ k = 5 ∨ k = 6 ∨ k = 7 ∨ k = 8 ∨ k = 9 ∨ k = 10 := by omega
    obtain ⟨e1, e2, e3⟩ := hA.out
    clear hA hk
    rcases hcase with rfl | rfl | rfl | rfl | rfl | rfl | rfl | rfl | rfl | rfl | rfl
    · obtain rfl : C = #[.int .i64 0, .int .i64 0, .int .i64 0, .int .i64 0, .int .i64 0, .int .i64 0, .int .i64 0, .int .i64 0, .int .i64 0, .int .i64 0] := e1
      obtain rfl : x = 1 := e2
      have E3 := Lib.hid e3
      clear e3
      go_wp2
      go_roundg (10 - 1)
      case measure => have := E3.out; omega
      case rel => exact ⟨1, 10, _, rfl, rfl, rfl, by omega, rfl, rfl, rfl⟩
    · obtain rfl : C = #[.int .i64 1, .int .i64 0, .int .i64 0, .int .i64 0, .int .i64 0, .int .i64 0, .int .i64 0, .int .i64 0, .int .i64 0, .int .i64 0] := e1
      obtain rfl : x = 10 := e2
      have E3 := Lib.hid e3
      clear e3
      go_wp2
      go_roundg (10 - 2)
      case measure => have := E3.out; omega
      case rel => exact ⟨2, 100, _, rfl, rfl, rfl, by omega, rfl, rfl, rfl⟩
    · obtain rfl : C = #[.int .i64 1, .int .i64 10, .int .i64 0, .int .i64 0, .int .i64 0, .int .i64 0, .int .i64 0, .int .i64 0, .int .i64 0, .int .i64 0] := e1
      obtain rfl : x = 100 := e2
      have E3 := Lib.hid e3
      clear e3
      go_wp2
      go_roundg (10 - 3)
      case measure => have := E3.out; omega
      case rel => exact ⟨3, 1000, _, rfl, rfl, rfl, by omega, rfl, rfl, rfl⟩
    · obtain rfl : C = #[.int .i64 1, .int .i64 10, .int .i64 100, .int .i64 0, .int .i64 0, .int .i64 0, .int .i64 0, .int .i64 0, .int .i64 0, .int .i64 0] := e1
      obtain rfl : x = 1000 := e2
      have E3 := Lib.hid e3
      clear e3
      go_wp2
      go_roundg (10 - 4)
      case measure => have := E3.out; omega
      case rel => exact ⟨4, 10000, _, rfl, rfl, rfl, by omega, rfl, rfl, rfl⟩
    · obtain rfl : C = #[.int .i64 1, .int .i64 10, .int .i64 100, .int .i64 1000, .int .i64 0, .int .i64 0, .int .i64 0, .int .i64 0, .int .i64 0, .int .i64 0] := e1
      obtain rfl : x = 10000 := e2
      have E3 := Lib.hid e3
      clear e3
      go_wp2
      go_roundg (10 - 5)
      case measure => have := E3.out; omega
      case rel => exact ⟨5, 100000, _, rfl, rfl, rfl, by omega, rfl, rfl, rfl⟩
    · obtain rfl : C = #[.int .i64 1, .int .i64 10, .int .i64 100, .int .i64 1000, .int .i64 10000, .int .i64 0, .int .i64 0, .int .i64 0, .int .i64 0, .int .i64 0] := e1
      obtain rfl : x = 100000 := e2
      have E3 := Lib.hid e3
      clear e3
      go_wp2
      go_roundg (10 - 6)
      case measure => have := E3.out; omega
      case rel => exact ⟨6, 1000000, _, rfl, rfl, rfl, by omega, rfl, rfl, rfl⟩
    · obtain rfl : C = #[.int .i64 1, .int .i64 10, .int .i64 100, .int .i64 1000, .int .i64 10000, .int .i64 100000, .int .i64 0, .int .i64 0, .int .i64 0, .int .i64 0] := e1
      obtain rfl : x = 1000000 := e2
      have E3 := Lib.hid e3
      clear e3
      go_wp2
      go_roundg (10 - 7)
      case measure => have := E3.out; omega
      case rel => exact ⟨7, 10000000, _, rfl, rfl, rfl, by omega, rfl, rfl, rfl⟩
    · obtain rfl : C = #[.int .i64 1, .int .i64 10, .int .i64 100, .int .i64 1000, .int .i64 10000, .int .i64 100000, .int .i64 1000000, .int .i64 0, .int .i64 0, .int .i64 0] := e1
      obtain rfl : x = 10000000 := e2
      have E3 := Lib.hid e3
      clear e3
      go_wp2
      go_roundg (10 - 8)
      case measure => have := E3.out; omega
      case rel => exact ⟨8, 100000000, _, rfl, rfl, rfl, by omega, rfl, rfl, rfl⟩
    · obtain rfl : C = #[.int .i64 1, .int .i64 10, .int .i64 100, .int .i64 1000, .int .i64 10000, .int .i64 100000, .int .i64 1000000, .int .i64 10000000, .int .i64 0, .int .i64 0] := e1
      obtain rfl : x = 100000000 := e2
      have E3 := Lib.hid e3
      clear e3
      go_wp2
      go_roundg (10 - 9)
      case measure => have := E3.out; omega
      case rel => exact ⟨9, 1000000000, _, rfl, rfl, rfl, by omega, rfl, rfl, rfl⟩
    · obtain rfl : C = #[.int .i64 1, .int .i64 10, .int .i64 100, .int .i64 1000, .int .i64 10000, .int .i64 100000, .int .i64 1000000, .int .i64 10000000, .int .i64 100000000, .int .i64 0] := e1
      obtain rfl : x = 1000000000 := e2
      have E3 := Lib.hid e3
      clear e3
      go_wp2
      go_roundg (10 - 10)
      case measure => have := E3.out; omega
      case rel => exact ⟨10, 10000000000, _, rfl, rfl, rfl, by omega, rfl, rfl, rfl⟩
    · obtain rfl : C = #[.int .i64 1, .int .i64 10, .int .i64 100, .int .i64 1000, .int .i64 10000, .int .i64 100000, .int .i64 1000000, .int .i64 10000000, .int .i64 100000000, .int .i64 1000000000] := e1
      obtain rfl : x = 10000000000 := e2
      clear e3
      go_wp2
      exact bodyPost_ret (v := .agg #[.int .i64 1, .int .i64 10, .int .i64 100, .int .i64 1000, .int .i64 10000, .int .i64 100000, .int .i64 1000000, .int .i64 10000000, .int .i64 100000000, .int .i64 1000000000]) (by simp [results, Tryz.results110, go_sem]) rfl ⟨rfl, ((Below.refl _ _).alloc (Nat.le_refl _) _).alloc (by simp) _⟩
end Go.Proofs.YtebheehjhnaklaaGreatDoor
namespace Go.Proofs.YtebheehjhnaklaaGreatDoor
open Go.RowKit
theorem keepA {W w0 w1 : World} (hS : (∀ b o, b < W.heap.size → w0.cell? ⟨b, o, none⟩ = W.cell? ⟨b, o, none⟩) ∧ Below W.heap.size W w0) (hb : Below w0.heap.size w0 w1) :
    (∀ b o, b < W.heap.size → w1.cell? ⟨b, o, none⟩ = W.cell? ⟨b, o, none⟩) ∧ Below W.heap.size W w1 :=
  have h := hS.2.trans (hb.mono hS.2.size)
  ⟨fun b o hlt => h.cell (p := ⟨b, o, none⟩) hlt, h⟩
theorem keepL {W w0 : World} (hS : (∀ b o, b < W.heap.size → w0.cell? ⟨b, o, none⟩ = W.cell? ⟨b, o, none⟩) ∧ Below W.heap.size W w0) (x : Obj) :
    (∀ b o, b < W.heap.size → (w0.alloc x).cell? ⟨b, o, none⟩ = W.cell? ⟨b, o, none⟩) ∧ Below W.heap.size W (w0.alloc x) :=
  have h := hS.2.alloc hS.2.size x
  ⟨fun b o hlt => h.cell (p := ⟨b, o, none⟩) hlt, h⟩
theorem keepS {W w0 : World} {p : Addr} (hS : (∀ b o, b < W.heap.size → w0.cell? ⟨b, o, none⟩ = W.cell? ⟨b, o, none⟩) ∧ Below W.heap.size W w0) (hp : W.heap.size ≤ p.block) (u : Value) :
    (∀ b o, b < W.heap.size → (w0.setCell p u).cell? ⟨b, o, none⟩ = W.cell? ⟨b, o, none⟩) ∧ Below W.heap.size W (w0.setCell p u) :=
  have h := hS.2.setCell hp u
  ⟨fun b o hlt => h.cell (p := ⟨b, o, none⟩) hlt, h⟩
theorem bmono {w0 w1 : World} (hb : Below w0.heap.size w0 w1) : ∀ n, n < w0.heap.size → n < w1.heap.size := fun _ h => Nat.lt_of_lt_of_le h hb.size
theorem bmono2 {p : Nat → Prop} {w0 w1 : World} (h : ∀ n, p n → n < w0.heap.size) (hb : Below w0.heap.size w0 w1) : ∀ n, p n → n < w1.heap.size := fun n h1 => Nat.lt_of_lt_of_le (h n h1) hb.size
theorem keepD {W w0 : World} (hS : (∀ b o, b < W.heap.size → w0.cell? ⟨b, o, none⟩ = W.cell? ⟨b, o, none⟩) ∧ Below W.heap.size W w0) :
    (∀ b o, b < W.heap.size → w0.drew.cell? ⟨b, o, none⟩ = W.cell? ⟨b, o, none⟩) ∧ Below W.heap.size W w0.drew := ⟨hS.1, hS.2.drew⟩
theorem ixp0 (w : World) : (Instr.index 123 (.agg #[.int .i64 1, .int .i64 10, .int .i64 100, .int .i64 1000, .int .i64 10000, .int .i64 100000, .int .i64 1000000, .int .i64 10000000, .int .i64 100000000, .int .i64 1000000000]) (.int .i64 0)).run Tryz.prog w = .ok (.int .i64 1) w := by kernel_rfl
theorem ixp1 (w : World) : (Instr.index 123 (.agg #[.int .i64 1, .int .i64 10, .int .i64 100, .int .i64 1000, .int .i64 10000, .int .i64 100000, .int .i64 1000000, .int .i64 10000000, .int .i64 100000000, .int .i64 1000000000]) (.int .i64 1)).run Tryz.prog w = .ok (.int .i64 10) w := by kernel_rfl
theorem ixp2 (w : World) : (Instr.index 123 (.agg #[.int .i64 1, .int .i64 10, .int .i64 100, .int .i64 1000, .int .i64 10000, .int .i64 100000, .int .i64 1000000, .int .i64 10000000, .int .i64 100000000, .int .i64 1000000000]) (.int .i64 2)).run Tryz.prog w = .ok (.int .i64 100) w := by kernel_rfl
theorem ixp3 (w : World) : (Instr.index 123 (.agg #[.int .i64 1, .int .i64 10, .int .i64 100, .int .i64 1000, .int .i64 10000, .int .i64 100000, .int .i64 1000000, .int .i64 10000000, .int .i64 100000000, .int .i64 1000000000]) (.int .i64 3)).run Tryz.prog w = .ok (.int .i64 1000) w := by kernel_rfl
theorem ixp4 (w : World) : (Instr.index 123 (.agg #[.int .i64 1, .int .i64 10, .int .i64 100, .int .i64 1000, .int .i64 10000, .int .i64 100000, .int .i64 1000000, .int .i64 10000000, .int .i64 100000000, .int .i64 1000000000]) (.int .i64 4)).run Tryz.prog w = .ok (.int .i64 10000) w := by kernel_rfl
theorem ixp5 (w : World) : (Instr.index 123 (.agg #[.int .i64 1, .int .i64 10, .int .i64 100, .int .i64 1000, .int .i64 10000, .int .i64 100000, .int .i64 1000000, .int .i64 10000000, .int .i64 100000000, .int .i64 1000000000]) (.int .i64 5)).run Tryz.prog w = .ok (.int .i64 100000) w := by kernel_rfl
theorem ixp6 (w : World) : (Instr.index 123 (.agg #[.int .i64 1, .int .i64 10, .int .i64 100, .int .i64 1000, .int .i64 10000, .int .i64 100000, .int .i64 1000000, .int .i64 10000000, .int .i64 100000000, .int .i64 1000000000]) (.int .i64 6)).run Tryz.prog w = .ok (.int .i64 1000000) w := by kernel_rfl
theorem ixp7 (w : World) : (Instr.index 123 (.agg #[.int .i64 1, .int .i64 10, .int .i64 100, .int .i64 1000, .int .i64 10000, .int .i64 100000, .int .i64 1000000, .int .i64 10000000, .int .i64 100000000, .int .i64 1000000000]) (.int .i64 7)).run Tryz.prog w = .ok (.int .i64 10000000) w := by kernel_rfl
theorem ixp8 (w : World) : (Instr.index 123 (.agg #[.int .i64 1, .int .i64 10, .int .i64 100, .int .i64 1000, .int .i64 10000, .int .i64 100000, .int .i64 1000000, .int .i64 10000000, .int .i64 100000000, .int .i64 1000000000]) (.int .i64 8)).run Tryz.prog w = .ok (.int .i64 100000000) w := by kernel_rfl
theorem ixp9 (w : World) : (Instr.index 123 (.agg #[.int .i64 1, .int .i64 10, .int .i64 100, .int .i64 1000, .int .i64 10000, .int .i64 100000, .int .i64 1000000, .int .i64 10000000, .int .i64 100000000, .int .i64 1000000000]) (.int .i64 9)).run Tryz.prog w = .ok (.int .i64 1000000000) w := by kernel_rfl
theorem index_pow (k : Int) (h0 : 0 ≤ k) (h9 : k ≤ 9) (w : World) :
    (Instr.index 123 (.agg #[.int .i64 1, .int .i64 10, .int .i64 100, .int .i64 1000, .int .i64 10000, .int .i64 100000, .int .i64 1000000, .int .i64 10000000, .int .i64 100000000, .int .i64 1000000000]) (.int .i64 k)).run Tryz.prog w = .ok (.int .i64 (Fd.p10 k)) w := by
  have hc : k = 0 ∨ k = 1 ∨ k = 2 ∨ k = 3 ∨ k = 4 ∨ k = 5 ∨ k = 6 ∨ k = 7 ∨ k = 8 ∨ k = 9 := by omega
  rcases hc with rfl | rfl | rfl | rfl | rfl | rfl | rfl | rfl | rfl | rfl
  · exact ixp0 w
  · exact ixp1 w
  · exact ixp2 w
  · exact ixp3 w
  · exact ixp4 w
  · exact ixp5 w
  · exact ixp6 w
  · exact ixp7 w
  · exact ixp8 w
  · exact ixp9 w
end Go.Proofs.YtebheehjhnaklaaGreatDoor
namespace Go.Proofs.YtebheehjhnaklaaGreatDoor
open Go.RowKit
set_option maxHeartbeats 1000000 in
theorem dropped_any (n : Bool) (c e k : Int) (w : World) (h0 : 0 ≤ c) (h1 : c ≤ 999999999) (h2 : -24 ≤ e) (h3 : e ≤ 24) (h4 : k ≤ 100) :
    Calls Tryz.prog 60 #[.agg #[.bool n, .int .i64 c, .int .i64 e], .int .i64 k] w fun r w' =>
      r = .returned (.agg #[.bool (Fd.dropI ⟨n, c, e⟩ k).n, .int .i64 (Fd.dropI ⟨n, c, e⟩ k).c, .int .i64 (Fd.dropI ⟨n, c, e⟩ k).e]) ∧ Below w.heap.size w w' := by
  by_cases hk : k ≤ 0
  · have HF : Hid (Fd.dropI ⟨n, c, e⟩ k = ⟨n, c, e⟩) := Lib.hid (by unfold Fd.dropI; rw [if_pos hk])
    go_enter Tryz.func60, Tryz.ntmps60
    go_wp2
    exact bodyPost_ret (v := .agg #[.bool n, .int .i64 c, .int .i64 e]) (by simp [results, Tryz.results60, go_sem]) rfl ⟨by rw [HF.out], ((Below.refl _ _).alloc (Nat.le_refl _) _).alloc (by simp) _⟩
  by_cases hk9 : 9 < k
  · have HF : Hid (Fd.dropI ⟨n, c, e⟩ k = Fd.D.z) := Lib.hid (by unfold Fd.dropI; rw [if_neg hk, if_pos hk9])
    go_enter Tryz.func60, Tryz.ntmps60
    go_wp2
    exact bodyPost_ret (v := .agg #[.bool false, .int .i64 0, .int .i64 0]) (by simp [results, Tryz.results60, go_sem]) rfl ⟨by rw [HF.out]; rfl, ((Below.refl _ _).alloc (Nat.le_refl _) _).alloc (by simp) _⟩
  have hix := fun W => index_pow k (by omega) (by omega) W
  have hP1 := Fd.p10_pos k
  have hP2 := Fd.p10_le9 (k := k) (by omega) (by omega)
  have hqb := Fd.rq_bd (k := k) h0 (by omega)
  have hF : Fd.dropI ⟨n, c, e⟩ k = ⟨n, Fd.rq c k, e + k⟩ := by unfold Fd.dropI; rw [if_neg hk, if_neg hk9]
  unfold Fd.rq at hF hqb
  generalize Fd.p10 k = P at *
  have hq0 : 0 ≤ c / P := Int.ediv_nonneg h0 (by omega)
  have hr0 : 0 ≤ c % P := Int.emod_nonneg c (by omega)
  have hr1 : c % P < P := Int.emod_lt_of_pos c hP1
  have hq9 : c / P ≤ 999999999 := by
    have := Int.ediv_le_self P h0; omega
  have hcase : (∃ x : Int, Hid (Fd.dropI ⟨n, c, e⟩ k = ⟨n, x, e + k⟩) ∧ Hid (x = c / P + 1) ∧ (P < 2 * (c % P) ∨ ((2 * (c % P) == P) = true ∧ ¬ P < 2 * (c % P) ∧ (c / P % 2 == 1) = true))) ∨
      (Hid (Fd.dropI ⟨n, c, e⟩ k = ⟨n, c / P, e + k⟩) ∧ ¬ P < 2 * (c % P) ∧ (((2 * (c % P) == P) = true ∧ (c / P % 2 == 1) = false) ∨ (2 * (c % P) == P) = false)) := by
    by_cases up : 2 * (c % P) > P ∨ 2 * (c % P) = P ∧ c / P % 2 = 1
    · left
      rw [if_pos up] at hF
      refine ⟨_, Lib.hid hF, Lib.hid rfl, ?_⟩
      rcases up with g | ⟨g, g'⟩
      · left; omega
      · right; exact ⟨by simpa using g, by omega, by simpa using g'⟩
    · right
      rw [if_neg up] at hF
      refine ⟨Lib.hid hF, by omega, ?_⟩
      by_cases g : 2 * (c % P) = P
      · left; exact ⟨by simpa using g, by simp; omega⟩
      · right; simpa using g
  clear hF hqb
  rcases hcase with ⟨x, HF, HX, g | ⟨g, g', g''⟩⟩ | ⟨HF, g', ⟨g, g''⟩ | g⟩
  · go_enter Tryz.func60, Tryz.ntmps60
    go_wp2_with (go_at_call 110; refine (powers_any _).mono ?_; rintro r w1 ⟨rfl, hb⟩; obtain ⟨hc, hf⟩ := bcell hb; have hB : Below w.heap.size w w1 := (by refine Below.trans ?_ (hb.mono (by first | omega | (simp; done) | (simp <;> omega))); repeat (first | with_reducible exact Below.refl _ _ | with_reducible assumption | with_reducible refine Below.setCell ?_ (by first | omega | (simp; done) | (simp <;> omega)) _ | with_reducible refine below_drewN ?_ _ | with_reducible refine Below.drew ?_ | with_reducible refine Below.alloc ?_ (by first | omega | (simp; done) | (simp <;> omega)) _)); have hz := hb.size; (try simp at hz); (try have hz0 : w.heap.size < w1.heap.size := by omega); (try have hz1 : w.heap.size + 1 < w1.heap.size := by omega); (try have hz2 : w.heap.size + 1 + 1 < w1.heap.size := by omega))
    go_quiet (fail)
    go_wp2
    exact bodyPost_ret (v := .agg #[.bool n, .int .i64 (c / P + 1), .int .i64 (e + k)]) (by simp [results, Tryz.results60, go_sem, hc]) rfl ⟨by rw [HF.out, HX.out], (by repeat (first | with_reducible exact Below.refl _ _ | with_reducible assumption | with_reducible refine Below.setCell ?_ (by first | omega | (simp; done) | (simp <;> omega)) _ | with_reducible refine below_drewN ?_ _ | with_reducible refine Below.drew ?_ | with_reducible refine Below.alloc ?_ (by first | omega | (simp; done) | (simp <;> omega)) _))⟩
  · go_enter Tryz.func60, Tryz.ntmps60
    go_wp2_with (go_at_call 110; refine (powers_any _).mono ?_; rintro r w1 ⟨rfl, hb⟩; obtain ⟨hc, hf⟩ := bcell hb; have hB : Below w.heap.size w w1 := (by refine Below.trans ?_ (hb.mono (by first | omega | (simp; done) | (simp <;> omega))); repeat (first | with_reducible exact Below.refl _ _ | with_reducible assumption | with_reducible refine Below.setCell ?_ (by first | omega | (simp; done) | (simp <;> omega)) _ | with_reducible refine below_drewN ?_ _ | with_reducible refine Below.drew ?_ | with_reducible refine Below.alloc ?_ (by first | omega | (simp; done) | (simp <;> omega)) _)); have hz := hb.size; (try simp at hz); (try have hz0 : w.heap.size < w1.heap.size := by omega); (try have hz1 : w.heap.size + 1 < w1.heap.size := by omega); (try have hz2 : w.heap.size + 1 + 1 < w1.heap.size := by omega))
    go_quiet (fail)
    go_wp2
    exact bodyPost_ret (v := .agg #[.bool n, .int .i64 (c / P + 1), .int .i64 (e + k)]) (by simp [results, Tryz.results60, go_sem, hc]) rfl ⟨by rw [HF.out, HX.out], (by repeat (first | with_reducible exact Below.refl _ _ | with_reducible assumption | with_reducible refine Below.setCell ?_ (by first | omega | (simp; done) | (simp <;> omega)) _ | with_reducible refine below_drewN ?_ _ | with_reducible refine Below.drew ?_ | with_reducible refine Below.alloc ?_ (by first | omega | (simp; done) | (simp <;> omega)) _))⟩
  · go_enter Tryz.func60, Tryz.ntmps60
    go_wp2_with (go_at_call 110; refine (powers_any _).mono ?_; rintro r w1 ⟨rfl, hb⟩; obtain ⟨hc, hf⟩ := bcell hb; have hB : Below w.heap.size w w1 := (by refine Below.trans ?_ (hb.mono (by first | omega | (simp; done) | (simp <;> omega))); repeat (first | with_reducible exact Below.refl _ _ | with_reducible assumption | with_reducible refine Below.setCell ?_ (by first | omega | (simp; done) | (simp <;> omega)) _ | with_reducible refine below_drewN ?_ _ | with_reducible refine Below.drew ?_ | with_reducible refine Below.alloc ?_ (by first | omega | (simp; done) | (simp <;> omega)) _)); have hz := hb.size; (try simp at hz); (try have hz0 : w.heap.size < w1.heap.size := by omega); (try have hz1 : w.heap.size + 1 < w1.heap.size := by omega); (try have hz2 : w.heap.size + 1 + 1 < w1.heap.size := by omega))
    go_quiet (fail)
    go_wp2
    exact bodyPost_ret (v := .agg #[.bool n, .int .i64 (c / P), .int .i64 (e + k)]) (by simp [results, Tryz.results60, go_sem, hc]) rfl ⟨by rw [HF.out], (by repeat (first | with_reducible exact Below.refl _ _ | with_reducible assumption | with_reducible refine Below.setCell ?_ (by first | omega | (simp; done) | (simp <;> omega)) _ | with_reducible refine below_drewN ?_ _ | with_reducible refine Below.drew ?_ | with_reducible refine Below.alloc ?_ (by first | omega | (simp; done) | (simp <;> omega)) _))⟩
  · go_enter Tryz.func60, Tryz.ntmps60
    go_wp2_with (go_at_call 110; refine (powers_any _).mono ?_; rintro r w1 ⟨rfl, hb⟩; obtain ⟨hc, hf⟩ := bcell hb; have hB : Below w.heap.size w w1 := (by refine Below.trans ?_ (hb.mono (by first | omega | (simp; done) | (simp <;> omega))); repeat (first | with_reducible exact Below.refl _ _ | with_reducible assumption | with_reducible refine Below.setCell ?_ (by first | omega | (simp; done) | (simp <;> omega)) _ | with_reducible refine below_drewN ?_ _ | with_reducible refine Below.drew ?_ | with_reducible refine Below.alloc ?_ (by first | omega | (simp; done) | (simp <;> omega)) _)); have hz := hb.size; (try simp at hz); (try have hz0 : w.heap.size < w1.heap.size := by omega); (try have hz1 : w.heap.size + 1 < w1.heap.size := by omega); (try have hz2 : w.heap.size + 1 + 1 < w1.heap.size := by omega))
    go_quiet (fail)
    go_wp2
    exact bodyPost_ret (v := .agg #[.bool n, .int .i64 (c / P), .int .i64 (e + k)]) (by simp [results, Tryz.results60, go_sem, hc]) rfl ⟨by rw [HF.out], (by repeat (first | with_reducible exact Below.refl _ _ | with_reducible assumption | with_reducible refine Below.setCell ?_ (by first | omega | (simp; done) | (simp <;> omega)) _ | with_reducible refine below_drewN ?_ _ | with_reducible refine Below.drew ?_ | with_reducible refine Below.alloc ?_ (by first | omega | (simp; done) | (simp <;> omega)) _))⟩
end Go.Proofs.YtebheehjhnaklaaGreatDoor
namespace Go.Proofs.YtebheehjhnaklaaGreatDoor
open Go.RowKit
theorem bounds_of {n : Bool} {c e : Int} (hv : Fd.vld ⟨n, c, e⟩ = true) : 0 ≤ c ∧ c ≤ 999999999 ∧ -12 ≤ e ∧ e ≤ 12 := by
  obtain ⟨a, b, d, f, _⟩ := Fd.vld_iff.1 hv; exact ⟨a, b, d, f⟩
set_option maxHeartbeats 400000 in
theorem ValidDec_any (n : Bool) (c e : Int) (w : World) :
    Calls Tryz.prog 43 #[.agg #[.bool n, .int .i64 c, .int .i64 e]] w fun r w' => r = .returned (.bool (Fd.vld ⟨n, c, e⟩)) ∧ Below w.heap.size w w' := by
  go_enter Tryz.func43, Tryz.ntmps43
  go_wp2_with (go_at_call 59; refine (valid_any _ _ _ _).mono ?_; rintro r w1 ⟨rfl, hb⟩; obtain ⟨hc, hf⟩ := bcell hb; have hB : Below w.heap.size w w1 := (by refine Below.trans ?_ (hb.mono (by first | omega | (simp; done) | (simp <;> omega))); repeat (first | with_reducible exact Below.refl _ _ | with_reducible assumption | with_reducible refine Below.setCell ?_ (by first | omega | (simp; done) | (simp <;> omega)) _ | with_reducible refine below_drewN ?_ _ | with_reducible refine Below.drew ?_ | with_reducible refine Below.alloc ?_ (by first | omega | (simp; done) | (simp <;> omega)) _)); have hz := hb.size; (try simp at hz); (try have hz0 : w.heap.size < w1.heap.size := by omega); (try have hz1 : w.heap.size + 1 < w1.heap.size := by omega); (try have hz2 : w.heap.size + 1 + 1 < w1.heap.size := by omega))
  go_ret
  exact ⟨rfl, (by repeat (first | with_reducible exact Below.refl _ _ | with_reducible assumption | with_reducible refine Below.setCell ?_ (by first | omega | (simp; done) | (simp <;> omega)) _ | with_reducible refine below_drewN ?_ _ | with_reducible refine Below.drew ?_ | with_reducible refine Below.alloc ?_ (by first | omega | (simp; done) | (simp <;> omega)) _))⟩
set_option maxHeartbeats 400000 in
theorem NormalDec_any (n : Bool) (c e : Int) (w : World) :
    Calls Tryz.prog 24 #[.agg #[.bool n, .int .i64 c, .int .i64 e]] w fun r w' =>
      r = .returned (.agg #[.bool (Fd.nd ⟨n, c, e⟩).n, .int .i64 (Fd.nd ⟨n, c, e⟩).c, .int .i64 (Fd.nd ⟨n, c, e⟩).e]) ∧ Below w.heap.size w w' := by
  cases hv : Fd.vld ⟨n, c, e⟩
  · have HF : Hid (Fd.nd ⟨n, c, e⟩ = Fd.D.z) := Lib.hid (by unfold Fd.nd; rw [hv]; rfl)
    go_enter Tryz.func24, Tryz.ntmps24
    go_wp2_with (go_at_call 59; refine (valid_any _ _ _ _).mono ?_; rintro r w1 ⟨rfl, hb⟩; obtain ⟨hc, hf⟩ := bcell hb; have hB : Below w.heap.size w w1 := (by refine Below.trans ?_ (hb.mono (by first | omega | (simp; done) | (simp <;> omega))); repeat (first | with_reducible exact Below.refl _ _ | with_reducible assumption | with_reducible refine Below.setCell ?_ (by first | omega | (simp; done) | (simp <;> omega)) _ | with_reducible refine below_drewN ?_ _ | with_reducible refine Below.drew ?_ | with_reducible refine Below.alloc ?_ (by first | omega | (simp; done) | (simp <;> omega)) _)); have hz := hb.size; (try simp at hz); (try have hz0 : w.heap.size < w1.heap.size := by omega); (try have hz1 : w.heap.size + 1 < w1.heap.size := by omega); (try have hz2 : w.heap.size + 1 + 1 < w1.heap.size := by omega))
    exact bodyPost_ret (v := .agg #[.bool false, .int .i64 0, .int .i64 0]) (by simp [results, Tryz.results24, go_sem, hc]) rfl ⟨by rw [HF.out]; rfl, (by repeat (first | with_reducible exact Below.refl _ _ | with_reducible assumption | with_reducible refine Below.setCell ?_ (by first | omega | (simp; done) | (simp <;> omega)) _ | with_reducible refine below_drewN ?_ _ | with_reducible refine Below.drew ?_ | with_reducible refine Below.alloc ?_ (by first | omega | (simp; done) | (simp <;> omega)) _))⟩
  · have HF : Hid (Fd.nd ⟨n, c, e⟩ = (Fd.fit1 ⟨n, c, e⟩).1) := Lib.hid (by unfold Fd.nd; rw [hv]; rfl)
    obtain ⟨b1, b2, b3, b4⟩ := bounds_of hv
    go_enter Tryz.func24, Tryz.ntmps24
    go_wp2_with (first | (go_at_call 59; refine (valid_any _ _ _ _).mono ?_; rintro r w1 ⟨rfl, hb⟩; obtain ⟨hc, hf⟩ := bcell hb; have hB : Below w.heap.size w w1 := (by refine Below.trans ?_ (hb.mono (by first | omega | (simp; done) | (simp <;> omega))); repeat (first | with_reducible exact Below.refl _ _ | with_reducible assumption | with_reducible refine Below.setCell ?_ (by first | omega | (simp; done) | (simp <;> omega)) _ | with_reducible refine below_drewN ?_ _ | with_reducible refine Below.drew ?_ | with_reducible refine Below.alloc ?_ (by first | omega | (simp; done) | (simp <;> omega)) _)); have hz := hb.size; (try simp at hz); (try have hz0 : w.heap.size < w1.heap.size := by omega); (try have hz1 : w.heap.size + 1 < w1.heap.size := by omega); (try have hz2 : w.heap.size + 1 + 1 < w1.heap.size := by omega)) | (go_at_call 58; refine (fitted_any _ _ _ _ b1 (by omega) (by omega) (by omega)).mono ?_; rintro r w1 ⟨rfl, hb⟩; obtain ⟨hc, hf⟩ := bcell hb; have hB : Below w.heap.size w w1 := (by refine Below.trans ?_ (hb.mono (by first | omega | (simp; done) | (simp <;> omega))); repeat (first | with_reducible exact Below.refl _ _ | with_reducible assumption | with_reducible refine Below.setCell ?_ (by first | omega | (simp; done) | (simp <;> omega)) _ | with_reducible refine below_drewN ?_ _ | with_reducible refine Below.drew ?_ | with_reducible refine Below.alloc ?_ (by first | omega | (simp; done) | (simp <;> omega)) _)); have hz := hb.size; (try simp at hz); (try have hz0 : w.heap.size < w1.heap.size := by omega); (try have hz1 : w.heap.size + 1 < w1.heap.size := by omega); (try have hz2 : w.heap.size + 1 + 1 < w1.heap.size := by omega)))
    exact bodyPost_ret (v := .agg #[.bool (Fd.fit1 ⟨n, c, e⟩).1.n, .int .i64 (Fd.fit1 ⟨n, c, e⟩).1.c, .int .i64 (Fd.fit1 ⟨n, c, e⟩).1.e]) (by simp [results, Tryz.results24, go_sem, *]) rfl ⟨by rw [HF.out], (by repeat (first | with_reducible exact Below.refl _ _ | with_reducible assumption | with_reducible refine Below.setCell ?_ (by first | omega | (simp; done) | (simp <;> omega)) _ | with_reducible refine below_drewN ?_ _ | with_reducible refine Below.drew ?_ | with_reducible refine Below.alloc ?_ (by first | omega | (simp; done) | (simp <;> omega)) _))⟩
end Go.Proofs.YtebheehjhnaklaaGreatDoor
namespace Go.Proofs.YtebheehjhnaklaaGreatDoor
open Go.RowKit
set_option maxHeartbeats 400000 in
theorem lead_any (n : Bool) (c e : Int) (w : World) (h1 : c ≤ 999999999) (h2 : -24 ≤ e) (h3 : e ≤ 24) :
    Calls Tryz.prog 161 #[.agg #[.bool n, .int .i64 c, .int .i64 e]] w fun r w' => r = .returned (.int .i64 (Fd.size ⟨n, c, e⟩ - 1)) ∧ Below w.heap.size w w' := by
  have hd0 := Fd.dc_nonneg c
  have hd := Fd.dc_le9 h1
  have hw1 : IntKind.i64.wrap (Fd.dc c + e) = Fd.dc c + e := IntWalk.i64_in _ (by omega)
  have hw2 : IntKind.i64.wrap (Fd.dc c + e - 1) = Fd.dc c + e - 1 := IntWalk.i64_in _ (by omega)
  go_enter Tryz.func161, Tryz.ntmps161
  go_wp2
  have hB : Below w.heap.size w (w.alloc (.cells #[.bool n, .int .i64 c, .int .i64 e] 24)) := (by repeat (first | with_reducible exact Below.refl _ _ | with_reducible assumption | with_reducible refine Below.setCell ?_ (by first | omega | (simp; done) | (simp <;> omega)) _ | with_reducible refine below_drewN ?_ _ | with_reducible refine Below.drew ?_ | with_reducible refine Below.alloc ?_ (by first | omega | (simp; done) | (simp <;> omega)) _))
  generalize hW : (w.alloc (.cells #[.bool n, .int .i64 c, .int .i64 e] 24)) = W at hB ⊢
  have hcW : ∀ b o, W.cell? ⟨b, o, none⟩ = (w.alloc (.cells #[.bool n, .int .i64 c, .int .i64 e] 24)).cell? ⟨b, o, none⟩ := fun _ _ => by rw [hW]
  have hfW : ∀ b o, W.frozen? ⟨b, o, none⟩ = (w.alloc (.cells #[.bool n, .int .i64 c, .int .i64 e] 24)).frozen? ⟨b, o, none⟩ := fun _ _ => by rw [hW]
  have hzW : W.heap.size = (w.alloc (.cells #[.bool n, .int .i64 c, .int .i64 e] 24)).heap.size := by rw [hW]
  simp at hzW
  clear hW
  have hS0 : (∀ b o, b < W.heap.size → W.cell? ⟨b, o, none⟩ = W.cell? ⟨b, o, none⟩) ∧ Below W.heap.size W W := ⟨fun _ _ _ => rfl, Below.refl _ _⟩; go_region_held3 (fun w_ => (∀ b o, b < W.heap.size → w_.cell? ⟨b, o, none⟩ = W.cell? ⟨b, o, none⟩) ∧ Below W.heap.size W w_) (repeat (first | with_reducible assumption | with_reducible refine keepD ?_ | with_reducible refine keepL ?_ _ | with_reducible refine keepS ?_ (by first | omega | (simp; done) | (simp <;> omega)) _ | with_reducible exact keepA (by with_reducible assumption) hb)) (first | (go_at_call 61; (with_reducible refine Calls.mono (digits_any _ _ _ _ h1) ?_); rintro r w1 ⟨rfl, hb⟩; obtain ⟨hc, hf⟩ := bcell hb; have hz := hb.size; have hm := bmono hb; (try simp at hz); (try simp at hm); (try have hm2 := bmono2 (by with_reducible assumption) hb); have hS1 := keepA (by with_reducible assumption) hb; have hzS := hS1.2.size; (try have hq0 : W.heap.size < w1.heap.size := by omega); (try have hq1 : W.heap.size + 1 < w1.heap.size := by omega); (try have hq2 := Nat.lt_of_succ_le hz)))
  obtain ⟨hc, hb⟩ := ‹(∀ b o, b < W.heap.size → World.cell? _ ⟨b, o, none⟩ = W.cell? ⟨b, o, none⟩) ∧ Below W.heap.size W _›; have hf := (bcell hb).2; have hB := Below.trans hB (hb.mono (by omega)); have hz := hb.size; (try have hza := Nat.lt_of_lt_of_le (show w.heap.size < W.heap.size by omega) hb.size); (try have hzb := Nat.lt_of_lt_of_le (show w.heap.size + 1 < W.heap.size by omega) hb.size); (try have hzd := Nat.lt_of_lt_of_le (show w.heap.size + 1 + 1 < W.heap.size by omega) hb.size)
  go_wp2
  go_ret
  exact ⟨ret_int (by rfl), by assumption⟩
theorem fld2 (x y z : Value) (w : World) : (Instr.field 24 (.agg #[x, y, z]) 2).run Tryz.prog w = .ok z w := by kernel_rfl
set_option maxHeartbeats 400000 in
theorem PlacesOf_any (n : Bool) (c e : Int) (w : World) :
    Calls Tryz.prog 119 #[.agg #[.bool n, .int .i64 c, .int .i64 e]] w fun r w' => r = .returned (.int .i64 (Fd.placesI ⟨n, c, e⟩)) ∧ Below w.heap.size w w' := by
  cases hv : Fd.vld ⟨n, c, e⟩
  · have HF : Hid (Fd.placesI ⟨n, c, e⟩ = -1) := Lib.hid (by unfold Fd.placesI; rw [hv]; rfl)
    go_enter Tryz.func119, Tryz.ntmps119
    go_wp2_with (go_at_call 59; refine (valid_any _ _ _ _).mono ?_; rintro r w1 ⟨rfl, hb⟩; obtain ⟨hc, hf⟩ := bcell hb; have hB : Below w.heap.size w w1 := (by refine Below.trans ?_ (hb.mono (by first | omega | (simp; done) | (simp <;> omega))); repeat (first | with_reducible exact Below.refl _ _ | with_reducible assumption | with_reducible refine Below.setCell ?_ (by first | omega | (simp; done) | (simp <;> omega)) _ | with_reducible refine below_drewN ?_ _ | with_reducible refine Below.drew ?_ | with_reducible refine Below.alloc ?_ (by first | omega | (simp; done) | (simp <;> omega)) _)); have hz := hb.size; (try simp at hz); (try have hz0 : w.heap.size < w1.heap.size := by omega); (try have hz1 : w.heap.size + 1 < w1.heap.size := by omega); (try have hz2 : w.heap.size + 1 + 1 < w1.heap.size := by omega))
    go_ret
    exact ⟨ret_int (by rw [HF.out]), (by repeat (first | with_reducible exact Below.refl _ _ | with_reducible assumption | with_reducible refine Below.setCell ?_ (by first | omega | (simp; done) | (simp <;> omega)) _ | with_reducible refine below_drewN ?_ _ | with_reducible refine Below.drew ?_ | with_reducible refine Below.alloc ?_ (by first | omega | (simp; done) | (simp <;> omega)) _))⟩
  · have HF : Hid (Fd.placesI ⟨n, c, e⟩ = max 0 (- (Fd.nd ⟨n, c, e⟩).e)) := Lib.hid (by unfold Fd.placesI; rw [hv]; rfl)
    obtain ⟨b1, b2, b3, b4, _⟩ := Fd.nd_valid ⟨n, c, e⟩
    have hfl := fld2
    go_enter Tryz.func119, Tryz.ntmps119
    go_wp2_with (first | (go_at_call 59; refine (valid_any _ _ _ _).mono ?_; rintro r w1 ⟨rfl, hb⟩; obtain ⟨hc, hf⟩ := bcell hb; have hB : Below w.heap.size w w1 := (by refine Below.trans ?_ (hb.mono (by first | omega | (simp; done) | (simp <;> omega))); repeat (first | with_reducible exact Below.refl _ _ | with_reducible assumption | with_reducible refine Below.setCell ?_ (by first | omega | (simp; done) | (simp <;> omega)) _ | with_reducible refine below_drewN ?_ _ | with_reducible refine Below.drew ?_ | with_reducible refine Below.alloc ?_ (by first | omega | (simp; done) | (simp <;> omega)) _)); have hz := hb.size; (try simp at hz); (try have hz0 : w.heap.size < w1.heap.size := by omega); (try have hz1 : w.heap.size + 1 < w1.heap.size := by omega); (try have hz2 : w.heap.size + 1 + 1 < w1.heap.size := by omega)) | (go_at_call 24; refine (NormalDec_any _ _ _ _).mono ?_; rintro r w1 ⟨rfl, hb⟩; obtain ⟨hc, hf⟩ := bcell hb; have hB : Below w.heap.size w w1 := (by refine Below.trans ?_ (hb.mono (by first | omega | (simp; done) | (simp <;> omega))); repeat (first | with_reducible exact Below.refl _ _ | with_reducible assumption | with_reducible refine Below.setCell ?_ (by first | omega | (simp; done) | (simp <;> omega)) _ | with_reducible refine below_drewN ?_ _ | with_reducible refine Below.drew ?_ | with_reducible refine Below.alloc ?_ (by first | omega | (simp; done) | (simp <;> omega)) _)); have hz := hb.size; (try simp at hz); (try have hz0 : w.heap.size < w1.heap.size := by omega); (try have hz1 : w.heap.size + 1 < w1.heap.size := by omega); (try have hz2 : w.heap.size + 1 + 1 < w1.heap.size := by omega)))
    all_goals go_ret
    all_goals exact ⟨ret_int (by first | (rw [HF.out]; done) | (rw [HF.out]; omega)), (by repeat (first | with_reducible exact Below.refl _ _ | with_reducible assumption | with_reducible refine Below.setCell ?_ (by first | omega | (simp; done) | (simp <;> omega)) _ | with_reducible refine below_drewN ?_ _ | with_reducible refine Below.drew ?_ | with_reducible refine Below.alloc ?_ (by first | omega | (simp; done) | (simp <;> omega)) _))⟩
end Go.Proofs.YtebheehjhnaklaaGreatDoor
