import Derived.Test.YtebheehjhnaklaaDoorRR2
import Derived.Test.YtebheehjhnaklaaDoorC7
namespace Go.Proofs.YtebheehjhnaklaaDoor
open Go Go.RowKit
set_option maxHeartbeats 1000000 in
theorem fittedW_any (n : Bool) (c e : Int) (w : World) (h0 : 0 ≤ c) (h1 : c ≤ 2000000000000000000) (h2 : -400 ≤ e) (h3 : e ≤ 400) :
    Calls Tryd.prog 14 #[.agg #[.bool n, .int .i64 c, .int .i64 e]] w fun r w' =>
      r = .returned (.tuple #[.agg #[.bool (Fd.fit1 ⟨n, c, e⟩).1.n, .int .i64 (Fd.fit1 ⟨n, c, e⟩).1.c, .int .i64 (Fd.fit1 ⟨n, c, e⟩).1.e], .bool (Fd.fit1 ⟨n, c, e⟩).2]) ∧ Below w.heap.size w w' := by
  by_cases hz : c = 0
  · subst hz
    rw [Fd.fit_cz]
    go_enter Tryd.func14, Tryd.ntmps14
    go_wp2
    exact bodyPost_ret (v := .tuple #[.agg #[.bool false, .int .i64 0, .int .i64 0], .bool true]) (by simp [results, Tryd.results14, go_sem]) rfl ⟨rfl, ((Below.refl _ _).alloc (Nat.le_refl _) _).alloc (by simp) _⟩
  · have hzb : (c == 0) = false := by simpa using hz
    go_enter Tryd.func14, Tryd.ntmps14
    go_wp2
    go_loopg [16] (12 - e).toNat (fun g _ wr => ∃ c' e' : Int, wr = (w.alloc (.cells #[.bool n, .int .i64 c', .int .i64 e'] 23)).alloc (.cells #[.bool false, .int .i64 0, .int .i64 0] 23) ∧ 0 < c' ∧ c' ≤ c ∧ e ≤ e' ∧ (e' ≤ 400) ∧ g = (12 - e').toNat ∧ Aside (Fd.strip1 c' e' = Fd.strip1 c e))
    case atStart => exact ⟨c, e, rfl, by omega, by omega, by omega, by omega, rfl, rfl⟩
    case round =>
      obtain ⟨c', e', rfl, r1, r2, r3, r4, rfl, r5⟩ := hrel
      by_cases hgo : e' < 12 ∧ c' % 10 = 0
      · obtain ⟨g1, g2⟩ := hgo
        have g2b : (c' % 10 == 0) = true := by simpa using g2
        have G2 := Lib.hid g2
        clear g2
        go_wp2
        go_roundg (12 - (e' + 1)).toNat
        case measure => omega
        case rel => exact ⟨c' / 10, e' + 1, rfl, by have := G2.out; omega, by omega, by omega, by omega, rfl, by rw [← r5.out, ← Fd.strip1_yes r1 g1 G2.out]; exact rfl⟩
      · have R5 : Aside (Fd.strip1 c e = (c', e')) := by rw [← r5.out, Fd.strip1_no (by omega)]; exact rfl
        have hcase : (e' < 12 ∧ (c' % 10 == 0) = false) ∨ 12 ≤ e' := by
          by_cases g1 : e' < 12
          · left; exact ⟨g1, by simp; omega⟩
          · right; omega
        clear hgo r5
        rcases hcase with ⟨g1, g2b⟩ | g1
        all_goals
          go_wp2
          go_loopg [32] e'.toNat (fun g _ wr => ∃ c2 e2 : Int, wr = (w.alloc (.cells #[.bool n, .int .i64 c2, .int .i64 e2] 23)).alloc (.cells #[.bool false, .int .i64 0, .int .i64 0] 23) ∧ 0 < c2 ∧ c2 ≤ 2000000000000000000 ∧ -400 ≤ e2 ∧ e2 ≤ 400 ∧ g = e2.toNat ∧ Aside (Fd.grow1 c2 e2 = Fd.grow1 c' e'))
          case atStart => exact ⟨c', e', rfl, by omega, by omega, by omega, by omega, rfl, rfl⟩
          case round =>
            obtain ⟨c2, e2, rfl, q1, q2, q3, q4, rfl, q5⟩ := hrel
            by_cases hgo : 12 < e2 ∧ c2 ≤ 999999999
            · obtain ⟨g3, g4⟩ := hgo
              go_wp2
              go_roundg (e2 - 1).toNat
              case measure => omega
              case rel => exact ⟨c2 * 10, e2 - 1, rfl, by omega, by omega, by omega, by omega, rfl, by rw [← q5.out, ← Fd.grow1_yes g3 g4]; exact rfl⟩
            · have Q5 := Lib.hid (Fd.fit1_of (n := n) hz R5.out (q5.out.symm.trans (Fd.grow1_no hgo)))
              clear q5
              have hcase : (12 < e2 ∧ 999999999 < c2) ∨ e2 ≤ 12 := by omega
              clear hgo
              have HV : (Fd.vld ⟨n, c2, e2⟩ = false ∧ Hid (Fd.fit1 ⟨n, c, e⟩ = (Fd.D.z, false))) ∨ (Fd.vld ⟨n, c2, e2⟩ = true ∧ Hid (Fd.fit1 ⟨n, c, e⟩ = (⟨n, c2, e2⟩, true))) := by
                cases hv : Fd.vld ⟨n, c2, e2⟩
                · left; exact ⟨rfl, Lib.hid (by rw [Q5.out, hv]; rfl)⟩
                · right; exact ⟨rfl, Lib.hid (by rw [Q5.out, hv]; rfl)⟩
              rcases HV with ⟨hv, HV⟩ | ⟨hv, HV⟩
              · rcases hcase with ⟨g3, g4⟩ | g3
                all_goals
                  go_wp2_with (go_at_call 29; refine (valid_any _ _ _ _).mono ?_; rintro r w1 ⟨rfl, hb⟩; obtain ⟨hc, hf⟩ := bcell hb)
                  exact bodyPost_ret (v := .tuple #[.agg #[.bool false, .int .i64 0, .int .i64 0], .bool false]) (by simp [results, Tryd.results14, go_sem, hc]) rfl
                    ⟨by rw [HV.out]; rfl, (((((Below.refl _ _).alloc (Nat.le_refl _) _).alloc (by simp) _).trans (hb.mono (by simp; omega))).setCell (by simp) _ |>.setCell (by simp) _).setCell (by simp) _⟩
              · rcases hcase with ⟨g3, g4⟩ | g3
                all_goals
                  go_wp2_with (go_at_call 29; refine (valid_any _ _ _ _).mono ?_; rintro r w1 ⟨rfl, hb⟩; obtain ⟨hc, hf⟩ := bcell hb)
                  exact bodyPost_ret (v := .tuple #[.agg #[.bool n, .int .i64 c2, .int .i64 e2], .bool true]) (by simp [results, Tryd.results14, go_sem, hc]) rfl
                    ⟨by rw [HV.out], (((((Below.refl _ _).alloc (Nat.le_refl _) _).alloc (by simp) _).trans (hb.mono (by simp; omega))).setCell (by simp) _ |>.setCell (by simp) _).setCell (by simp) _⟩
end Go.Proofs.YtebheehjhnaklaaDoor
