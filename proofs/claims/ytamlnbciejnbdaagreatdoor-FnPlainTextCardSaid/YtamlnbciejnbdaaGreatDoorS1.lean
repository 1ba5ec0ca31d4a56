import Derived.Test.YtamlnbciejnbdaaGreatDoorC7
import Derived.Test.YtamlnbciejnbdaaGreatDoorPl2
namespace Go.Proofs.YtamlnbciejnbdaaGreatDoor
open Go.RowKit

set_option maxHeartbeats 1000000 in
theorem normalS_any (n : Bool) (c e : Int) (w : World) (h0 : 0 ≤ c) (h1 : c ≤ 2000000000000000000) (h2 : -24 ≤ e) (h3 : e ≤ 24) :
    Calls Tryz.prog 113 #[.agg #[.bool n, .int .i64 c, .int .i64 e]] w fun r w' =>
      r = .returned (.agg #[.bool (Fd.normal2 ⟨n, c, e⟩).n, .int .i64 (Fd.normal2 ⟨n, c, e⟩).c, .int .i64 (Fd.normal2 ⟨n, c, e⟩).e]) ∧ Below w.heap.size w w' := by
  by_cases hz : c = 0
  · have HF : Hid (Fd.normal2 ⟨n, c, e⟩ = Fd.D.z) := Lib.hid (by unfold Fd.normal2; rw [if_pos hz])
    have hzb : (c == 0) = true := by simpa using hz
    clear hz
    go_enter Tryz.func113, Tryz.ntmps113
    go_wp2
    exact bodyPost_ret (v := .agg #[.bool false, .int .i64 0, .int .i64 0]) (by simp [results, Tryz.results113, go_sem]) rfl ⟨by rw [HF.out]; rfl, (by repeat (first | with_reducible exact Below.refl _ _ | with_reducible assumption | with_reducible refine Below.setCell ?_ (by first | omega | (simp; done) | (simp <;> omega)) _ | with_reducible refine below_drewN ?_ _ | with_reducible refine Below.drew ?_ | with_reducible refine Below.alloc ?_ (by first | omega | (simp; done) | (simp <;> omega)) _))⟩
  · have hzb : (c == 0) = false := by simpa using hz
    have hd := Fd.dc_le19 h1
    go_enter Tryz.func113, Tryz.ntmps113
    go_wp2
    go_loopg [10] c.toNat (fun g _ wr => ∃ c' e' : Int, wr = (w.alloc (.cells #[.bool n, .int .i64 c', .int .i64 e'] 24)).alloc (.cells #[.bool false, .int .i64 0, .int .i64 0] 24) ∧ 0 < c' ∧ c' ≤ c ∧ e ≤ e' ∧ g = c'.toNat ∧ e' ≤ 24 + 19 ∧ Aside (Fd.strip2 c' e' = Fd.strip2 c e ∧ e' + Fd.dc c' = e + Fd.dc c))
    case atStart => exact ⟨c, e, rfl, by omega, by omega, by omega, rfl, by omega, rfl, rfl⟩
    case round =>
      obtain ⟨c', e', rfl, r1, r2, r3, rfl, r4, r5⟩ := hrel
      by_cases hgo : c' % 10 = 0
      · have g2b : (c' % 10 == 0) = true := by simpa using hgo
        have G2 := Lib.hid hgo
        clear hgo
        go_wp2
        obtain ⟨r6, r7⟩ := r5.out
        have hdp := Fd.dc_pos r1
        have hdn := Fd.dc_nonneg (c' / 10)
        have g2 := G2.out
        go_roundg (c' / 10).toNat
        case measure => omega
        case rel => exact ⟨c' / 10, e' + 1, rfl, by omega, by omega, by omega, rfl, by omega, by rw [← r6, ← Fd.strip2_yes r1 g2], by omega⟩
      · have g2b : (c' % 10 == 0) = false := by simpa using hgo
        have HF : Hid (Fd.normal2 ⟨n, c, e⟩ = ⟨n, c', e'⟩) := Lib.hid (by
          unfold Fd.normal2; rw [if_neg (by exact hz)]; simp only; rw [← r5.out.1, Fd.strip2_no hgo])
        clear hgo r5
        go_wp2
        exact bodyPost_ret (v := .agg #[.bool n, .int .i64 c', .int .i64 e']) (by simp [results, Tryz.results113, go_sem]) rfl ⟨by rw [HF.out], (by repeat (first | with_reducible exact Below.refl _ _ | with_reducible assumption | with_reducible refine Below.setCell ?_ (by first | omega | (simp; done) | (simp <;> omega)) _ | with_reducible refine below_drewN ?_ _ | with_reducible refine Below.drew ?_ | with_reducible refine Below.alloc ?_ (by first | omega | (simp; done) | (simp <;> omega)) _))⟩

set_option maxHeartbeats 1000000 in
theorem fittedS_any (n : Bool) (c e : Int) (w : World) (h0 : 0 ≤ c) (h1 : c ≤ 2000000000000000000) (h2 : -24 ≤ e) (h3 : e ≤ 43) (h4 : 12 < e → c ≤ 2000000000) :
    Calls Tryz.prog 178 #[.agg #[.bool n, .int .i64 c, .int .i64 e]] w fun r w' =>
      r = .returned (.tuple #[.agg #[.bool (Fd.fit2 ⟨n, c, e⟩).1.n, .int .i64 (Fd.fit2 ⟨n, c, e⟩).1.c, .int .i64 (Fd.fit2 ⟨n, c, e⟩).1.e], .bool (Fd.fit2 ⟨n, c, e⟩).2]) ∧ Below w.heap.size w w' := by
  go_enter Tryz.func178, Tryz.ntmps178
  go_wp2
  go_loopg [12] e.toNat (fun g _ wr => ∃ c2 e2 : Int, wr = (w.alloc (.cells #[.bool n, .int .i64 c2, .int .i64 e2] 24)).alloc (.cells #[.bool false, .int .i64 0, .int .i64 0] 24) ∧ 0 ≤ c2 ∧ c2 ≤ 2000000000000000000 ∧ -24 ≤ e2 ∧ e2 ≤ 43 ∧ Aside (12 < e2 → c2 ≤ 2000000000) ∧ g = e2.toNat ∧ Aside (Fd.grow2 c2 e2 = Fd.grow2 c e))
  case atStart => exact ⟨c, e, rfl, by omega, by omega, by omega, by omega, h4, rfl, rfl⟩
  case round =>
    obtain ⟨c2, e2, rfl, q1, q2, q3, q4, q6, rfl, q5⟩ := hrel
    clear h4
    by_cases hgo : 12 < e2 ∧ c2 * 10 ≤ 999999999
    · obtain ⟨g3, g4⟩ := hgo
      have g5 := q6.out g3
      go_wp2
      go_roundg (e2 - 1).toNat
      case measure => omega
      case rel => exact ⟨c2 * 10, e2 - 1, rfl, by omega, by omega, by omega, by omega, by intro; omega, rfl, by rw [← q5.out, ← Fd.grow2_yes g3 g4]; exact rfl⟩
    · have hfit : Fd.fit2 ⟨n, c, e⟩ = if Fd.vld ⟨n, c2, e2⟩ then (⟨n, c2, e2⟩, true) else (Fd.D.z, false) := by
        unfold Fd.fit2; simp only; rw [← q5.out, Fd.grow2_no hgo]
      have HV : (Fd.vld ⟨n, c2, e2⟩ = false ∧ Hid (Fd.fit2 ⟨n, c, e⟩ = (Fd.D.z, false))) ∨ (Fd.vld ⟨n, c2, e2⟩ = true ∧ Hid (Fd.fit2 ⟨n, c, e⟩ = (⟨n, c2, e2⟩, true))) := by
        cases hv : Fd.vld ⟨n, c2, e2⟩
        · left; exact ⟨rfl, Lib.hid (by rw [hfit, hv]; rfl)⟩
        · right; exact ⟨rfl, Lib.hid (by rw [hfit, hv]; rfl)⟩
      have hcase : (12 < e2 ∧ c2 ≤ 2000000000 ∧ 999999999 < c2 * 10) ∨ e2 ≤ 12 := by
        by_cases g : 12 < e2
        · left; have := q6.out g; exact ⟨g, this, by omega⟩
        · right; omega
      clear hgo hfit q5 q6
      rcases HV with ⟨hv, HV⟩ | ⟨hv, HV⟩
      · rcases hcase with ⟨g3, g4, g5⟩ | g3
        all_goals
          go_wp2_with (go_at_call 45; refine (validS_any _ _ _ _).mono ?_; rintro r w1 ⟨rfl, hb⟩; obtain ⟨hc, hf⟩ := bcell hb; have hB : Below w.heap.size w w1 := (by refine Below.trans ?_ (hb.mono (by first | omega | (simp; done) | (simp <;> omega))); repeat (first | with_reducible exact Below.refl _ _ | with_reducible assumption | with_reducible refine Below.setCell ?_ (by first | omega | (simp; done) | (simp <;> omega)) _ | with_reducible refine below_drewN ?_ _ | with_reducible refine Below.drew ?_ | with_reducible refine Below.alloc ?_ (by first | omega | (simp; done) | (simp <;> omega)) _)); have hz := hb.size; (try simp at hz); (try have hz0 : w.heap.size < w1.heap.size := by omega); (try have hz1 : w.heap.size + 1 < w1.heap.size := by omega); (try have hz2 : w.heap.size + 1 + 1 < w1.heap.size := by omega))
          exact bodyPost_ret (v := .tuple #[.agg #[.bool false, .int .i64 0, .int .i64 0], .bool false]) (by simp [results, Tryz.results178, go_sem, hc]) rfl ⟨by rw [HV.out]; rfl, (by repeat (first | with_reducible exact Below.refl _ _ | with_reducible assumption | with_reducible refine Below.setCell ?_ (by first | omega | (simp; done) | (simp <;> omega)) _ | with_reducible refine below_drewN ?_ _ | with_reducible refine Below.drew ?_ | with_reducible refine Below.alloc ?_ (by first | omega | (simp; done) | (simp <;> omega)) _))⟩
      · rcases hcase with ⟨g3, g4, g5⟩ | g3
        all_goals
          go_wp2_with (go_at_call 45; refine (validS_any _ _ _ _).mono ?_; rintro r w1 ⟨rfl, hb⟩; obtain ⟨hc, hf⟩ := bcell hb; have hB : Below w.heap.size w w1 := (by refine Below.trans ?_ (hb.mono (by first | omega | (simp; done) | (simp <;> omega))); repeat (first | with_reducible exact Below.refl _ _ | with_reducible assumption | with_reducible refine Below.setCell ?_ (by first | omega | (simp; done) | (simp <;> omega)) _ | with_reducible refine below_drewN ?_ _ | with_reducible refine Below.drew ?_ | with_reducible refine Below.alloc ?_ (by first | omega | (simp; done) | (simp <;> omega)) _)); have hz := hb.size; (try simp at hz); (try have hz0 : w.heap.size < w1.heap.size := by omega); (try have hz1 : w.heap.size + 1 < w1.heap.size := by omega); (try have hz2 : w.heap.size + 1 + 1 < w1.heap.size := by omega))
          exact bodyPost_ret (v := .tuple #[.agg #[.bool n, .int .i64 c2, .int .i64 e2], .bool true]) (by simp [results, Tryz.results178, go_sem, hc]) rfl ⟨by rw [HV.out], (by repeat (first | with_reducible exact Below.refl _ _ | with_reducible assumption | with_reducible refine Below.setCell ?_ (by first | omega | (simp; done) | (simp <;> omega)) _ | with_reducible refine below_drewN ?_ _ | with_reducible refine Below.drew ?_ | with_reducible refine Below.alloc ?_ (by first | omega | (simp; done) | (simp <;> omega)) _))⟩
end Go.Proofs.YtamlnbciejnbdaaGreatDoor
