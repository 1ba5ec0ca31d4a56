import Derived.Test.YtamlnbciejnbdaaGreatDoorF6
namespace Go.Proofs.YtamlnbciejnbdaaGreatDoor
open Go Go.RowKit
theorem hfit (d : Fd.D) : (⟨d.n, d.c, d.e⟩ : Fd.D) = d := rfl
/-- what a drop leaves can be fitted -/
theorem drop_bd {n : Bool} {c e k : Int} (h0 : 0 ≤ c) (h1 : c ≤ 999999999) (h2 : -12 ≤ e) (h3 : e ≤ 12) (_h4 : k ≤ 12 - e ∨ k ≤ 9) :
    0 ≤ (Fd.dropI ⟨n, c, e⟩ k).c ∧ (Fd.dropI ⟨n, c, e⟩ k).c ≤ 999999999 ∧ -12 ≤ (Fd.dropI ⟨n, c, e⟩ k).e ∧ (Fd.dropI ⟨n, c, e⟩ k).e ≤ 21 := by
  unfold Fd.dropI
  split
  · exact ⟨h0, h1, by simp only; omega, by simp only; omega⟩
  · split
    · simp [Fd.D.z]
    · have := Fd.rq_bd (c := c) (k := k) h0 (by omega)
      exact ⟨by simp only; omega, by simp only; omega, by simp only; omega, by simp only; omega⟩

set_option maxHeartbeats 1000000 in
theorem RoundDec_any (n : Bool) (c e p : Int) (w : World) :
    Calls Tryz.prog 14 #[.agg #[.bool n, .int .i64 c, .int .i64 e], .int .i64 p] w fun r w' =>
      r = .returned (.agg #[.bool (Fd.roundI ⟨n, c, e⟩ p).n, .int .i64 (Fd.roundI ⟨n, c, e⟩ p).c, .int .i64 (Fd.roundI ⟨n, c, e⟩ p).e]) ∧ Below w.heap.size w w' := by
  by_cases hk : Fd.vld ⟨n, c, e⟩ = true ∧ -12 ≤ p ∧ p ≤ 12
  · obtain ⟨hv, k1, k2⟩ := hk
    have HF : Hid (Fd.roundI ⟨n, c, e⟩ p = (Fd.fit1 (Fd.dropI ⟨n, c, e⟩ (-p - e))).1) := Lib.hid (by unfold Fd.roundI; rw [hv, decide_eq_false (by omega), decide_eq_false (by omega)]; rfl)
    obtain ⟨b1, b2, b3, b4⟩ := bounds_of hv
    obtain ⟨d1, d2, d3, d4⟩ := drop_bd (n := n) (k := -p - e) b1 b2 b3 b4 (.inl (by omega))
    go_enter Tryz.func14, Tryz.ntmps14
    go_wp2_with (first | (go_at_call 56; refine (valid_any _ _ _ _).mono ?_; rintro r w1 ⟨rfl, hb⟩; obtain ⟨hc, hf⟩ := bcell hb; have hB : Below w.heap.size w w1 := (by refine Below.trans ?_ (hb.mono (by first | omega | (simp; done) | (simp <;> omega))); repeat (first | with_reducible exact Below.refl _ _ | with_reducible assumption | with_reducible refine Below.setCell ?_ (by first | omega | (simp; done) | (simp <;> omega)) _ | with_reducible refine below_drewN ?_ _ | with_reducible refine Below.drew ?_ | with_reducible refine Below.alloc ?_ (by first | omega | (simp; done) | (simp <;> omega)) _)); have hz := hb.size; (try simp at hz); (try have hz0 : w.heap.size < w1.heap.size := by omega); (try have hz1 : w.heap.size + 1 < w1.heap.size := by omega); (try have hz2 : w.heap.size + 1 + 1 < w1.heap.size := by omega)) | (go_at_call 57; refine (dropped_any _ _ _ _ _ b1 b2 (by omega) (by omega) (by omega)).mono ?_; rintro r w1 ⟨rfl, hb⟩; obtain ⟨hc, hf⟩ := bcell hb; have hB : Below w.heap.size w w1 := (by refine Below.trans ?_ (hb.mono (by first | omega | (simp; done) | (simp <;> omega))); repeat (first | with_reducible exact Below.refl _ _ | with_reducible assumption | with_reducible refine Below.setCell ?_ (by first | omega | (simp; done) | (simp <;> omega)) _ | with_reducible refine below_drewN ?_ _ | with_reducible refine Below.drew ?_ | with_reducible refine Below.alloc ?_ (by first | omega | (simp; done) | (simp <;> omega)) _)); have hz := hb.size; (try simp at hz); (try have hz0 : w.heap.size < w1.heap.size := by omega); (try have hz1 : w.heap.size + 1 < w1.heap.size := by omega); (try have hz2 : w.heap.size + 1 + 1 < w1.heap.size := by omega)) | (go_at_call 55; refine (fitted_any _ _ _ _ d1 (by omega) (by omega) (by omega)).mono ?_; rintro r w1 ⟨rfl, hb⟩; obtain ⟨hc, hf⟩ := bcell hb; have hB : Below w.heap.size w w1 := (by refine Below.trans ?_ (hb.mono (by first | omega | (simp; done) | (simp <;> omega))); repeat (first | with_reducible exact Below.refl _ _ | with_reducible assumption | with_reducible refine Below.setCell ?_ (by first | omega | (simp; done) | (simp <;> omega)) _ | with_reducible refine below_drewN ?_ _ | with_reducible refine Below.drew ?_ | with_reducible refine Below.alloc ?_ (by first | omega | (simp; done) | (simp <;> omega)) _)); have hz := hb.size; (try simp at hz); (try have hz0 : w.heap.size < w1.heap.size := by omega); (try have hz1 : w.heap.size + 1 < w1.heap.size := by omega); (try have hz2 : w.heap.size + 1 + 1 < w1.heap.size := by omega)))
    exact bodyPost_ret (v := .agg #[.bool (Fd.fit1 (Fd.dropI ⟨n, c, e⟩ (-p - e))).1.n, .int .i64 (Fd.fit1 (Fd.dropI ⟨n, c, e⟩ (-p - e))).1.c, .int .i64 (Fd.fit1 (Fd.dropI ⟨n, c, e⟩ (-p - e))).1.e]) (by simp [results, Tryz.results14, go_sem, *]) rfl ⟨by rw [HF.out], (by repeat (first | with_reducible exact Below.refl _ _ | with_reducible assumption | with_reducible refine Below.setCell ?_ (by first | omega | (simp; done) | (simp <;> omega)) _ | with_reducible refine below_drewN ?_ _ | with_reducible refine Below.drew ?_ | with_reducible refine Below.alloc ?_ (by first | omega | (simp; done) | (simp <;> omega)) _))⟩
  · have HF : Hid (Fd.roundI ⟨n, c, e⟩ p = Fd.D.z) := Lib.hid (by
      unfold Fd.roundI; rw [if_pos]
      cases hv : Fd.vld ⟨n, c, e⟩
      · rfl
      · simp; rw [hv] at hk; simp at hk; omega)
    have hcase : (Fd.vld ⟨n, c, e⟩ = false) ∨ (Fd.vld ⟨n, c, e⟩ = true ∧ p < -12) ∨ (Fd.vld ⟨n, c, e⟩ = true ∧ -12 ≤ p ∧ 12 < p) := by
      cases hv : Fd.vld ⟨n, c, e⟩
      · simp
      · rw [hv] at hk; simp at hk ⊢; omega
    clear hk
    rcases hcase with hv | ⟨hv, k1⟩ | ⟨hv, k1, k2⟩
    all_goals
      go_enter Tryz.func14, Tryz.ntmps14
      go_wp2_with (go_at_call 56; refine (valid_any _ _ _ _).mono ?_; rintro r w1 ⟨rfl, hb⟩; obtain ⟨hc, hf⟩ := bcell hb; have hB : Below w.heap.size w w1 := (by refine Below.trans ?_ (hb.mono (by first | omega | (simp; done) | (simp <;> omega))); repeat (first | with_reducible exact Below.refl _ _ | with_reducible assumption | with_reducible refine Below.setCell ?_ (by first | omega | (simp; done) | (simp <;> omega)) _ | with_reducible refine below_drewN ?_ _ | with_reducible refine Below.drew ?_ | with_reducible refine Below.alloc ?_ (by first | omega | (simp; done) | (simp <;> omega)) _)); have hz := hb.size; (try simp at hz); (try have hz0 : w.heap.size < w1.heap.size := by omega); (try have hz1 : w.heap.size + 1 < w1.heap.size := by omega); (try have hz2 : w.heap.size + 1 + 1 < w1.heap.size := by omega))
      exact bodyPost_ret (v := .agg #[.bool false, .int .i64 0, .int .i64 0]) (by simp [results, Tryz.results14, go_sem, *]) rfl ⟨by rw [HF.out]; rfl, (by repeat (first | with_reducible exact Below.refl _ _ | with_reducible assumption | with_reducible refine Below.setCell ?_ (by first | omega | (simp; done) | (simp <;> omega)) _ | with_reducible refine below_drewN ?_ _ | with_reducible refine Below.drew ?_ | with_reducible refine Below.alloc ?_ (by first | omega | (simp; done) | (simp <;> omega)) _))⟩

end Go.Proofs.YtamlnbciejnbdaaGreatDoor
