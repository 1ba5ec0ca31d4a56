import Derived.Test.YtehocgedlepajaaC7
namespace Go.Proofs.Ytehocgedlepajaa
open Go.RowKit

theorem set3 {w1 : World} {b : Nat} {a0 a1 a2 : Value} (h0 : w1.cell? ⟨b, 0, none⟩ = some a0) (h1 : w1.cell? ⟨b, 1, none⟩ = some a1) (h2 : w1.cell? ⟨b, 2, none⟩ = some a2) (x y z : Value) :
    (((w1.setCell ⟨b, 0, none⟩ x).setCell ⟨b, 1, none⟩ y).setCell ⟨b, 2, none⟩ z).cell? ⟨b, 0, none⟩ = some x ∧
    (((w1.setCell ⟨b, 0, none⟩ x).setCell ⟨b, 1, none⟩ y).setCell ⟨b, 2, none⟩ z).cell? ⟨b, 1, none⟩ = some y ∧
    (((w1.setCell ⟨b, 0, none⟩ x).setCell ⟨b, 1, none⟩ y).setCell ⟨b, 2, none⟩ z).cell? ⟨b, 2, none⟩ = some z := by
  refine ⟨?_, ?_, ?_⟩ <;> simp [h0, h1, h2, go_sem]
theorem hfit (d : Fd.D) : (⟨d.n, d.c, d.e⟩ : Fd.D) = d := rfl
/-- what a drop leaves can be fitted -/
theorem drop_bd {n : Bool} {c e k : Int} (h0 : 0 ≤ c) (h1 : c ≤ 999999999) (h2 : -12 ≤ e) (h3 : e ≤ 12) (_h4 : k ≤ 12 - e ∨ k ≤ 9) :
    0 ≤ (Fd.dropI ⟨n, c, e⟩ k).c ∧ (Fd.dropI ⟨n, c, e⟩ k).c ≤ 999999999 ∧ -12 ≤ (Fd.dropI ⟨n, c, e⟩ k).e ∧ (Fd.dropI ⟨n, c, e⟩ k).e ≤ 21 := by
  unfold Fd.dropI
  split
  · exact ⟨h0, h1, by simp only; omega, by simp only; omega⟩
  · split
    · simp [Fd.D.z]
    · have := Fd.rq_bd (c := c) (k := k) h0 (by omega)
      exact ⟨by simp only; omega, by simp only; omega, by simp only; omega, by simp only; omega⟩

set_option maxHeartbeats 1000000 in
theorem RoundDec_any (n : Bool) (c e p : Int) (w : World) :
    Calls Try.prog 42 #[.agg #[.bool n, .int .i64 c, .int .i64 e], .int .i64 p] w fun r w' =>
      r = .returned (.agg #[.bool (Fd.roundI ⟨n, c, e⟩ p).n, .int .i64 (Fd.roundI ⟨n, c, e⟩ p).c, .int .i64 (Fd.roundI ⟨n, c, e⟩ p).e]) ∧ Below w.heap.size w w' := by
  by_cases hk : Fd.vld ⟨n, c, e⟩ = true ∧ -12 ≤ p ∧ p ≤ 12
  · obtain ⟨hv, k1, k2⟩ := hk
    have HF : Hid (Fd.roundI ⟨n, c, e⟩ p = (Fd.fit1 (Fd.dropI ⟨n, c, e⟩ (-p - e))).1) := Lib.hid (by unfold Fd.roundI; rw [hv, decide_eq_false (by omega), decide_eq_false (by omega)]; rfl)
    obtain ⟨b1, b2, b3, b4⟩ := bounds_of hv
    obtain ⟨d1, d2, d3, d4⟩ := drop_bd (n := n) (k := -p - e) b1 b2 b3 b4 (.inl (by omega))
    go_enter Try.func42, Try.ntmps42
    go_wp2_with (first | (go_at_call 56; refine (valid_any _ _ _ _).mono ?_; rintro r w1 ⟨rfl, hb⟩; obtain ⟨hc, hf⟩ := bcell hb; have hB : Below w.heap.size w w1 := (by refine Below.trans ?_ (hb.mono (by first | omega | (simp; done) | (simp <;> omega))); repeat (first | with_reducible exact Below.refl _ _ | with_reducible assumption | with_reducible refine Below.setCell ?_ (by first | omega | (simp; done) | (simp <;> omega)) _ | with_reducible refine below_drewN ?_ _ | with_reducible refine Below.drew ?_ | with_reducible refine Below.alloc ?_ (by first | omega | (simp; done) | (simp <;> omega)) _)); have hz := hb.size; (try simp at hz); (try have hz0 : w.heap.size < w1.heap.size := by omega); (try have hz1 : w.heap.size + 1 < w1.heap.size := by omega); (try have hz2 : w.heap.size + 1 + 1 < w1.heap.size := by omega)) | (go_at_call 77; refine (dropped_any _ _ _ _ _ b1 b2 (by omega) (by omega) (by omega)).mono ?_; rintro r w1 ⟨rfl, hb⟩; obtain ⟨hc, hf⟩ := bcell hb; have hB : Below w.heap.size w w1 := (by refine Below.trans ?_ (hb.mono (by first | omega | (simp; done) | (simp <;> omega))); repeat (first | with_reducible exact Below.refl _ _ | with_reducible assumption | with_reducible refine Below.setCell ?_ (by first | omega | (simp; done) | (simp <;> omega)) _ | with_reducible refine below_drewN ?_ _ | with_reducible refine Below.drew ?_ | with_reducible refine Below.alloc ?_ (by first | omega | (simp; done) | (simp <;> omega)) _)); have hz := hb.size; (try simp at hz); (try have hz0 : w.heap.size < w1.heap.size := by omega); (try have hz1 : w.heap.size + 1 < w1.heap.size := by omega); (try have hz2 : w.heap.size + 1 + 1 < w1.heap.size := by omega)) | (go_at_call 58; refine (fitted_any _ _ _ _ d1 (by omega) (by omega) (by omega)).mono ?_; rintro r w1 ⟨rfl, hb⟩; obtain ⟨hc, hf⟩ := bcell hb; have hB : Below w.heap.size w w1 := (by refine Below.trans ?_ (hb.mono (by first | omega | (simp; done) | (simp <;> omega))); repeat (first | with_reducible exact Below.refl _ _ | with_reducible assumption | with_reducible refine Below.setCell ?_ (by first | omega | (simp; done) | (simp <;> omega)) _ | with_reducible refine below_drewN ?_ _ | with_reducible refine Below.drew ?_ | with_reducible refine Below.alloc ?_ (by first | omega | (simp; done) | (simp <;> omega)) _)); have hz := hb.size; (try simp at hz); (try have hz0 : w.heap.size < w1.heap.size := by omega); (try have hz1 : w.heap.size + 1 < w1.heap.size := by omega); (try have hz2 : w.heap.size + 1 + 1 < w1.heap.size := by omega)))
    exact bodyPost_ret (v := .agg #[.bool (Fd.fit1 (Fd.dropI ⟨n, c, e⟩ (-p - e))).1.n, .int .i64 (Fd.fit1 (Fd.dropI ⟨n, c, e⟩ (-p - e))).1.c, .int .i64 (Fd.fit1 (Fd.dropI ⟨n, c, e⟩ (-p - e))).1.e]) (by simp [results, Try.results42, go_sem, *]) rfl ⟨by rw [HF.out], (by repeat (first | with_reducible exact Below.refl _ _ | with_reducible assumption | with_reducible refine Below.setCell ?_ (by first | omega | (simp; done) | (simp <;> omega)) _ | with_reducible refine below_drewN ?_ _ | with_reducible refine Below.drew ?_ | with_reducible refine Below.alloc ?_ (by first | omega | (simp; done) | (simp <;> omega)) _))⟩
  · have HF : Hid (Fd.roundI ⟨n, c, e⟩ p = Fd.D.z) := Lib.hid (by
      unfold Fd.roundI; rw [if_pos]
      cases hv : Fd.vld ⟨n, c, e⟩
      · rfl
      · simp; rw [hv] at hk; simp at hk; omega)
    have hcase : (Fd.vld ⟨n, c, e⟩ = false) ∨ (Fd.vld ⟨n, c, e⟩ = true ∧ p < -12) ∨ (Fd.vld ⟨n, c, e⟩ = true ∧ -12 ≤ p ∧ 12 < p) := by
      cases hv : Fd.vld ⟨n, c, e⟩
      · simp
      · rw [hv] at hk; simp at hk ⊢; omega
    clear hk
    rcases hcase with hv | ⟨hv, k1⟩ | ⟨hv, k1, k2⟩
    all_goals
      go_enter Try.func42, Try.ntmps42
      go_wp2_with (go_at_call 56; refine (valid_any _ _ _ _).mono ?_; rintro r w1 ⟨rfl, hb⟩; obtain ⟨hc, hf⟩ := bcell hb; have hB : Below w.heap.size w w1 := (by refine Below.trans ?_ (hb.mono (by first | omega | (simp; done) | (simp <;> omega))); repeat (first | with_reducible exact Below.refl _ _ | with_reducible assumption | with_reducible refine Below.setCell ?_ (by first | omega | (simp; done) | (simp <;> omega)) _ | with_reducible refine below_drewN ?_ _ | with_reducible refine Below.drew ?_ | with_reducible refine Below.alloc ?_ (by first | omega | (simp; done) | (simp <;> omega)) _)); have hz := hb.size; (try simp at hz); (try have hz0 : w.heap.size < w1.heap.size := by omega); (try have hz1 : w.heap.size + 1 < w1.heap.size := by omega); (try have hz2 : w.heap.size + 1 + 1 < w1.heap.size := by omega))
      exact bodyPost_ret (v := .agg #[.bool false, .int .i64 0, .int .i64 0]) (by simp [results, Try.results42, go_sem, *]) rfl ⟨by rw [HF.out]; rfl, (by repeat (first | with_reducible exact Below.refl _ _ | with_reducible assumption | with_reducible refine Below.setCell ?_ (by first | omega | (simp; done) | (simp <;> omega)) _ | with_reducible refine below_drewN ?_ _ | with_reducible refine Below.drew ?_ | with_reducible refine Below.alloc ?_ (by first | omega | (simp; done) | (simp <;> omega)) _))⟩

set_option maxHeartbeats 16000000 in
theorem RoundDigits_any (n : Bool) (c e p : Int) (w : World) :
    Calls Try.prog 47 #[.agg #[.bool n, .int .i64 c, .int .i64 e], .int .i64 p] w fun r w' =>
      r = .returned (.agg #[.bool (Fd.roundDI ⟨n, c, e⟩ p).n, .int .i64 (Fd.roundDI ⟨n, c, e⟩ p).c, .int .i64 (Fd.roundDI ⟨n, c, e⟩ p).e]) ∧ Below w.heap.size w w' := by
  by_cases hk : Fd.vld ⟨n, c, e⟩ = true ∧ 1 ≤ p ∧ p ≤ 9
  · obtain ⟨hv, k1, k2⟩ := hk
    have HF : Hid (Fd.roundDI ⟨n, c, e⟩ p = (Fd.fit1 (Fd.dropI ⟨n, c, e⟩ (Fd.dc c - p))).1) := Lib.hid (by unfold Fd.roundDI; rw [hv, decide_eq_false (by omega), decide_eq_false (by omega)]; rfl)
    obtain ⟨b1, b2, b3, b4⟩ := bounds_of hv
    have hd0 := Fd.dc_nonneg c
    have hd9 := Fd.dc_le9 b2
    obtain ⟨d1, d2, d3, d4⟩ := drop_bd (n := n) (k := Fd.dc c - p) b1 b2 b3 b4 (.inr (by omega))
    have hwr : IntKind.i64.wrap (Fd.dc c - p) = Fd.dc c - p := IntWalk.i64_in _ (by omega)
    go_enter Try.func47, Try.ntmps47
    go_upto_region 3 with (go_at_call 56; refine (valid_any _ _ _ _).mono ?_; rintro r w1 ⟨rfl, hb⟩; obtain ⟨hc, hf⟩ := bcell hb; have hB : Below w.heap.size w w1 := (by refine Below.trans ?_ (hb.mono (by first | omega | (simp; done) | (simp <;> omega))); repeat (first | with_reducible exact Below.refl _ _ | with_reducible assumption | with_reducible refine Below.setCell ?_ (by first | omega | (simp; done) | (simp <;> omega)) _ | with_reducible refine below_drewN ?_ _ | with_reducible refine Below.drew ?_ | with_reducible refine Below.alloc ?_ (by first | omega | (simp; done) | (simp <;> omega)) _)); have hz := hb.size; (try simp at hz); (try have hz0 : w.heap.size < w1.heap.size := by omega); (try have hz1 : w.heap.size + 1 < w1.heap.size := by omega); (try have hz2 : w.heap.size + 1 + 1 < w1.heap.size := by omega))
    clear hb hz
    generalize w1 = W at *
    go_cut [5] (fun s5 wx => ∃ g : Nat, s5 = .pointer (some ⟨g, 0, none⟩) ∧ wx.cell? ⟨g, 0, none⟩ = some (.bool (Fd.fit1 (Fd.dropI ⟨n, c, e⟩ (Fd.dc c - p))).1.n) ∧ wx.cell? ⟨g, 1, none⟩ = some (.int .i64 (Fd.fit1 (Fd.dropI ⟨n, c, e⟩ (Fd.dc c - p))).1.c) ∧ wx.cell? ⟨g, 2, none⟩ = some (.int .i64 (Fd.fit1 (Fd.dropI ⟨n, c, e⟩ (Fd.dc c - p))).1.e) ∧ (∀ b o, b < W.heap.size → wx.cell? ⟨b, o, none⟩ = W.cell? ⟨b, o, none⟩) ∧ Below W.heap.size W wx)
    case first =>
      have hS0 : (∀ b o, b < W.heap.size → W.cell? ⟨b, o, none⟩ = W.cell? ⟨b, o, none⟩) ∧ Below W.heap.size W W := ⟨fun _ _ _ => rfl, Below.refl _ _⟩; go_region_held3 (fun w_ => (∀ b o, b < W.heap.size → w_.cell? ⟨b, o, none⟩ = W.cell? ⟨b, o, none⟩) ∧ Below W.heap.size W w_) (repeat (first | with_reducible assumption | with_reducible refine keepD ?_ | with_reducible refine keepL ?_ _ | with_reducible refine keepS ?_ (by first | omega | (simp; done) | (simp <;> omega)) _ | with_reducible exact keepA (by with_reducible assumption) hb)) (first | (go_at_call 73; refine (digits_any _ _ _ _ b2).mono ?_; rintro r w1 ⟨rfl, hb⟩; obtain ⟨hc, hf⟩ := bcell hb; have hz := hb.size; have hm := bmono hb; (try simp at hz); (try simp at hm); (try have hm2 := bmono2 (by with_reducible assumption) hb); have hS1 := keepA (by with_reducible assumption) hb; have hzS := hS1.2.size; (try have hq0 : W.heap.size < w1.heap.size := by omega); (try have hq1 : W.heap.size + 1 < w1.heap.size := by omega); (try have hq2 := Nat.lt_of_succ_le hz)) | (go_at_call 77; refine (dropped_any _ _ _ _ _ b1 b2 (by omega) (by omega) (by omega)).mono ?_; rintro r w1 ⟨rfl, hb⟩; obtain ⟨hc, hf⟩ := bcell hb; have hz := hb.size; have hm := bmono hb; (try simp at hz); (try simp at hm); (try have hm2 := bmono2 (by with_reducible assumption) hb); have hS1 := keepA (by with_reducible assumption) hb; have hzS := hS1.2.size; (try have hq0 : W.heap.size < w1.heap.size := by omega); (try have hq1 : W.heap.size + 1 < w1.heap.size := by omega); (try have hq2 := Nat.lt_of_succ_le hz)) | (go_at_call 58; refine (fitted_any _ _ _ _ d1 (by omega) (by omega) (by omega)).mono ?_; rintro r w1 ⟨rfl, hb⟩; obtain ⟨hc, hf⟩ := bcell hb; have hz := hb.size; have hm := bmono hb; (try simp at hz); (try simp at hm); (try have hm2 := bmono2 (by with_reducible assumption) hb); have hS1 := keepA (by with_reducible assumption) hb; have hzS := hS1.2.size; (try have hq0 : W.heap.size < w1.heap.size := by omega); (try have hq1 : W.heap.size + 1 < w1.heap.size := by omega); (try have hq2 := Nat.lt_of_succ_le hz)))
      all_goals go_wp2_with fail
      all_goals go_meet
      all_goals refine ⟨_, rfl, ?_, ?_, ?_, by assumption⟩
      all_goals first
        | (simp [go_sem, *]; done)
        | exact (set3 (a0 := .bool false) (a1 := .int .i64 0) (a2 := .int .i64 0) (by simp [go_sem, *]) (by simp [go_sem, *]) (by simp [go_sem, *]) _ _ _).1
        | exact (set3 (a0 := .bool false) (a1 := .int .i64 0) (a2 := .int .i64 0) (by simp [go_sem, *]) (by simp [go_sem, *]) (by simp [go_sem, *]) _ _ _).2.1
        | exact (set3 (a0 := .bool false) (a1 := .int .i64 0) (a2 := .int .i64 0) (by simp [go_sem, *]) (by simp [go_sem, *]) (by simp [go_sem, *]) _ _ _).2.2
    case rest =>
      obtain ⟨g, rfl, q0, q1, q2, hc2, hb2⟩ := hcut
      have hf2 := (bcell hb2).2
      have hB2 : Below w.heap.size w wc := hB.trans (hb2.mono (by omega))
      go_wp2
      exact bodyPost_ret (v := .agg #[.bool (Fd.fit1 (Fd.dropI ⟨n, c, e⟩ (Fd.dc c - p))).1.n, .int .i64 (Fd.fit1 (Fd.dropI ⟨n, c, e⟩ (Fd.dc c - p))).1.c, .int .i64 (Fd.fit1 (Fd.dropI ⟨n, c, e⟩ (Fd.dc c - p))).1.e]) (by simp [results, Try.results47, go_sem, *]) rfl ⟨by rw [HF.out], (by repeat (first | with_reducible exact Below.refl _ _ | with_reducible assumption | with_reducible refine Below.setCell ?_ (by first | omega | (simp; done) | (simp <;> omega)) _ | with_reducible refine below_drewN ?_ _ | with_reducible refine Below.drew ?_ | with_reducible refine Below.alloc ?_ (by first | omega | (simp; done) | (simp <;> omega)) _))⟩
  · have HF : Hid (Fd.roundDI ⟨n, c, e⟩ p = Fd.D.z) := Lib.hid (by
      unfold Fd.roundDI; rw [if_pos]
      cases hv : Fd.vld ⟨n, c, e⟩
      · rfl
      · simp; rw [hv] at hk; simp at hk; omega)
    have hcase : (Fd.vld ⟨n, c, e⟩ = false) ∨ (Fd.vld ⟨n, c, e⟩ = true ∧ p < 1) ∨ (Fd.vld ⟨n, c, e⟩ = true ∧ 1 ≤ p ∧ 9 < p) := by
      cases hv : Fd.vld ⟨n, c, e⟩
      · simp
      · rw [hv] at hk; simp at hk ⊢; omega
    clear hk
    rcases hcase with hv | ⟨hv, k1⟩ | ⟨hv, k1, k2⟩
    all_goals
      go_enter Try.func47, Try.ntmps47
      go_wp2_with (go_at_call 56; refine (valid_any _ _ _ _).mono ?_; rintro r w1 ⟨rfl, hb⟩; obtain ⟨hc, hf⟩ := bcell hb; have hB : Below w.heap.size w w1 := (by refine Below.trans ?_ (hb.mono (by first | omega | (simp; done) | (simp <;> omega))); repeat (first | with_reducible exact Below.refl _ _ | with_reducible assumption | with_reducible refine Below.setCell ?_ (by first | omega | (simp; done) | (simp <;> omega)) _ | with_reducible refine below_drewN ?_ _ | with_reducible refine Below.drew ?_ | with_reducible refine Below.alloc ?_ (by first | omega | (simp; done) | (simp <;> omega)) _)); have hz := hb.size; (try simp at hz); (try have hz0 : w.heap.size < w1.heap.size := by omega); (try have hz1 : w.heap.size + 1 < w1.heap.size := by omega); (try have hz2 : w.heap.size + 1 + 1 < w1.heap.size := by omega))
      exact bodyPost_ret (v := .agg #[.bool false, .int .i64 0, .int .i64 0]) (by simp [results, Try.results47, go_sem, *]) rfl ⟨by rw [HF.out]; rfl, (by repeat (first | with_reducible exact Below.refl _ _ | with_reducible assumption | with_reducible refine Below.setCell ?_ (by first | omega | (simp; done) | (simp <;> omega)) _ | with_reducible refine below_drewN ?_ _ | with_reducible refine Below.drew ?_ | with_reducible refine Below.alloc ?_ (by first | omega | (simp; done) | (simp <;> omega)) _))⟩
end Go.Proofs.Ytehocgedlepajaa
