import Derived.Test.YtehocgedlepajaaC9
namespace Go.Proofs.Ytehocgedlepajaa
open Go.RowKit

theorem vld_false {d : Fd.D} (h : ¬ Fd.vld d = true) : Fd.vld d = false := by simpa using h

set_option maxHeartbeats 8000000 in
theorem CompareDec_any (n : Bool) (c e : Int) (n' : Bool) (c' e' : Int) (w : World) :
    Calls Try.prog 21 #[.agg #[.bool n, .int .i64 c, .int .i64 e], .agg #[.bool n', .int .i64 c', .int .i64 e']] w fun r w' =>
      r = .returned (.int .i64 (Fd.cmpI ⟨n, c, e⟩ ⟨n', c', e'⟩)) ∧ Below w.heap.size w w' := by
  cases hv : Fd.vld ⟨n, c, e⟩
  · have HF : Hid (Fd.cmpI ⟨n, c, e⟩ ⟨n', c', e'⟩ = 0) := Lib.hid (by unfold Fd.cmpI; rw [hv]; rfl)
    go_enter Try.func21, Try.ntmps21
    go_wp2_with (go_at_call 56; refine (valid_any _ _ _ _).mono ?_; rintro r w1 ⟨rfl, hb⟩; obtain ⟨hc, hf⟩ := bcell hb; have hB : Below w.heap.size w w1 := (by refine Below.trans ?_ (hb.mono (by first | omega | (simp; done) | (simp <;> omega))); repeat (first | with_reducible exact Below.refl _ _ | with_reducible assumption | with_reducible refine Below.setCell ?_ (by first | omega | (simp; done) | (simp <;> omega)) _ | with_reducible refine below_drewN ?_ _ | with_reducible refine Below.drew ?_ | with_reducible refine Below.alloc ?_ (by first | omega | (simp; done) | (simp <;> omega)) _)); have hz := hb.size; (try simp at hz); (try have hz0 : w.heap.size < w1.heap.size := by omega); (try have hz1 : w.heap.size + 1 < w1.heap.size := by omega); (try have hz2 : w.heap.size + 1 + 1 < w1.heap.size := by omega))
    go_ret
    exact ⟨ret_int (by rw [HF.out]), (by repeat (first | with_reducible exact Below.refl _ _ | with_reducible assumption | with_reducible refine Below.setCell ?_ (by first | omega | (simp; done) | (simp <;> omega)) _ | with_reducible refine below_drewN ?_ _ | with_reducible refine Below.drew ?_ | with_reducible refine Below.alloc ?_ (by first | omega | (simp; done) | (simp <;> omega)) _))⟩
  cases hv' : Fd.vld ⟨n', c', e'⟩
  · have HF : Hid (Fd.cmpI ⟨n, c, e⟩ ⟨n', c', e'⟩ = 0) := Lib.hid (by unfold Fd.cmpI; rw [hv, hv']; rfl)
    go_enter Try.func21, Try.ntmps21
    go_wp2_with (go_at_call 56; refine (valid_any _ _ _ _).mono ?_; rintro r w1 ⟨rfl, hb⟩; obtain ⟨hc, hf⟩ := bcell hb; have hB : Below w.heap.size w w1 := (by refine Below.trans ?_ (hb.mono (by first | omega | (simp; done) | (simp <;> omega))); repeat (first | with_reducible exact Below.refl _ _ | with_reducible assumption | with_reducible refine Below.setCell ?_ (by first | omega | (simp; done) | (simp <;> omega)) _ | with_reducible refine below_drewN ?_ _ | with_reducible refine Below.drew ?_ | with_reducible refine Below.alloc ?_ (by first | omega | (simp; done) | (simp <;> omega)) _)); have hz := hb.size; (try simp at hz); (try have hz0 : w.heap.size < w1.heap.size := by omega); (try have hz1 : w.heap.size + 1 < w1.heap.size := by omega); (try have hz2 : w.heap.size + 1 + 1 < w1.heap.size := by omega))
    go_ret
    exact ⟨ret_int (by rw [HF.out]), (by repeat (first | with_reducible exact Below.refl _ _ | with_reducible assumption | with_reducible refine Below.setCell ?_ (by first | omega | (simp; done) | (simp <;> omega)) _ | with_reducible refine below_drewN ?_ _ | with_reducible refine Below.drew ?_ | with_reducible refine Below.alloc ?_ (by first | omega | (simp; done) | (simp <;> omega)) _))⟩
  obtain ⟨b1, b2, b3, b4⟩ := bounds_of hv
  obtain ⟨d1, d2, d3, d4⟩ := bounds_of hv'
  have hF : Fd.cmpI ⟨n, c, e⟩ ⟨n', c', e'⟩ = if Fd.sgI ⟨n, c, e⟩ ≠ Fd.sgI ⟨n', c', e'⟩ then Fd.cmpInt (Fd.sgI ⟨n, c, e⟩) (Fd.sgI ⟨n', c', e'⟩) else Fd.sgI ⟨n, c, e⟩ * Fd.cmpAmtI ⟨n, c, e⟩ ⟨n', c', e'⟩ := by
    unfold Fd.cmpI; rw [hv, hv']; rfl
  have hs := sg_bd ⟨n, c, e⟩ b1
  have ha := amt_bd ⟨n, c, e⟩ ⟨n', c', e'⟩
  have hw : IntKind.i64.wrap (Fd.sgI ⟨n, c, e⟩ * Fd.cmpAmtI ⟨n, c, e⟩ ⟨n', c', e'⟩) = Fd.sgI ⟨n, c, e⟩ * Fd.cmpAmtI ⟨n, c, e⟩ ⟨n', c', e'⟩ := by
    apply IntWalk.i64_in
    generalize Fd.sgI ⟨n, c, e⟩ = s at *
    generalize Fd.cmpAmtI ⟨n, c, e⟩ ⟨n', c', e'⟩ = t at *
    have : s = -1 ∨ s = 0 ∨ s = 1 := by omega
    rcases this with rfl | rfl | rfl <;> omega
  have hcase : ((Fd.sgI ⟨n, c, e⟩ != Fd.sgI ⟨n', c', e'⟩) = true ∧ Hid (Fd.cmpI ⟨n, c, e⟩ ⟨n', c', e'⟩ = Fd.cmpInt (Fd.sgI ⟨n, c, e⟩) (Fd.sgI ⟨n', c', e'⟩))) ∨
      ((Fd.sgI ⟨n, c, e⟩ != Fd.sgI ⟨n', c', e'⟩) = false ∧ Hid (Fd.cmpI ⟨n, c, e⟩ ⟨n', c', e'⟩ = Fd.sgI ⟨n, c, e⟩ * Fd.cmpAmtI ⟨n, c, e⟩ ⟨n', c', e'⟩)) := by
    by_cases h : Fd.sgI ⟨n, c, e⟩ = Fd.sgI ⟨n', c', e'⟩
    · right; exact ⟨by simp [h], Lib.hid (by rw [hF, if_neg (by simp [h])])⟩
    · left; exact ⟨by simpa using h, Lib.hid (by rw [hF, if_pos h])⟩
  clear hF hs ha
  rcases hcase with ⟨ht, HF⟩ | ⟨ht, HF⟩
  · go_enter Try.func21, Try.ntmps21
    go_wp2_with (go_at_call 56; refine (valid_any _ _ _ _).mono ?_; rintro r w1 ⟨rfl, hb⟩; obtain ⟨hc, hf⟩ := bcell hb; have hB : Below w.heap.size w w1 := (by refine Below.trans ?_ (hb.mono (by first | omega | (simp; done) | (simp <;> omega))); repeat (first | with_reducible exact Below.refl _ _ | with_reducible assumption | with_reducible refine Below.setCell ?_ (by first | omega | (simp; done) | (simp <;> omega)) _ | with_reducible refine below_drewN ?_ _ | with_reducible refine Below.drew ?_ | with_reducible refine Below.alloc ?_ (by first | omega | (simp; done) | (simp <;> omega)) _)); have hz := hb.size; (try simp at hz); (try have hz0 : w.heap.size < w1.heap.size := by omega); (try have hz1 : w.heap.size + 1 < w1.heap.size := by omega); (try have hz2 : w.heap.size + 1 + 1 < w1.heap.size := by omega))
    clear hb hz
    generalize w1 = W at *
    have hS0 : (∀ b o, b < W.heap.size → W.cell? ⟨b, o, none⟩ = W.cell? ⟨b, o, none⟩) ∧ Below W.heap.size W W := ⟨fun _ _ _ => rfl, Below.refl _ _⟩; go_region_held3 (fun w_ => (∀ b o, b < W.heap.size → w_.cell? ⟨b, o, none⟩ = W.cell? ⟨b, o, none⟩) ∧ Below W.heap.size W w_) (repeat (first | with_reducible assumption | with_reducible refine keepD ?_ | with_reducible refine keepL ?_ _ | with_reducible refine keepS ?_ (by first | omega | (simp; done) | (simp <;> omega)) _ | with_reducible exact keepA (by with_reducible assumption) hb)) (first | (go_at_call 59; refine (sign_any _ _ _ _).mono ?_; rintro r w1 ⟨rfl, hb⟩; obtain ⟨hc, hf⟩ := bcell hb; have hz := hb.size; have hm := bmono hb; (try simp at hz); (try simp at hm); (try have hm2 := bmono2 (by with_reducible assumption) hb); have hS1 := keepA (by with_reducible assumption) hb; have hzS := hS1.2.size; (try have hq0 : W.heap.size < w1.heap.size := by omega); (try have hq1 : W.heap.size + 1 < w1.heap.size := by omega); (try have hq2 := Nat.lt_of_succ_le hz)))
    go_wp2
    have hS0 : (∀ b o, b < W.heap.size → W.cell? ⟨b, o, none⟩ = W.cell? ⟨b, o, none⟩) ∧ Below W.heap.size W W := ⟨fun _ _ _ => rfl, Below.refl _ _⟩; go_region_held3 (fun w_ => (∀ b o, b < W.heap.size → w_.cell? ⟨b, o, none⟩ = W.cell? ⟨b, o, none⟩) ∧ Below W.heap.size W w_) (repeat (first | with_reducible assumption | with_reducible refine keepD ?_ | with_reducible refine keepL ?_ _ | with_reducible refine keepS ?_ (by first | omega | (simp; done) | (simp <;> omega)) _ | with_reducible exact keepA (by with_reducible assumption) hb)) (first | (go_at_call 59; refine (sign_any _ _ _ _).mono ?_; rintro r w1 ⟨rfl, hb⟩; obtain ⟨hc, hf⟩ := bcell hb; have hz := hb.size; have hm := bmono hb; (try simp at hz); (try simp at hm); (try have hm2 := bmono2 (by with_reducible assumption) hb); have hS1 := keepA (by with_reducible assumption) hb; have hzS := hS1.2.size; (try have hq0 : W.heap.size < w1.heap.size := by omega); (try have hq1 : W.heap.size + 1 < w1.heap.size := by omega); (try have hq2 := Nat.lt_of_succ_le hz)) | (go_at_call 60; refine (Compare_any _ _ _).mono ?_; rintro r w1 ⟨rfl, rfl⟩))
    obtain ⟨hc, hb⟩ := ‹(∀ b o, b < W.heap.size → World.cell? _ ⟨b, o, none⟩ = W.cell? ⟨b, o, none⟩) ∧ Below W.heap.size W _›; have hf := (bcell hb).2; have hB := Below.trans hB (hb.mono (by omega)); have hz := hb.size; (try have hza := Nat.lt_of_lt_of_le (show w.heap.size < W.heap.size by omega) hb.size); (try have hzb := Nat.lt_of_lt_of_le (show w.heap.size + 1 < W.heap.size by omega) hb.size); (try have hzd := Nat.lt_of_lt_of_le (show w.heap.size + 1 + 1 < W.heap.size by omega) hb.size)
    go_wp2
    go_ret
    exact ⟨ret_int (by rw [HF.out]), by assumption⟩
  · go_enter Try.func21, Try.ntmps21
    go_wp2_with (go_at_call 56; refine (valid_any _ _ _ _).mono ?_; rintro r w1 ⟨rfl, hb⟩; obtain ⟨hc, hf⟩ := bcell hb; have hB : Below w.heap.size w w1 := (by refine Below.trans ?_ (hb.mono (by first | omega | (simp; done) | (simp <;> omega))); repeat (first | with_reducible exact Below.refl _ _ | with_reducible assumption | with_reducible refine Below.setCell ?_ (by first | omega | (simp; done) | (simp <;> omega)) _ | with_reducible refine below_drewN ?_ _ | with_reducible refine Below.drew ?_ | with_reducible refine Below.alloc ?_ (by first | omega | (simp; done) | (simp <;> omega)) _)); have hz := hb.size; (try simp at hz); (try have hz0 : w.heap.size < w1.heap.size := by omega); (try have hz1 : w.heap.size + 1 < w1.heap.size := by omega); (try have hz2 : w.heap.size + 1 + 1 < w1.heap.size := by omega))
    clear hb hz
    generalize w1 = W at *
    have hS0 : (∀ b o, b < W.heap.size → W.cell? ⟨b, o, none⟩ = W.cell? ⟨b, o, none⟩) ∧ Below W.heap.size W W := ⟨fun _ _ _ => rfl, Below.refl _ _⟩; go_region_held3 (fun w_ => (∀ b o, b < W.heap.size → w_.cell? ⟨b, o, none⟩ = W.cell? ⟨b, o, none⟩) ∧ Below W.heap.size W w_) (repeat (first | with_reducible assumption | with_reducible refine keepD ?_ | with_reducible refine keepL ?_ _ | with_reducible refine keepS ?_ (by first | omega | (simp; done) | (simp <;> omega)) _ | with_reducible exact keepA (by with_reducible assumption) hb)) (first | (go_at_call 59; refine (sign_any _ _ _ _).mono ?_; rintro r w1 ⟨rfl, hb⟩; obtain ⟨hc, hf⟩ := bcell hb; have hz := hb.size; have hm := bmono hb; (try simp at hz); (try simp at hm); (try have hm2 := bmono2 (by with_reducible assumption) hb); have hS1 := keepA (by with_reducible assumption) hb; have hzS := hS1.2.size; (try have hq0 : W.heap.size < w1.heap.size := by omega); (try have hq1 : W.heap.size + 1 < w1.heap.size := by omega); (try have hq2 := Nat.lt_of_succ_le hz)))
    go_wp2
    have hS0 : (∀ b o, b < W.heap.size → W.cell? ⟨b, o, none⟩ = W.cell? ⟨b, o, none⟩) ∧ Below W.heap.size W W := ⟨fun _ _ _ => rfl, Below.refl _ _⟩; go_region_held3 (fun w_ => (∀ b o, b < W.heap.size → w_.cell? ⟨b, o, none⟩ = W.cell? ⟨b, o, none⟩) ∧ Below W.heap.size W w_) (repeat (first | with_reducible assumption | with_reducible refine keepD ?_ | with_reducible refine keepL ?_ _ | with_reducible refine keepS ?_ (by first | omega | (simp; done) | (simp <;> omega)) _ | with_reducible exact keepA (by with_reducible assumption) hb)) (first | (go_at_call 59; refine (sign_any _ _ _ _).mono ?_; rintro r w1 ⟨rfl, hb⟩; obtain ⟨hc, hf⟩ := bcell hb; have hz := hb.size; have hm := bmono hb; (try simp at hz); (try simp at hm); (try have hm2 := bmono2 (by with_reducible assumption) hb); have hS1 := keepA (by with_reducible assumption) hb; have hzS := hS1.2.size; (try have hq0 : W.heap.size < w1.heap.size := by omega); (try have hq1 : W.heap.size + 1 < w1.heap.size := by omega); (try have hq2 := Nat.lt_of_succ_le hz)) | (go_at_call 61; refine (compareAmounts_any _ _ _ _ _ _ _ b1 b2 (by omega) (by omega) d1 d2 (by omega) (by omega)).mono ?_; rintro r w1 ⟨rfl, hb⟩; obtain ⟨hc, hf⟩ := bcell hb; have hz := hb.size; have hm := bmono hb; (try simp at hz); (try simp at hm); (try have hm2 := bmono2 (by with_reducible assumption) hb); have hS1 := keepA (by with_reducible assumption) hb; have hzS := hS1.2.size; (try have hq0 : W.heap.size < w1.heap.size := by omega); (try have hq1 : W.heap.size + 1 < w1.heap.size := by omega); (try have hq2 := Nat.lt_of_succ_le hz)))
    obtain ⟨hc, hb⟩ := ‹(∀ b o, b < W.heap.size → World.cell? _ ⟨b, o, none⟩ = W.cell? ⟨b, o, none⟩) ∧ Below W.heap.size W _›; have hf := (bcell hb).2; have hB := Below.trans hB (hb.mono (by omega)); have hz := hb.size; (try have hza := Nat.lt_of_lt_of_le (show w.heap.size < W.heap.size by omega) hb.size); (try have hzb := Nat.lt_of_lt_of_le (show w.heap.size + 1 < W.heap.size by omega) hb.size); (try have hzd := Nat.lt_of_lt_of_le (show w.heap.size + 1 + 1 < W.heap.size by omega) hb.size)
    go_wp2
    go_ret
    exact ⟨ret_int (by rw [HF.out]), by assumption⟩
end Go.Proofs.Ytehocgedlepajaa
