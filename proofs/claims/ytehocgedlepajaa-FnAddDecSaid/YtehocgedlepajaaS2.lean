import Derived.Test.YtehocgedlepajaaS1
import Derived.Test.YtehocgedlepajaaC10
namespace Go.Proofs.Ytehocgedlepajaa
open Go.RowKit

set_option maxHeartbeats 400000 in
theorem compareInts_any (x y : Int) (w : World) :
    Calls Try.prog 86 #[.int .i64 x, .int .i64 y] w fun r w' => r = .returned (.int .i64 (Fd.cmpInt x y)) ∧ w = w' := by
  have hcase : (x < y ∧ Hid (Fd.cmpInt x y = -1)) ∨ (¬ x < y ∧ y < x ∧ Hid (Fd.cmpInt x y = 1)) ∨ (¬ x < y ∧ ¬ y < x ∧ Hid (Fd.cmpInt x y = 0)) := by
    by_cases h1 : x < y
    · left; exact ⟨h1, Lib.hid (by unfold Fd.cmpInt; rw [if_pos h1])⟩
    · by_cases h2 : y < x
      · right; left; exact ⟨h1, h2, Lib.hid (by unfold Fd.cmpInt; rw [if_neg h1, if_pos h2])⟩
      · right; right; exact ⟨h1, h2, Lib.hid (by unfold Fd.cmpInt; rw [if_neg h1, if_neg h2])⟩
  rcases hcase with ⟨h1, H⟩ | ⟨h1, h2, H⟩ | ⟨h1, h2, H⟩
  all_goals
    go_enter Try.func86, Try.ntmps86
    go_wp2
    go_ret
    exact ⟨ret_int (by rw [H.out]), rfl⟩

set_option maxHeartbeats 400000 in
theorem signS_any (n : Bool) (c e : Int) (w : World) :
    Calls Try.prog 85 #[.agg #[.bool n, .int .i64 c, .int .i64 e]] w fun r w' => r = .returned (.int .i64 (Fd.sgS ⟨n, c, e⟩)) ∧ Below w.heap.size w w' := by
  have hcase : ((c == 0) = true ∧ Hid (Fd.sgS ⟨n, c, e⟩ = 0)) ∨ ((c == 0) = false ∧ n = true ∧ Hid (Fd.sgS ⟨n, c, e⟩ = -1)) ∨ ((c == 0) = false ∧ n = false ∧ Hid (Fd.sgS ⟨n, c, e⟩ = 1)) := by
    by_cases h : c = 0
    · left; exact ⟨by simpa using h, Lib.hid (by unfold Fd.sgS; rw [if_pos (by exact h)])⟩
    · right
      cases n
      · right; exact ⟨by simpa using h, rfl, Lib.hid (by unfold Fd.sgS; rw [if_neg (by exact h)]; rfl)⟩
      · left; exact ⟨by simpa using h, rfl, Lib.hid (by unfold Fd.sgS; rw [if_neg (by exact h)]; rfl)⟩
  rcases hcase with ⟨h1, H⟩ | ⟨h1, rfl, H⟩ | ⟨h1, rfl, H⟩
  all_goals
    go_enter Try.func85, Try.ntmps85
    go_wp2
    go_ret
    exact ⟨ret_int (by rw [H.out]), (by repeat (first | with_reducible exact Below.refl _ _ | with_reducible assumption | with_reducible refine Below.setCell ?_ (by first | omega | (simp; done) | (simp <;> omega)) _ | with_reducible refine below_drewN ?_ _ | with_reducible refine Below.drew ?_ | with_reducible refine Below.alloc ?_ (by first | omega | (simp; done) | (simp <;> omega)) _))⟩

set_option maxHeartbeats 400000 in
theorem sizeS_any (n : Bool) (c e : Int) (w : World) (h1 : c ≤ 999999999) (h2 : -24 ≤ e) (h3 : e ≤ 24) :
    Calls Try.prog 76 #[.agg #[.bool n, .int .i64 c, .int .i64 e]] w fun r w' => r = .returned (.int .i64 (Fd.size ⟨n, c, e⟩)) ∧ Below w.heap.size w w' := by
  have hd0 := Fd.dc_nonneg c
  have hd := Fd.dc_le9 h1
  have hw1 : IntKind.i64.wrap (Fd.dc c + e) = Fd.dc c + e := IntWalk.i64_in _ (by omega)
  go_enter Try.func76, Try.ntmps76
  go_wp2
  have hB : Below w.heap.size w (w.alloc (.cells #[.bool n, .int .i64 c, .int .i64 e] 24)) := (by repeat (first | with_reducible exact Below.refl _ _ | with_reducible assumption | with_reducible refine Below.setCell ?_ (by first | omega | (simp; done) | (simp <;> omega)) _ | with_reducible refine below_drewN ?_ _ | with_reducible refine Below.drew ?_ | with_reducible refine Below.alloc ?_ (by first | omega | (simp; done) | (simp <;> omega)) _))
  generalize hW : (w.alloc (.cells #[.bool n, .int .i64 c, .int .i64 e] 24)) = W at hB ⊢
  have hcW : ∀ b o, W.cell? ⟨b, o, none⟩ = (w.alloc (.cells #[.bool n, .int .i64 c, .int .i64 e] 24)).cell? ⟨b, o, none⟩ := fun _ _ => by rw [hW]
  have hfW : ∀ b o, W.frozen? ⟨b, o, none⟩ = (w.alloc (.cells #[.bool n, .int .i64 c, .int .i64 e] 24)).frozen? ⟨b, o, none⟩ := fun _ _ => by rw [hW]
  have hzW : W.heap.size = (w.alloc (.cells #[.bool n, .int .i64 c, .int .i64 e] 24)).heap.size := by rw [hW]
  simp at hzW
  clear hW
  have hS0 : (∀ b o, b < W.heap.size → W.cell? ⟨b, o, none⟩ = W.cell? ⟨b, o, none⟩) ∧ Below W.heap.size W W := ⟨fun _ _ _ => rfl, Below.refl _ _⟩; go_region_held3 (fun w_ => (∀ b o, b < W.heap.size → w_.cell? ⟨b, o, none⟩ = W.cell? ⟨b, o, none⟩) ∧ Below W.heap.size W w_) (repeat (first | with_reducible assumption | with_reducible refine keepD ?_ | with_reducible refine keepL ?_ _ | with_reducible refine keepS ?_ (by first | omega | (simp; done) | (simp <;> omega)) _ | with_reducible exact keepA (by with_reducible assumption) hb)) (first | (go_at_call 74; refine (digitCount_any _ _ h1).mono ?_; rintro r w1 ⟨rfl, rfl⟩))
  obtain ⟨hc, hb⟩ := ‹(∀ b o, b < W.heap.size → World.cell? _ ⟨b, o, none⟩ = W.cell? ⟨b, o, none⟩) ∧ Below W.heap.size W _›; have hf := (bcell hb).2; have hB := Below.trans hB (hb.mono (by omega)); have hz := hb.size; (try have hza := Nat.lt_of_lt_of_le (show w.heap.size < W.heap.size by omega) hb.size); (try have hzb := Nat.lt_of_lt_of_le (show w.heap.size + 1 < W.heap.size by omega) hb.size); (try have hzd := Nat.lt_of_lt_of_le (show w.heap.size + 1 + 1 < W.heap.size by omega) hb.size)
  go_wp2
  go_ret
  exact ⟨ret_int (by rfl), by assumption⟩

set_option maxHeartbeats 8000000 in
theorem compareSizes_any (n : Bool) (c e : Int) (n' : Bool) (c' e' : Int) (w : World) (h0 : 0 ≤ c) (h1 : c ≤ 999999999) (h2 : -24 ≤ e) (h3 : e ≤ 24) (h0' : 0 ≤ c') (h1' : c' ≤ 999999999) (h2' : -24 ≤ e') (h3' : e' ≤ 24) :
    Calls Try.prog 87 #[.agg #[.bool n, .int .i64 c, .int .i64 e], .agg #[.bool n', .int .i64 c', .int .i64 e']] w fun r w' =>
      r = .returned (.int .i64 (Fd.cmpAmtS ⟨n, c, e⟩ ⟨n', c', e'⟩)) ∧ Below w.heap.size w w' := by
  have hcase : ((Fd.size ⟨n, c, e⟩ != Fd.size ⟨n', c', e'⟩) = true ∧ Hid (Fd.cmpAmtS ⟨n, c, e⟩ ⟨n', c', e'⟩ = Fd.cmpInt (Fd.size ⟨n, c, e⟩) (Fd.size ⟨n', c', e'⟩))) ∨
      ((Fd.size ⟨n, c, e⟩ != Fd.size ⟨n', c', e'⟩) = false ∧ Hid (Fd.cmpAmtS ⟨n, c, e⟩ ⟨n', c', e'⟩ = Fd.cmpInt (c * Fd.p10 (9 - Fd.dc c)) (c' * Fd.p10 (9 - Fd.dc c')))) := by
    by_cases h : Fd.size ⟨n, c, e⟩ = Fd.size ⟨n', c', e'⟩
    · right; exact ⟨by simp [h], Lib.hid (by unfold Fd.cmpAmtS Fd.stretch; rw [if_neg (by simp [h])])⟩
    · left; exact ⟨by simpa using h, Lib.hid (by unfold Fd.cmpAmtS; rw [if_pos h])⟩
  have hd0 := Fd.dc_nonneg c
  have hd := Fd.dc_le9 h1
  have hd0' := Fd.dc_nonneg c'
  have hd' := Fd.dc_le9 h1'
  have hw1 : IntKind.i64.wrap (9 - Fd.dc c) = 9 - Fd.dc c := IntWalk.i64_in _ (by omega)
  have hw2 : IntKind.i64.wrap (9 - Fd.dc c') = 9 - Fd.dc c' := IntWalk.i64_in _ (by omega)
  have hw3 : IntKind.i64.wrap (c * Fd.p10 (9 - Fd.dc c)) = c * Fd.p10 (9 - Fd.dc c) := IntWalk.i64_in _ (by have h := Fd.stretch_bd n e h0 h1; unfold Fd.stretch at h; simp only at h; omega)
  have hw4 : IntKind.i64.wrap (c' * Fd.p10 (9 - Fd.dc c')) = c' * Fd.p10 (9 - Fd.dc c') := IntWalk.i64_in _ (by have h := Fd.stretch_bd n' e' h0' h1'; unfold Fd.stretch at h; simp only at h; omega)
  rcases hcase with ⟨ht, HF⟩ | ⟨ht, HF⟩
  · go_enter Try.func87, Try.ntmps87
    go_wp2
    have hB : Below w.heap.size w ((w.alloc (.cells #[.bool n, .int .i64 c, .int .i64 e] 24)).alloc (.cells #[.bool n', .int .i64 c', .int .i64 e'] 24)) := (by repeat (first | with_reducible exact Below.refl _ _ | with_reducible assumption | with_reducible refine Below.setCell ?_ (by first | omega | (simp; done) | (simp <;> omega)) _ | with_reducible refine below_drewN ?_ _ | with_reducible refine Below.drew ?_ | with_reducible refine Below.alloc ?_ (by first | omega | (simp; done) | (simp <;> omega)) _))
    generalize hW : ((w.alloc (.cells #[.bool n, .int .i64 c, .int .i64 e] 24)).alloc (.cells #[.bool n', .int .i64 c', .int .i64 e'] 24)) = W at hB ⊢
    have hcW : ∀ b o, W.cell? ⟨b, o, none⟩ = ((w.alloc (.cells #[.bool n, .int .i64 c, .int .i64 e] 24)).alloc (.cells #[.bool n', .int .i64 c', .int .i64 e'] 24)).cell? ⟨b, o, none⟩ := fun _ _ => by rw [hW]
    have hfW : ∀ b o, W.frozen? ⟨b, o, none⟩ = ((w.alloc (.cells #[.bool n, .int .i64 c, .int .i64 e] 24)).alloc (.cells #[.bool n', .int .i64 c', .int .i64 e'] 24)).frozen? ⟨b, o, none⟩ := fun _ _ => by rw [hW]
    have hzW : W.heap.size = ((w.alloc (.cells #[.bool n, .int .i64 c, .int .i64 e] 24)).alloc (.cells #[.bool n', .int .i64 c', .int .i64 e'] 24)).heap.size := by rw [hW]
    simp at hzW
    clear hW
    have hS0 : (∀ b o, b < W.heap.size → W.cell? ⟨b, o, none⟩ = W.cell? ⟨b, o, none⟩) ∧ Below W.heap.size W W := ⟨fun _ _ _ => rfl, Below.refl _ _⟩; go_region_held3 (fun w_ => (∀ b o, b < W.heap.size → w_.cell? ⟨b, o, none⟩ = W.cell? ⟨b, o, none⟩) ∧ Below W.heap.size W w_) (repeat (first | with_reducible assumption | with_reducible refine keepD ?_ | with_reducible refine keepL ?_ _ | with_reducible refine keepS ?_ (by first | omega | (simp; done) | (simp <;> omega)) _ | with_reducible exact keepA (by with_reducible assumption) hb)) (first | (go_at_call_of 76 (Value.agg #[.bool n, .int .i64 c, .int .i64 e]); refine (sizeS_any _ _ _ _ h1 h2 h3).mono ?_; rintro r w1 ⟨rfl, hb⟩; obtain ⟨hc, hf⟩ := bcell hb; have hz := hb.size; have hm := bmono hb; (try simp at hz); (try simp at hm); (try have hm2 := bmono2 (by with_reducible assumption) hb); have hS1 := keepA (by with_reducible assumption) hb; have hzS := hS1.2.size; (try have hq0 : W.heap.size < w1.heap.size := by omega); (try have hq1 : W.heap.size + 1 < w1.heap.size := by omega); (try have hq2 := Nat.lt_of_succ_le hz)) | (go_at_call_of 76 (Value.agg #[.bool n', .int .i64 c', .int .i64 e']); refine (sizeS_any _ _ _ _ h1' h2' h3').mono ?_; rintro r w1 ⟨rfl, hb⟩; obtain ⟨hc, hf⟩ := bcell hb; have hz := hb.size; have hm := bmono hb; (try simp at hz); (try simp at hm); (try have hm2 := bmono2 (by with_reducible assumption) hb); have hS1 := keepA (by with_reducible assumption) hb; have hzS := hS1.2.size; (try have hq0 : W.heap.size < w1.heap.size := by omega); (try have hq1 : W.heap.size + 1 < w1.heap.size := by omega); (try have hq2 := Nat.lt_of_succ_le hz)))
    go_wp2
    have hS0 : (∀ b o, b < W.heap.size → W.cell? ⟨b, o, none⟩ = W.cell? ⟨b, o, none⟩) ∧ Below W.heap.size W W := ⟨fun _ _ _ => rfl, Below.refl _ _⟩; go_region_held3 (fun w_ => (∀ b o, b < W.heap.size → w_.cell? ⟨b, o, none⟩ = W.cell? ⟨b, o, none⟩) ∧ Below W.heap.size W w_) (repeat (first | with_reducible assumption | with_reducible refine keepD ?_ | with_reducible refine keepL ?_ _ | with_reducible refine keepS ?_ (by first | omega | (simp; done) | (simp <;> omega)) _ | with_reducible exact keepA (by with_reducible assumption) hb)) (first | (go_at_call_of 76 (Value.agg #[.bool n, .int .i64 c, .int .i64 e]); refine (sizeS_any _ _ _ _ h1 h2 h3).mono ?_; rintro r w1 ⟨rfl, hb⟩; obtain ⟨hc, hf⟩ := bcell hb; have hz := hb.size; have hm := bmono hb; (try simp at hz); (try simp at hm); (try have hm2 := bmono2 (by with_reducible assumption) hb); have hS1 := keepA (by with_reducible assumption) hb; have hzS := hS1.2.size; (try have hq0 : W.heap.size < w1.heap.size := by omega); (try have hq1 : W.heap.size + 1 < w1.heap.size := by omega); (try have hq2 := Nat.lt_of_succ_le hz)) | (go_at_call_of 76 (Value.agg #[.bool n', .int .i64 c', .int .i64 e']); refine (sizeS_any _ _ _ _ h1' h2' h3').mono ?_; rintro r w1 ⟨rfl, hb⟩; obtain ⟨hc, hf⟩ := bcell hb; have hz := hb.size; have hm := bmono hb; (try simp at hz); (try simp at hm); (try have hm2 := bmono2 (by with_reducible assumption) hb); have hS1 := keepA (by with_reducible assumption) hb; have hzS := hS1.2.size; (try have hq0 : W.heap.size < w1.heap.size := by omega); (try have hq1 : W.heap.size + 1 < w1.heap.size := by omega); (try have hq2 := Nat.lt_of_succ_le hz)) | (go_at_call 86; refine (compareInts_any _ _ _).mono ?_; rintro r w1 ⟨rfl, rfl⟩))
    obtain ⟨hc, hb⟩ := ‹(∀ b o, b < W.heap.size → World.cell? _ ⟨b, o, none⟩ = W.cell? ⟨b, o, none⟩) ∧ Below W.heap.size W _›; have hf := (bcell hb).2; have hB := Below.trans hB (hb.mono (by omega)); have hz := hb.size; (try have hza := Nat.lt_of_lt_of_le (show w.heap.size < W.heap.size by omega) hb.size); (try have hzb := Nat.lt_of_lt_of_le (show w.heap.size + 1 < W.heap.size by omega) hb.size); (try have hzd := Nat.lt_of_lt_of_le (show w.heap.size + 1 + 1 < W.heap.size by omega) hb.size)
    go_wp2
    go_ret
    exact ⟨ret_int (by rw [HF.out]), by assumption⟩
  · go_enter Try.func87, Try.ntmps87
    go_wp2
    have hB : Below w.heap.size w ((w.alloc (.cells #[.bool n, .int .i64 c, .int .i64 e] 24)).alloc (.cells #[.bool n', .int .i64 c', .int .i64 e'] 24)) := (by repeat (first | with_reducible exact Below.refl _ _ | with_reducible assumption | with_reducible refine Below.setCell ?_ (by first | omega | (simp; done) | (simp <;> omega)) _ | with_reducible refine below_drewN ?_ _ | with_reducible refine Below.drew ?_ | with_reducible refine Below.alloc ?_ (by first | omega | (simp; done) | (simp <;> omega)) _))
    generalize hW : ((w.alloc (.cells #[.bool n, .int .i64 c, .int .i64 e] 24)).alloc (.cells #[.bool n', .int .i64 c', .int .i64 e'] 24)) = W at hB ⊢
    have hcW : ∀ b o, W.cell? ⟨b, o, none⟩ = ((w.alloc (.cells #[.bool n, .int .i64 c, .int .i64 e] 24)).alloc (.cells #[.bool n', .int .i64 c', .int .i64 e'] 24)).cell? ⟨b, o, none⟩ := fun _ _ => by rw [hW]
    have hfW : ∀ b o, W.frozen? ⟨b, o, none⟩ = ((w.alloc (.cells #[.bool n, .int .i64 c, .int .i64 e] 24)).alloc (.cells #[.bool n', .int .i64 c', .int .i64 e'] 24)).frozen? ⟨b, o, none⟩ := fun _ _ => by rw [hW]
    have hzW : W.heap.size = ((w.alloc (.cells #[.bool n, .int .i64 c, .int .i64 e] 24)).alloc (.cells #[.bool n', .int .i64 c', .int .i64 e'] 24)).heap.size := by rw [hW]
    simp at hzW
    clear hW
    have hS0 : (∀ b o, b < W.heap.size → W.cell? ⟨b, o, none⟩ = W.cell? ⟨b, o, none⟩) ∧ Below W.heap.size W W := ⟨fun _ _ _ => rfl, Below.refl _ _⟩; go_region_held3 (fun w_ => (∀ b o, b < W.heap.size → w_.cell? ⟨b, o, none⟩ = W.cell? ⟨b, o, none⟩) ∧ Below W.heap.size W w_) (repeat (first | with_reducible assumption | with_reducible refine keepD ?_ | with_reducible refine keepL ?_ _ | with_reducible refine keepS ?_ (by first | omega | (simp; done) | (simp <;> omega)) _ | with_reducible exact keepA (by with_reducible assumption) hb)) (first | (go_at_call_of 76 (Value.agg #[.bool n, .int .i64 c, .int .i64 e]); refine (sizeS_any _ _ _ _ h1 h2 h3).mono ?_; rintro r w1 ⟨rfl, hb⟩; obtain ⟨hc, hf⟩ := bcell hb; have hz := hb.size; have hm := bmono hb; (try simp at hz); (try simp at hm); (try have hm2 := bmono2 (by with_reducible assumption) hb); have hS1 := keepA (by with_reducible assumption) hb; have hzS := hS1.2.size; (try have hq0 : W.heap.size < w1.heap.size := by omega); (try have hq1 : W.heap.size + 1 < w1.heap.size := by omega); (try have hq2 := Nat.lt_of_succ_le hz)) | (go_at_call_of 76 (Value.agg #[.bool n', .int .i64 c', .int .i64 e']); refine (sizeS_any _ _ _ _ h1' h2' h3').mono ?_; rintro r w1 ⟨rfl, hb⟩; obtain ⟨hc, hf⟩ := bcell hb; have hz := hb.size; have hm := bmono hb; (try simp at hz); (try simp at hm); (try have hm2 := bmono2 (by with_reducible assumption) hb); have hS1 := keepA (by with_reducible assumption) hb; have hzS := hS1.2.size; (try have hq0 : W.heap.size < w1.heap.size := by omega); (try have hq1 : W.heap.size + 1 < w1.heap.size := by omega); (try have hq2 := Nat.lt_of_succ_le hz)))
    go_wp2
    have hS0 : (∀ b o, b < W.heap.size → W.cell? ⟨b, o, none⟩ = W.cell? ⟨b, o, none⟩) ∧ Below W.heap.size W W := ⟨fun _ _ _ => rfl, Below.refl _ _⟩; go_region_held3 (fun w_ => (∀ b o, b < W.heap.size → w_.cell? ⟨b, o, none⟩ = W.cell? ⟨b, o, none⟩) ∧ Below W.heap.size W w_) (repeat (first | with_reducible assumption | with_reducible refine keepD ?_ | with_reducible refine keepL ?_ _ | with_reducible refine keepS ?_ (by first | omega | (simp; done) | (simp <;> omega)) _ | with_reducible exact keepA (by with_reducible assumption) hb)) (first | (go_at_call 74; refine (digitCount_any _ _ h1).mono ?_; rintro r w1 ⟨rfl, rfl⟩) | (go_at_call 70; refine (power_any _ _ (by omega) (by omega)).mono ?_; rintro r w1 ⟨rfl, rfl⟩))
    go_wp2
    have hS0 : (∀ b o, b < W.heap.size → W.cell? ⟨b, o, none⟩ = W.cell? ⟨b, o, none⟩) ∧ Below W.heap.size W W := ⟨fun _ _ _ => rfl, Below.refl _ _⟩; go_region_held3 (fun w_ => (∀ b o, b < W.heap.size → w_.cell? ⟨b, o, none⟩ = W.cell? ⟨b, o, none⟩) ∧ Below W.heap.size W w_) (repeat (first | with_reducible assumption | with_reducible refine keepD ?_ | with_reducible refine keepL ?_ _ | with_reducible refine keepS ?_ (by first | omega | (simp; done) | (simp <;> omega)) _ | with_reducible exact keepA (by with_reducible assumption) hb)) (first | (go_at_call 74; refine (digitCount_any _ _ h1').mono ?_; rintro r w1 ⟨rfl, rfl⟩) | (go_at_call 70; refine (power_any _ _ (by omega) (by omega)).mono ?_; rintro r w1 ⟨rfl, rfl⟩))
    obtain ⟨hc, hb⟩ := ‹(∀ b o, b < W.heap.size → World.cell? _ ⟨b, o, none⟩ = W.cell? ⟨b, o, none⟩) ∧ Below W.heap.size W _›; have hf := (bcell hb).2; have hB := Below.trans hB (hb.mono (by omega)); have hz := hb.size; (try have hza := Nat.lt_of_lt_of_le (show w.heap.size < W.heap.size by omega) hb.size); (try have hzb := Nat.lt_of_lt_of_le (show w.heap.size + 1 < W.heap.size by omega) hb.size); (try have hzd := Nat.lt_of_lt_of_le (show w.heap.size + 1 + 1 < W.heap.size by omega) hb.size)
    go_wp2_with (go_at_call 86; refine (compareInts_any _ _ _).mono ?_; rintro r w1 ⟨rfl, rfl⟩)
    go_ret
    exact ⟨ret_int (by rw [HF.out]), by assumption⟩
end Go.Proofs.Ytehocgedlepajaa
