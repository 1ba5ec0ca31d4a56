import Derived.Test.YtehocgedlepajaaC5
import Derived.Deep.DeepCutAuto
namespace Go.Proofs.Ytehocgedlepajaa
open Go.RowKit

theorem bounds_of {n : Bool} {c e : Int} (hv : Fd.vld ⟨n, c, e⟩ = true) : 0 ≤ c ∧ c ≤ 999999999 ∧ -12 ≤ e ∧ e ≤ 12 := by
  obtain ⟨a, b, d, f, _⟩ := Fd.vld_iff.1 hv; exact ⟨a, b, d, f⟩
theorem ret_of {a b : Value} (h : a = b) : Ending.returned a = .returned b := by rw [h]

set_option maxHeartbeats 400000 in
theorem ValidDec_any (n : Bool) (c e : Int) (w : World) :
    Calls Try.prog 17 #[.agg #[.bool n, .int .i64 c, .int .i64 e]] w fun r w' => r = .returned (.bool (Fd.vld ⟨n, c, e⟩)) ∧ Below w.heap.size w w' := by
  go_enter Try.func17, Try.ntmps17
  go_wp2_with (go_at_call 56; refine (valid_any _ _ _ _).mono ?_; rintro r w1 ⟨rfl, hb⟩; obtain ⟨hc, hf⟩ := bcell hb; have hB : Below w.heap.size w w1 := (by refine Below.trans ?_ (hb.mono (by first | omega | (simp; done) | (simp <;> omega))); repeat (first | with_reducible exact Below.refl _ _ | with_reducible assumption | with_reducible refine Below.setCell ?_ (by first | omega | (simp; done) | (simp <;> omega)) _ | with_reducible refine below_drewN ?_ _ | with_reducible refine Below.drew ?_ | with_reducible refine Below.alloc ?_ (by first | omega | (simp; done) | (simp <;> omega)) _)); have hz := hb.size; (try simp at hz); (try have hz0 : w.heap.size < w1.heap.size := by omega); (try have hz1 : w.heap.size + 1 < w1.heap.size := by omega); (try have hz2 : w.heap.size + 1 + 1 < w1.heap.size := by omega))
  go_ret
  exact ⟨rfl, (by repeat (first | with_reducible exact Below.refl _ _ | with_reducible assumption | with_reducible refine Below.setCell ?_ (by first | omega | (simp; done) | (simp <;> omega)) _ | with_reducible refine below_drewN ?_ _ | with_reducible refine Below.drew ?_ | with_reducible refine Below.alloc ?_ (by first | omega | (simp; done) | (simp <;> omega)) _))⟩

set_option maxHeartbeats 400000 in
theorem sign_any (n : Bool) (c e : Int) (w : World) :
    Calls Try.prog 59 #[.agg #[.bool n, .int .i64 c, .int .i64 e]] w fun r w' => r = .returned (.int .i64 (Fd.sgI ⟨n, c, e⟩)) ∧ Below w.heap.size w w' := by
  cases n
  all_goals
    go_enter Try.func59, Try.ntmps59
    go_wp2
  all_goals go_ret
  all_goals exact ⟨ret_int (by simp [Fd.sgI]; try omega), (Below.refl _ _).alloc (Nat.le_refl _) _⟩

set_option maxHeartbeats 400000 in
theorem fromSigned_any (s e : Int) (w : World) (h1 : -9000000000000000000 ≤ s) :
    Calls Try.prog 67 #[.int .i64 s, .int .i64 e] w fun r w' =>
      r = .returned (.agg #[.bool (Fd.fromS s e).n, .int .i64 (Fd.fromS s e).c, .int .i64 (Fd.fromS s e).e]) ∧ Below w.heap.size w w' := by
  by_cases hs : s < 0
  · have HF : Hid (Fd.fromS s e = ⟨true, -s, e⟩) := Lib.hid (by unfold Fd.fromS; rw [if_pos hs, decide_eq_true hs])
    go_enter Try.func67, Try.ntmps67
    go_wp2
    exact bodyPost_ret (v := .agg #[.bool true, .int .i64 (-s), .int .i64 e]) (by simp [results, Try.results67, go_sem]) rfl ⟨by rw [HF.out], (Below.refl _ _).alloc (Nat.le_refl _) _⟩
  · have HF : Hid (Fd.fromS s e = ⟨false, s, e⟩) := Lib.hid (by unfold Fd.fromS; rw [if_neg hs, decide_eq_false hs])
    go_enter Try.func67, Try.ntmps67
    go_wp2
    exact bodyPost_ret (v := .agg #[.bool false, .int .i64 s, .int .i64 e]) (by simp [results, Try.results67, go_sem]) rfl ⟨by rw [HF.out], (Below.refl _ _).alloc (Nat.le_refl _) _⟩

set_option maxHeartbeats 400000 in
theorem NegateDec_any (n : Bool) (c e : Int) (w : World) :
    Calls Try.prog 20 #[.agg #[.bool n, .int .i64 c, .int .i64 e]] w fun r w' =>
      r = .returned (.agg #[.bool (Fd.neg ⟨n, c, e⟩).n, .int .i64 (Fd.neg ⟨n, c, e⟩).c, .int .i64 (Fd.neg ⟨n, c, e⟩).e]) ∧ Below w.heap.size w w' := by
  cases hv : Fd.vld ⟨n, c, e⟩
  · have HF : Hid (Fd.neg ⟨n, c, e⟩ = Fd.D.z) := Lib.hid (by unfold Fd.neg; rw [hv]; rfl)
    go_enter Try.func20, Try.ntmps20
    go_wp2_with (go_at_call 56; refine (valid_any _ _ _ _).mono ?_; rintro r w1 ⟨rfl, hb⟩; obtain ⟨hc, hf⟩ := bcell hb; have hB : Below w.heap.size w w1 := (by refine Below.trans ?_ (hb.mono (by first | omega | (simp; done) | (simp <;> omega))); repeat (first | with_reducible exact Below.refl _ _ | with_reducible assumption | with_reducible refine Below.setCell ?_ (by first | omega | (simp; done) | (simp <;> omega)) _ | with_reducible refine below_drewN ?_ _ | with_reducible refine Below.drew ?_ | with_reducible refine Below.alloc ?_ (by first | omega | (simp; done) | (simp <;> omega)) _)); have hz := hb.size; (try simp at hz); (try have hz0 : w.heap.size < w1.heap.size := by omega); (try have hz1 : w.heap.size + 1 < w1.heap.size := by omega); (try have hz2 : w.heap.size + 1 + 1 < w1.heap.size := by omega))
    exact bodyPost_ret (v := .agg #[.bool false, .int .i64 0, .int .i64 0]) (by simp [results, Try.results20, go_sem, hc]) rfl ⟨by rw [HF.out]; rfl, (by repeat (first | with_reducible exact Below.refl _ _ | with_reducible assumption | with_reducible refine Below.setCell ?_ (by first | omega | (simp; done) | (simp <;> omega)) _ | with_reducible refine below_drewN ?_ _ | with_reducible refine Below.drew ?_ | with_reducible refine Below.alloc ?_ (by first | omega | (simp; done) | (simp <;> omega)) _))⟩
  · have HF : Hid (Fd.neg ⟨n, c, e⟩ = ⟨decide (0 < c) && !n, c, e⟩) := Lib.hid (by unfold Fd.neg; rw [hv]; rfl)
    by_cases h0 : 0 < c
    · have HG : Hid ((⟨decide (0 < c) && !n, c, e⟩ : Fd.D) = ⟨!n, c, e⟩) := Lib.hid (by rw [decide_eq_true h0, Bool.true_and])
      go_enter Try.func20, Try.ntmps20
      go_wp2_with (go_at_call 56; refine (valid_any _ _ _ _).mono ?_; rintro r w1 ⟨rfl, hb⟩; obtain ⟨hc, hf⟩ := bcell hb; have hB : Below w.heap.size w w1 := (by refine Below.trans ?_ (hb.mono (by first | omega | (simp; done) | (simp <;> omega))); repeat (first | with_reducible exact Below.refl _ _ | with_reducible assumption | with_reducible refine Below.setCell ?_ (by first | omega | (simp; done) | (simp <;> omega)) _ | with_reducible refine below_drewN ?_ _ | with_reducible refine Below.drew ?_ | with_reducible refine Below.alloc ?_ (by first | omega | (simp; done) | (simp <;> omega)) _)); have hz := hb.size; (try simp at hz); (try have hz0 : w.heap.size < w1.heap.size := by omega); (try have hz1 : w.heap.size + 1 < w1.heap.size := by omega); (try have hz2 : w.heap.size + 1 + 1 < w1.heap.size := by omega))
      exact bodyPost_ret (v := .agg #[.bool !n, .int .i64 c, .int .i64 e]) (by simp [results, Try.results20, go_sem, hc]) rfl ⟨by rw [HF.out, HG.out], (by repeat (first | with_reducible exact Below.refl _ _ | with_reducible assumption | with_reducible refine Below.setCell ?_ (by first | omega | (simp; done) | (simp <;> omega)) _ | with_reducible refine below_drewN ?_ _ | with_reducible refine Below.drew ?_ | with_reducible refine Below.alloc ?_ (by first | omega | (simp; done) | (simp <;> omega)) _))⟩
    · have HG : Hid ((⟨decide (0 < c) && !n, c, e⟩ : Fd.D) = ⟨false, c, e⟩) := Lib.hid (by rw [decide_eq_false h0, Bool.false_and])
      go_enter Try.func20, Try.ntmps20
      go_wp2_with (go_at_call 56; refine (valid_any _ _ _ _).mono ?_; rintro r w1 ⟨rfl, hb⟩; obtain ⟨hc, hf⟩ := bcell hb; have hB : Below w.heap.size w w1 := (by refine Below.trans ?_ (hb.mono (by first | omega | (simp; done) | (simp <;> omega))); repeat (first | with_reducible exact Below.refl _ _ | with_reducible assumption | with_reducible refine Below.setCell ?_ (by first | omega | (simp; done) | (simp <;> omega)) _ | with_reducible refine below_drewN ?_ _ | with_reducible refine Below.drew ?_ | with_reducible refine Below.alloc ?_ (by first | omega | (simp; done) | (simp <;> omega)) _)); have hz := hb.size; (try simp at hz); (try have hz0 : w.heap.size < w1.heap.size := by omega); (try have hz1 : w.heap.size + 1 < w1.heap.size := by omega); (try have hz2 : w.heap.size + 1 + 1 < w1.heap.size := by omega))
      exact bodyPost_ret (v := .agg #[.bool false, .int .i64 c, .int .i64 e]) (by simp [results, Try.results20, go_sem, hc]) rfl ⟨by rw [HF.out, HG.out], (by repeat (first | with_reducible exact Below.refl _ _ | with_reducible assumption | with_reducible refine Below.setCell ?_ (by first | omega | (simp; done) | (simp <;> omega)) _ | with_reducible refine below_drewN ?_ _ | with_reducible refine Below.drew ?_ | with_reducible refine Below.alloc ?_ (by first | omega | (simp; done) | (simp <;> omega)) _))⟩

set_option maxHeartbeats 400000 in
theorem NormalDec_any (n : Bool) (c e : Int) (w : World) :
    Calls Try.prog 19 #[.agg #[.bool n, .int .i64 c, .int .i64 e]] w fun r w' =>
      r = .returned (.agg #[.bool (Fd.nd ⟨n, c, e⟩).n, .int .i64 (Fd.nd ⟨n, c, e⟩).c, .int .i64 (Fd.nd ⟨n, c, e⟩).e]) ∧ Below w.heap.size w w' := by
  cases hv : Fd.vld ⟨n, c, e⟩
  · have HF : Hid (Fd.nd ⟨n, c, e⟩ = Fd.D.z) := Lib.hid (by unfold Fd.nd; rw [hv]; rfl)
    go_enter Try.func19, Try.ntmps19
    go_wp2_with (go_at_call 56; refine (valid_any _ _ _ _).mono ?_; rintro r w1 ⟨rfl, hb⟩; obtain ⟨hc, hf⟩ := bcell hb; have hB : Below w.heap.size w w1 := (by refine Below.trans ?_ (hb.mono (by first | omega | (simp; done) | (simp <;> omega))); repeat (first | with_reducible exact Below.refl _ _ | with_reducible assumption | with_reducible refine Below.setCell ?_ (by first | omega | (simp; done) | (simp <;> omega)) _ | with_reducible refine below_drewN ?_ _ | with_reducible refine Below.drew ?_ | with_reducible refine Below.alloc ?_ (by first | omega | (simp; done) | (simp <;> omega)) _)); have hz := hb.size; (try simp at hz); (try have hz0 : w.heap.size < w1.heap.size := by omega); (try have hz1 : w.heap.size + 1 < w1.heap.size := by omega); (try have hz2 : w.heap.size + 1 + 1 < w1.heap.size := by omega))
    exact bodyPost_ret (v := .agg #[.bool false, .int .i64 0, .int .i64 0]) (by simp [results, Try.results19, go_sem, hc]) rfl ⟨by rw [HF.out]; rfl, (by repeat (first | with_reducible exact Below.refl _ _ | with_reducible assumption | with_reducible refine Below.setCell ?_ (by first | omega | (simp; done) | (simp <;> omega)) _ | with_reducible refine below_drewN ?_ _ | with_reducible refine Below.drew ?_ | with_reducible refine Below.alloc ?_ (by first | omega | (simp; done) | (simp <;> omega)) _))⟩
  · have HF : Hid (Fd.nd ⟨n, c, e⟩ = (Fd.fit1 ⟨n, c, e⟩).1) := Lib.hid (by unfold Fd.nd; rw [hv]; rfl)
    obtain ⟨b1, b2, b3, b4⟩ := bounds_of hv
    go_enter Try.func19, Try.ntmps19
    go_wp2_with (first | (go_at_call 56; refine (valid_any _ _ _ _).mono ?_; rintro r w1 ⟨rfl, hb⟩; obtain ⟨hc, hf⟩ := bcell hb; have hB : Below w.heap.size w w1 := (by refine Below.trans ?_ (hb.mono (by first | omega | (simp; done) | (simp <;> omega))); repeat (first | with_reducible exact Below.refl _ _ | with_reducible assumption | with_reducible refine Below.setCell ?_ (by first | omega | (simp; done) | (simp <;> omega)) _ | with_reducible refine below_drewN ?_ _ | with_reducible refine Below.drew ?_ | with_reducible refine Below.alloc ?_ (by first | omega | (simp; done) | (simp <;> omega)) _)); have hz := hb.size; (try simp at hz); (try have hz0 : w.heap.size < w1.heap.size := by omega); (try have hz1 : w.heap.size + 1 < w1.heap.size := by omega); (try have hz2 : w.heap.size + 1 + 1 < w1.heap.size := by omega)) | (go_at_call 58; refine (fitted_any _ _ _ _ b1 (by omega) (by omega) (by omega)).mono ?_; rintro r w1 ⟨rfl, hb⟩; obtain ⟨hc, hf⟩ := bcell hb; have hB : Below w.heap.size w w1 := (by refine Below.trans ?_ (hb.mono (by first | omega | (simp; done) | (simp <;> omega))); repeat (first | with_reducible exact Below.refl _ _ | with_reducible assumption | with_reducible refine Below.setCell ?_ (by first | omega | (simp; done) | (simp <;> omega)) _ | with_reducible refine below_drewN ?_ _ | with_reducible refine Below.drew ?_ | with_reducible refine Below.alloc ?_ (by first | omega | (simp; done) | (simp <;> omega)) _)); have hz := hb.size; (try simp at hz); (try have hz0 : w.heap.size < w1.heap.size := by omega); (try have hz1 : w.heap.size + 1 < w1.heap.size := by omega); (try have hz2 : w.heap.size + 1 + 1 < w1.heap.size := by omega)))
    exact bodyPost_ret (v := .agg #[.bool (Fd.fit1 ⟨n, c, e⟩).1.n, .int .i64 (Fd.fit1 ⟨n, c, e⟩).1.c, .int .i64 (Fd.fit1 ⟨n, c, e⟩).1.e]) (by simp [results, Try.results19, go_sem, *]) rfl ⟨by rw [HF.out], (by repeat (first | with_reducible exact Below.refl _ _ | with_reducible assumption | with_reducible refine Below.setCell ?_ (by first | omega | (simp; done) | (simp <;> omega)) _ | with_reducible refine below_drewN ?_ _ | with_reducible refine Below.drew ?_ | with_reducible refine Below.alloc ?_ (by first | omega | (simp; done) | (simp <;> omega)) _))⟩
end Go.Proofs.Ytehocgedlepajaa
