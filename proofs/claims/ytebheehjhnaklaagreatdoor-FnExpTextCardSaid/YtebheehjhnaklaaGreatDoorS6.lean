import Derived.Test.YtebheehjhnaklaaGreatDoorC7
import Derived.Test.YtebheehjhnaklaaGreatDoorPl2
namespace Go.Proofs.YtebheehjhnaklaaGreatDoor
open Go.RowKit
set_option maxHeartbeats 1000000 in
theorem normalS_any (n : Bool) (c e : Int) (w : World) (h0 : 0 ≤ c) (h1 : c ≤ 2000000000000000000) (h2 : -24 ≤ e) (h3 : e ≤ 24) :
    Calls Tryz.prog 168 #[.agg #[.bool n, .int .i64 c, .int .i64 e]] w fun r w' =>
      r = .returned (.agg #[.bool (Fd.normal2 ⟨n, c, e⟩).n, .int .i64 (Fd.normal2 ⟨n, c, e⟩).c, .int .i64 (Fd.normal2 ⟨n, c, e⟩).e]) ∧ Below w.heap.size w w' := by
  by_cases hz : c = 0
  · have HF : Hid (Fd.normal2 ⟨n, c, e⟩ = Fd.D.z) := Lib.hid (by unfold Fd.normal2; rw [if_pos hz])
    have hzb : (c == 0) = true := by simpa using hz
    clear hz
    go_enter Tryz.func168, Tryz.ntmps168
    go_wp2
    exact bodyPost_ret (v := .agg #[.bool false, .int .i64 0, .int .i64 0]) (by simp [results, Tryz.results168, go_sem]) rfl ⟨by rw [HF.out]; rfl, (by repeat (first | with_reducible exact Below.refl _ _ | with_reducible assumption | with_reducible refine Below.setCell ?_ (by first | omega | (simp; done) | (simp <;> omega)) _ | with_reducible refine below_drewN ?_ _ | with_reducible refine Below.drew ?_ | with_reducible refine Below.alloc ?_ (by first | omega | (simp; done) | (simp <;> omega)) _))⟩
  · have hzb : (c == 0) = false := by simpa using hz
    have hd := Fd.dc_le19 h1
    go_enter Tryz.func168, Tryz.ntmps168
    go_wp2
    go_loopg [10] c.toNat (fun g _ wr => ∃ c' e' : Int, wr = (w.alloc (.cells #[.bool n, .int .i64 c', .int .i64 e'] 24)).alloc (.cells #[.bool false, .int .i64 0, .int .i64 0] 24) ∧ 0 < c' ∧ c' ≤ c ∧ e ≤ e' ∧ g = c'.toNat ∧ e' ≤ 24 + 19 ∧ Aside (Fd.strip2 c' e' = Fd.strip2 c e ∧ e' + Fd.dc c' = e + Fd.dc c))
    case atStart => exact ⟨c, e, rfl, by omega, by omega, by omega, rfl, by omega, rfl, rfl⟩
    case round =>
      obtain ⟨c', e', rfl, r1, r2, r3, rfl, r4, r5⟩ := hrel
      by_cases hgo : c' % 10 = 0
      · have g2b : (c' % 10 == 0) = true := by simpa using hgo
        have G2 := Lib.hid hgo
        clear hgo
        go_wp2
        obtain ⟨r6, r7⟩ := r5.out
        have hdp := Fd.dc_pos r1
        have hdn := Fd.dc_nonneg (c' / 10)
        have g2 := G2.out
        go_roundg (c' / 10).toNat
        case measure => omega
        case rel => exact ⟨c' / 10, e' + 1, rfl, by omega, by omega, by omega, rfl, by omega, by rw [← r6, ← Fd.strip2_yes r1 g2], by omega⟩
      · have g2b : (c' % 10 == 0) = false := by simpa using hgo
        have HF : Hid (Fd.normal2 ⟨n, c, e⟩ = ⟨n, c', e'⟩) := Lib.hid (by
          unfold Fd.normal2; rw [if_neg (by exact hz)]; simp only; rw [← r5.out.1, Fd.strip2_no hgo])
        clear hgo r5
        go_wp2
        exact bodyPost_ret (v := .agg #[.bool n, .int .i64 c', .int .i64 e']) (by simp [results, Tryz.results168, go_sem]) rfl ⟨by rw [HF.out], (by repeat (first | with_reducible exact Below.refl _ _ | with_reducible assumption | with_reducible refine Below.setCell ?_ (by first | omega | (simp; done) | (simp <;> omega)) _ | with_reducible refine below_drewN ?_ _ | with_reducible refine Below.drew ?_ | with_reducible refine Below.alloc ?_ (by first | omega | (simp; done) | (simp <;> omega)) _))⟩
end Go.Proofs.YtebheehjhnaklaaGreatDoor
namespace Go.Proofs.YtebheehjhnaklaaGreatDoor
open Go.RowKit
set_option maxHeartbeats 400000 in
theorem sizeS_any (n : Bool) (c e : Int) (w : World) (h1 : c ≤ 999999999) (h2 : -24 ≤ e) (h3 : e ≤ 24) :
    Calls Tryz.prog 99 #[.agg #[.bool n, .int .i64 c, .int .i64 e]] w fun r w' => r = .returned (.int .i64 (Fd.size ⟨n, c, e⟩)) ∧ Below w.heap.size w w' := by
  have hd0 := Fd.dc_nonneg c
  have hd := Fd.dc_le9 h1
  have hw1 : IntKind.i64.wrap (Fd.dc c + e) = Fd.dc c + e := IntWalk.i64_in _ (by omega)
  go_enter Tryz.func99, Tryz.ntmps99
  go_wp2
  have hB : Below w.heap.size w (w.alloc (.cells #[.bool n, .int .i64 c, .int .i64 e] 24)) := (by repeat (first | with_reducible exact Below.refl _ _ | with_reducible assumption | with_reducible refine Below.setCell ?_ (by first | omega | (simp; done) | (simp <;> omega)) _ | with_reducible refine below_drewN ?_ _ | with_reducible refine Below.drew ?_ | with_reducible refine Below.alloc ?_ (by first | omega | (simp; done) | (simp <;> omega)) _))
  generalize hW : (w.alloc (.cells #[.bool n, .int .i64 c, .int .i64 e] 24)) = W at hB ⊢
  have hcW : ∀ b o, W.cell? ⟨b, o, none⟩ = (w.alloc (.cells #[.bool n, .int .i64 c, .int .i64 e] 24)).cell? ⟨b, o, none⟩ := fun _ _ => by rw [hW]
  have hfW : ∀ b o, W.frozen? ⟨b, o, none⟩ = (w.alloc (.cells #[.bool n, .int .i64 c, .int .i64 e] 24)).frozen? ⟨b, o, none⟩ := fun _ _ => by rw [hW]
  have hzW : W.heap.size = (w.alloc (.cells #[.bool n, .int .i64 c, .int .i64 e] 24)).heap.size := by rw [hW]
  simp at hzW
  clear hW
  have hS0 : (∀ b o, b < W.heap.size → W.cell? ⟨b, o, none⟩ = W.cell? ⟨b, o, none⟩) ∧ Below W.heap.size W W := ⟨fun _ _ _ => rfl, Below.refl _ _⟩; go_region_held3 (fun w_ => (∀ b o, b < W.heap.size → w_.cell? ⟨b, o, none⟩ = W.cell? ⟨b, o, none⟩) ∧ Below W.heap.size W w_) (repeat (first | with_reducible assumption | with_reducible refine keepD ?_ | with_reducible refine keepL ?_ _ | with_reducible refine keepS ?_ (by first | omega | (simp; done) | (simp <;> omega)) _ | with_reducible exact keepA (by with_reducible assumption) hb)) (first | (go_at_call 170; refine (digitCount_any _ _ h1).mono ?_; rintro r w1 ⟨rfl, rfl⟩))
  obtain ⟨hc, hb⟩ := ‹(∀ b o, b < W.heap.size → World.cell? _ ⟨b, o, none⟩ = W.cell? ⟨b, o, none⟩) ∧ Below W.heap.size W _›; have hf := (bcell hb).2; have hB := Below.trans hB (hb.mono (by omega)); have hz := hb.size; (try have hza := Nat.lt_of_lt_of_le (show w.heap.size < W.heap.size by omega) hb.size); (try have hzb := Nat.lt_of_lt_of_le (show w.heap.size + 1 < W.heap.size by omega) hb.size); (try have hzd := Nat.lt_of_lt_of_le (show w.heap.size + 1 + 1 < W.heap.size by omega) hb.size)
  go_wp2
  go_ret
  exact ⟨ret_int (by rfl), by assumption⟩
end Go.Proofs.YtebheehjhnaklaaGreatDoor
namespace Go.Proofs.YtebheehjhnaklaaGreatDoor
open Go.RowKit
theorem nbd {n : Bool} {c e : Int} (h0 : 0 ≤ c) (h1 : c ≤ 999999999) (h2 : -24 ≤ e) (h3 : e ≤ 24) :
    0 ≤ (Fd.normal2 ⟨n, c, e⟩).c ∧ (Fd.normal2 ⟨n, c, e⟩).c ≤ 2000000000000000000 ∧ -24 ≤ (Fd.normal2 ⟨n, c, e⟩).e ∧ (Fd.normal2 ⟨n, c, e⟩).e ≤ 43 ∧ (12 < (Fd.normal2 ⟨n, c, e⟩).e → (Fd.normal2 ⟨n, c, e⟩).c ≤ 2000000000) := by
  obtain ⟨a, b, d⟩ := Fd.normal2_bd (d := ⟨n, c, e⟩) h0 h2
  have := Fd.normal2_e (d := ⟨n, c, e⟩) (by simp only; omega) h2 h3
  simp only at b
  exact ⟨a, by omega, d, this, by intro; omega⟩
set_option maxHeartbeats 400000 in
theorem PlacesOfS_any (n : Bool) (c e : Int) (w : World) :
    Calls Tryz.prog 240 #[.agg #[.bool n, .int .i64 c, .int .i64 e]] w fun r w' => r = .returned (.int .i64 (Fd.placesS ⟨n, c, e⟩)) ∧ Below w.heap.size w w' := by
  cases hv : Fd.vld ⟨n, c, e⟩
  · have HF : Hid (Fd.placesS ⟨n, c, e⟩ = -1) := Lib.hid (by unfold Fd.placesS; rw [hv]; rfl)
    go_enter Tryz.func240, Tryz.ntmps240
    go_wp2_with (go_at_call 47; refine (validS_any _ _ _ _).mono ?_; rintro r w1 ⟨rfl, hb⟩; obtain ⟨hc, hf⟩ := bcell hb; have hB : Below w.heap.size w w1 := (by refine Below.trans ?_ (hb.mono (by first | omega | (simp; done) | (simp <;> omega))); repeat (first | with_reducible exact Below.refl _ _ | with_reducible assumption | with_reducible refine Below.setCell ?_ (by first | omega | (simp; done) | (simp <;> omega)) _ | with_reducible refine below_drewN ?_ _ | with_reducible refine Below.drew ?_ | with_reducible refine Below.alloc ?_ (by first | omega | (simp; done) | (simp <;> omega)) _)); have hz := hb.size; (try simp at hz); (try have hz0 : w.heap.size < w1.heap.size := by omega); (try have hz1 : w.heap.size + 1 < w1.heap.size := by omega); (try have hz2 : w.heap.size + 1 + 1 < w1.heap.size := by omega))
    go_ret
    exact ⟨ret_int (by rw [HF.out]), (by repeat (first | with_reducible exact Below.refl _ _ | with_reducible assumption | with_reducible refine Below.setCell ?_ (by first | omega | (simp; done) | (simp <;> omega)) _ | with_reducible refine below_drewN ?_ _ | with_reducible refine Below.drew ?_ | with_reducible refine Below.alloc ?_ (by first | omega | (simp; done) | (simp <;> omega)) _))⟩
  · have HF : Hid (Fd.placesS ⟨n, c, e⟩ = max 0 (0 - (Fd.normal2 ⟨n, c, e⟩).e)) := Lib.hid (by unfold Fd.placesS; rw [hv]; rfl)
    obtain ⟨b1, b2, b3, b4⟩ := bounds_of hv
    obtain ⟨d1, d2, d3, d4, d5⟩ := nbd (n := n) b1 b2 (show -24 ≤ e by omega) (by omega)
    have hfl := fld2
    clear d5
    go_enter Tryz.func240, Tryz.ntmps240
    go_wp2_with (first | (go_at_call 47; refine (validS_any _ _ _ _).mono ?_; rintro r w1 ⟨rfl, hb⟩; obtain ⟨hc, hf⟩ := bcell hb; have hB : Below w.heap.size w w1 := (by refine Below.trans ?_ (hb.mono (by first | omega | (simp; done) | (simp <;> omega))); repeat (first | with_reducible exact Below.refl _ _ | with_reducible assumption | with_reducible refine Below.setCell ?_ (by first | omega | (simp; done) | (simp <;> omega)) _ | with_reducible refine below_drewN ?_ _ | with_reducible refine Below.drew ?_ | with_reducible refine Below.alloc ?_ (by first | omega | (simp; done) | (simp <;> omega)) _)); have hz := hb.size; (try simp at hz); (try have hz0 : w.heap.size < w1.heap.size := by omega); (try have hz1 : w.heap.size + 1 < w1.heap.size := by omega); (try have hz2 : w.heap.size + 1 + 1 < w1.heap.size := by omega)) | (go_at_call 168; refine (normalS_any _ _ _ _ b1 (by omega) (by omega) (by omega)).mono ?_; rintro r w1 ⟨rfl, hb⟩; obtain ⟨hc, hf⟩ := bcell hb; have hB : Below w.heap.size w w1 := (by refine Below.trans ?_ (hb.mono (by first | omega | (simp; done) | (simp <;> omega))); repeat (first | with_reducible exact Below.refl _ _ | with_reducible assumption | with_reducible refine Below.setCell ?_ (by first | omega | (simp; done) | (simp <;> omega)) _ | with_reducible refine below_drewN ?_ _ | with_reducible refine Below.drew ?_ | with_reducible refine Below.alloc ?_ (by first | omega | (simp; done) | (simp <;> omega)) _)); have hz := hb.size; (try simp at hz); (try have hz0 : w.heap.size < w1.heap.size := by omega); (try have hz1 : w.heap.size + 1 < w1.heap.size := by omega); (try have hz2 : w.heap.size + 1 + 1 < w1.heap.size := by omega)))
    all_goals go_ret
    all_goals exact ⟨ret_int (by rw [HF.out]; omega), (by repeat (first | with_reducible exact Below.refl _ _ | with_reducible assumption | with_reducible refine Below.setCell ?_ (by first | omega | (simp; done) | (simp <;> omega)) _ | with_reducible refine below_drewN ?_ _ | with_reducible refine Below.drew ?_ | with_reducible refine Below.alloc ?_ (by first | omega | (simp; done) | (simp <;> omega)) _))⟩
end Go.Proofs.YtebheehjhnaklaaGreatDoor
namespace Go.Proofs.YtebheehjhnaklaaGreatDoor
open Go.RowKit
theorem qadd {f : FuncId} {args : Array Value} {w : World} {a n : Nat} {v : Value}
    (h : Calls Tryz.prog f args (w.drewN (a + n)) fun e w' => e = .returned v ∧ w.drewN (a + n) = w') :
    Calls Tryz.prog f args (w.drewN (a + n)) fun e w'' => e = .returned v ∧ ∃ m, w'' = w.drewN (a + m) :=
  h.mono fun _ _ ⟨he, hm⟩ => ⟨he, n, hm.symm⟩
set_option maxHeartbeats 4000000 in
theorem roundedS_any (n : Bool) (c e x : Int) (w : World) (h0 : 0 ≤ c) (h1 : c ≤ 999999999) (h2 : -24 ≤ e) (h3 : e ≤ 24) (h4 : -50 ≤ x) (h5 : x ≤ 50) :
    Calls Tryz.prog 169 #[.agg #[.bool n, .int .i64 c, .int .i64 e], .int .i64 x] w fun r w' =>
      r = .returned (.agg #[.bool (Fd.roundedS ⟨n, c, e⟩ x).n, .int .i64 (Fd.roundedS ⟨n, c, e⟩ x).c, .int .i64 (Fd.roundedS ⟨n, c, e⟩ x).e]) ∧ Below w.heap.size w w' := by
  by_cases hk : x - e ≤ 0
  · have HF : Hid (Fd.roundedS ⟨n, c, e⟩ x = ⟨n, c, e⟩) := Lib.hid (by unfold Fd.roundedS; rw [if_pos (.inl hk)])
    go_enter Tryz.func169, Tryz.ntmps169
    go_wp2
    exact bodyPost_ret (v := .agg #[.bool n, .int .i64 c, .int .i64 e]) (by simp [results, Tryz.results169, go_sem]) rfl ⟨by rw [HF.out], (by repeat (first | with_reducible exact Below.refl _ _ | with_reducible assumption | with_reducible refine Below.setCell ?_ (by first | omega | (simp; done) | (simp <;> omega)) _ | with_reducible refine below_drewN ?_ _ | with_reducible refine Below.drew ?_ | with_reducible refine Below.alloc ?_ (by first | omega | (simp; done) | (simp <;> omega)) _))⟩
  by_cases hz : c = 0
  · have HF : Hid (Fd.roundedS ⟨n, c, e⟩ x = ⟨n, c, e⟩) := Lib.hid (by unfold Fd.roundedS; rw [if_pos (.inr (by exact hz))])
    have hzb : (c == 0) = true := by simpa using hz
    clear hz
    go_enter Tryz.func169, Tryz.ntmps169
    go_wp2
    exact bodyPost_ret (v := .agg #[.bool n, .int .i64 c, .int .i64 e]) (by simp [results, Tryz.results169, go_sem]) rfl ⟨by rw [HF.out], (by repeat (first | with_reducible exact Below.refl _ _ | with_reducible assumption | with_reducible refine Below.setCell ?_ (by first | omega | (simp; done) | (simp <;> omega)) _ | with_reducible refine below_drewN ?_ _ | with_reducible refine Below.drew ?_ | with_reducible refine Below.alloc ?_ (by first | omega | (simp; done) | (simp <;> omega)) _))⟩
  have hzb : (c == 0) = false := by simpa using hz
  have hF0 : ¬ (x - e ≤ 0 ∨ c = 0) := by omega
  clear hz
  by_cases hk9 : 9 < x - e
  · have HF : Hid (Fd.roundedS ⟨n, c, e⟩ x = Fd.D.z) := Lib.hid (by unfold Fd.roundedS; rw [if_neg hF0, if_pos hk9])
    clear hF0
    go_enter Tryz.func169, Tryz.ntmps169
    go_wp2
    exact bodyPost_ret (v := .agg #[.bool false, .int .i64 0, .int .i64 0]) (by simp [results, Tryz.results169, go_sem]) rfl ⟨by rw [HF.out]; rfl, (by repeat (first | with_reducible exact Below.refl _ _ | with_reducible assumption | with_reducible refine Below.setCell ?_ (by first | omega | (simp; done) | (simp <;> omega)) _ | with_reducible refine below_drewN ?_ _ | with_reducible refine Below.drew ?_ | with_reducible refine Below.alloc ?_ (by first | omega | (simp; done) | (simp <;> omega)) _))⟩
  have hF : Fd.roundedS ⟨n, c, e⟩ x = ⟨n && decide (0 < Fd.rq c (x - e)), Fd.rq c (x - e), x⟩ := by unfold Fd.roundedS; rw [if_neg hF0, if_neg hk9]
  clear hF0
  have hpw := fun W => power_any (x - e) W (by omega) (by omega)
  have hP1 := Fd.p10_pos (x - e)
  have hP2 := Fd.p10_le9 (k := x - e) (by omega) (by omega)
  unfold Fd.rq at hF
  generalize Fd.p10 (x - e) = P at *
  have Hpw := Lib.hid hpw
  clear hpw
  have hq0 : 0 ≤ c / P := Int.ediv_nonneg h0 (by omega)
  have hr0 : 0 ≤ c % P := Int.emod_nonneg c (by omega)
  have hr1 : c % P < P := Int.emod_lt_of_pos c hP1
  have hq9 : c / P ≤ 999999999 := by
    have := Int.ediv_le_self P h0; omega
  have hcase : (Hid (Fd.roundedS ⟨n, c, e⟩ x = ⟨n, c / P + 1, x⟩) ∧ 0 < c / P + 1 ∧ (P < 2 * (c % P) ∨ ((2 * (c % P) == P) = true ∧ ¬ P < 2 * (c % P) ∧ (c / P % 2 == 1) = true))) ∨
      (((0 < c / P ∧ Hid (Fd.roundedS ⟨n, c, e⟩ x = ⟨n, c / P, x⟩)) ∨ (¬ 0 < c / P ∧ Hid (Fd.roundedS ⟨n, c, e⟩ x = ⟨false, c / P, x⟩))) ∧ ¬ P < 2 * (c % P) ∧ (((2 * (c % P) == P) = true ∧ (c / P % 2 == 1) = false) ∨ (2 * (c % P) == P) = false)) := by
    by_cases up : 2 * (c % P) > P ∨ 2 * (c % P) = P ∧ c / P % 2 = 1
    · left
      rw [if_pos up, decide_eq_true (by omega), Bool.and_true] at hF
      refine ⟨Lib.hid hF, by omega, ?_⟩
      rcases up with g | ⟨g, g'⟩
      · left; omega
      · right; exact ⟨by simpa using g, by omega, by simpa using g'⟩
    · right
      rw [if_neg up] at hF
      refine ⟨?_, by omega, ?_⟩
      · by_cases g : 0 < c / P
        · left; rw [decide_eq_true g, Bool.and_true] at hF; exact ⟨g, Lib.hid hF⟩
        · right; rw [decide_eq_false g, Bool.and_false] at hF; exact ⟨g, Lib.hid hF⟩
      · by_cases g : 2 * (c % P) = P
        · left; exact ⟨by simpa using g, by simp; omega⟩
        · right; simpa using g
  clear hF
  cases n
  · rcases hcase with ⟨HF, g0, g | ⟨g, g', g''⟩⟩ | ⟨⟨g0, HF⟩ | ⟨g0, HF⟩, g', ⟨g, g''⟩ | g⟩
    · go_enter Tryz.func169, Tryz.ntmps169
      go_wp2
      go_quiet ((go_at_call 225; exact Calls.quiet_of_same ((Hpw.out _).mono (fun _ _ h => ⟨h.1, h.2.symm⟩))))
      go_wp2
      go_quiet ((go_at_call 225; exact qadd (Hpw.out _)))
      go_wp2_with (go_at_call 225; refine (Hpw.out _).mono ?_; rintro r w1 ⟨rfl, rfl⟩)
      exact bodyPost_ret (v := .agg #[.bool (false), .int .i64 (c / P + 1), .int .i64 x]) (by simp [results, Tryz.results169, go_sem, *]) rfl ⟨by rw [HF.out], (by repeat (first | with_reducible exact Below.refl _ _ | with_reducible assumption | with_reducible refine Below.setCell ?_ (by first | omega | (simp; done) | (simp <;> omega)) _ | with_reducible refine below_drewN ?_ _ | with_reducible refine Below.drew ?_ | with_reducible refine Below.alloc ?_ (by first | omega | (simp; done) | (simp <;> omega)) _))⟩
    · go_enter Tryz.func169, Tryz.ntmps169
      go_wp2
      go_quiet ((go_at_call 225; exact Calls.quiet_of_same ((Hpw.out _).mono (fun _ _ h => ⟨h.1, h.2.symm⟩))))
      go_wp2
      go_quiet ((go_at_call 225; exact qadd (Hpw.out _)))
      go_wp2_with (go_at_call 225; refine (Hpw.out _).mono ?_; rintro r w1 ⟨rfl, rfl⟩)
      exact bodyPost_ret (v := .agg #[.bool (false), .int .i64 (c / P + 1), .int .i64 x]) (by simp [results, Tryz.results169, go_sem, *]) rfl ⟨by rw [HF.out], (by repeat (first | with_reducible exact Below.refl _ _ | with_reducible assumption | with_reducible refine Below.setCell ?_ (by first | omega | (simp; done) | (simp <;> omega)) _ | with_reducible refine below_drewN ?_ _ | with_reducible refine Below.drew ?_ | with_reducible refine Below.alloc ?_ (by first | omega | (simp; done) | (simp <;> omega)) _))⟩
    · go_enter Tryz.func169, Tryz.ntmps169
      go_wp2
      go_quiet ((go_at_call 225; exact Calls.quiet_of_same ((Hpw.out _).mono (fun _ _ h => ⟨h.1, h.2.symm⟩))))
      go_wp2
      go_quiet ((go_at_call 225; exact qadd (Hpw.out _)))
      go_wp2_with (go_at_call 225; refine (Hpw.out _).mono ?_; rintro r w1 ⟨rfl, rfl⟩)
      exact bodyPost_ret (v := .agg #[.bool (false), .int .i64 (c / P), .int .i64 x]) (by simp [results, Tryz.results169, go_sem, *]) rfl ⟨by rw [HF.out], (by repeat (first | with_reducible exact Below.refl _ _ | with_reducible assumption | with_reducible refine Below.setCell ?_ (by first | omega | (simp; done) | (simp <;> omega)) _ | with_reducible refine below_drewN ?_ _ | with_reducible refine Below.drew ?_ | with_reducible refine Below.alloc ?_ (by first | omega | (simp; done) | (simp <;> omega)) _))⟩
    · go_enter Tryz.func169, Tryz.ntmps169
      go_wp2
      go_quiet ((go_at_call 225; exact Calls.quiet_of_same ((Hpw.out _).mono (fun _ _ h => ⟨h.1, h.2.symm⟩))))
      go_wp2
      go_quiet ((go_at_call 225; exact qadd (Hpw.out _)))
      go_wp2_with (go_at_call 225; refine (Hpw.out _).mono ?_; rintro r w1 ⟨rfl, rfl⟩)
      exact bodyPost_ret (v := .agg #[.bool (false), .int .i64 (c / P), .int .i64 x]) (by simp [results, Tryz.results169, go_sem, *]) rfl ⟨by rw [HF.out], (by repeat (first | with_reducible exact Below.refl _ _ | with_reducible assumption | with_reducible refine Below.setCell ?_ (by first | omega | (simp; done) | (simp <;> omega)) _ | with_reducible refine below_drewN ?_ _ | with_reducible refine Below.drew ?_ | with_reducible refine Below.alloc ?_ (by first | omega | (simp; done) | (simp <;> omega)) _))⟩
    · go_enter Tryz.func169, Tryz.ntmps169
      go_wp2
      go_quiet ((go_at_call 225; exact Calls.quiet_of_same ((Hpw.out _).mono (fun _ _ h => ⟨h.1, h.2.symm⟩))))
      go_wp2
      go_quiet ((go_at_call 225; exact qadd (Hpw.out _)))
      go_wp2_with (go_at_call 225; refine (Hpw.out _).mono ?_; rintro r w1 ⟨rfl, rfl⟩)
      exact bodyPost_ret (v := .agg #[.bool (false), .int .i64 (c / P), .int .i64 x]) (by simp [results, Tryz.results169, go_sem, *]) rfl ⟨by rw [HF.out], (by repeat (first | with_reducible exact Below.refl _ _ | with_reducible assumption | with_reducible refine Below.setCell ?_ (by first | omega | (simp; done) | (simp <;> omega)) _ | with_reducible refine below_drewN ?_ _ | with_reducible refine Below.drew ?_ | with_reducible refine Below.alloc ?_ (by first | omega | (simp; done) | (simp <;> omega)) _))⟩
    · go_enter Tryz.func169, Tryz.ntmps169
      go_wp2
      go_quiet ((go_at_call 225; exact Calls.quiet_of_same ((Hpw.out _).mono (fun _ _ h => ⟨h.1, h.2.symm⟩))))
      go_wp2
      go_quiet ((go_at_call 225; exact qadd (Hpw.out _)))
      go_wp2_with (go_at_call 225; refine (Hpw.out _).mono ?_; rintro r w1 ⟨rfl, rfl⟩)
      exact bodyPost_ret (v := .agg #[.bool (false), .int .i64 (c / P), .int .i64 x]) (by simp [results, Tryz.results169, go_sem, *]) rfl ⟨by rw [HF.out], (by repeat (first | with_reducible exact Below.refl _ _ | with_reducible assumption | with_reducible refine Below.setCell ?_ (by first | omega | (simp; done) | (simp <;> omega)) _ | with_reducible refine below_drewN ?_ _ | with_reducible refine Below.drew ?_ | with_reducible refine Below.alloc ?_ (by first | omega | (simp; done) | (simp <;> omega)) _))⟩
  · rcases hcase with ⟨HF, g0, g | ⟨g, g', g''⟩⟩ | ⟨⟨g0, HF⟩ | ⟨g0, HF⟩, g', ⟨g, g''⟩ | g⟩
    · go_enter Tryz.func169, Tryz.ntmps169
      go_wp2
      go_quiet ((go_at_call 225; exact Calls.quiet_of_same ((Hpw.out _).mono (fun _ _ h => ⟨h.1, h.2.symm⟩))))
      go_wp2
      go_quiet ((go_at_call 225; exact qadd (Hpw.out _)))
      go_wp2_with (go_at_call 225; refine (Hpw.out _).mono ?_; rintro r w1 ⟨rfl, rfl⟩)
      exact bodyPost_ret (v := .agg #[.bool (true), .int .i64 (c / P + 1), .int .i64 x]) (by simp [results, Tryz.results169, go_sem, *]) rfl ⟨by rw [HF.out], (by repeat (first | with_reducible exact Below.refl _ _ | with_reducible assumption | with_reducible refine Below.setCell ?_ (by first | omega | (simp; done) | (simp <;> omega)) _ | with_reducible refine below_drewN ?_ _ | with_reducible refine Below.drew ?_ | with_reducible refine Below.alloc ?_ (by first | omega | (simp; done) | (simp <;> omega)) _))⟩
    · go_enter Tryz.func169, Tryz.ntmps169
      go_wp2
      go_quiet ((go_at_call 225; exact Calls.quiet_of_same ((Hpw.out _).mono (fun _ _ h => ⟨h.1, h.2.symm⟩))))
      go_wp2
      go_quiet ((go_at_call 225; exact qadd (Hpw.out _)))
      go_wp2_with (go_at_call 225; refine (Hpw.out _).mono ?_; rintro r w1 ⟨rfl, rfl⟩)
      exact bodyPost_ret (v := .agg #[.bool (true), .int .i64 (c / P + 1), .int .i64 x]) (by simp [results, Tryz.results169, go_sem, *]) rfl ⟨by rw [HF.out], (by repeat (first | with_reducible exact Below.refl _ _ | with_reducible assumption | with_reducible refine Below.setCell ?_ (by first | omega | (simp; done) | (simp <;> omega)) _ | with_reducible refine below_drewN ?_ _ | with_reducible refine Below.drew ?_ | with_reducible refine Below.alloc ?_ (by first | omega | (simp; done) | (simp <;> omega)) _))⟩
    · go_enter Tryz.func169, Tryz.ntmps169
      go_wp2
      go_quiet ((go_at_call 225; exact Calls.quiet_of_same ((Hpw.out _).mono (fun _ _ h => ⟨h.1, h.2.symm⟩))))
      go_wp2
      go_quiet ((go_at_call 225; exact qadd (Hpw.out _)))
      go_wp2_with (go_at_call 225; refine (Hpw.out _).mono ?_; rintro r w1 ⟨rfl, rfl⟩)
      exact bodyPost_ret (v := .agg #[.bool (true), .int .i64 (c / P), .int .i64 x]) (by simp [results, Tryz.results169, go_sem, *]) rfl ⟨by rw [HF.out], (by repeat (first | with_reducible exact Below.refl _ _ | with_reducible assumption | with_reducible refine Below.setCell ?_ (by first | omega | (simp; done) | (simp <;> omega)) _ | with_reducible refine below_drewN ?_ _ | with_reducible refine Below.drew ?_ | with_reducible refine Below.alloc ?_ (by first | omega | (simp; done) | (simp <;> omega)) _))⟩
    · go_enter Tryz.func169, Tryz.ntmps169
      go_wp2
      go_quiet ((go_at_call 225; exact Calls.quiet_of_same ((Hpw.out _).mono (fun _ _ h => ⟨h.1, h.2.symm⟩))))
      go_wp2
      go_quiet ((go_at_call 225; exact qadd (Hpw.out _)))
      go_wp2_with (go_at_call 225; refine (Hpw.out _).mono ?_; rintro r w1 ⟨rfl, rfl⟩)
      exact bodyPost_ret (v := .agg #[.bool (true), .int .i64 (c / P), .int .i64 x]) (by simp [results, Tryz.results169, go_sem, *]) rfl ⟨by rw [HF.out], (by repeat (first | with_reducible exact Below.refl _ _ | with_reducible assumption | with_reducible refine Below.setCell ?_ (by first | omega | (simp; done) | (simp <;> omega)) _ | with_reducible refine below_drewN ?_ _ | with_reducible refine Below.drew ?_ | with_reducible refine Below.alloc ?_ (by first | omega | (simp; done) | (simp <;> omega)) _))⟩
    · go_enter Tryz.func169, Tryz.ntmps169
      go_wp2
      go_quiet ((go_at_call 225; exact Calls.quiet_of_same ((Hpw.out _).mono (fun _ _ h => ⟨h.1, h.2.symm⟩))))
      go_wp2
      go_quiet ((go_at_call 225; exact qadd (Hpw.out _)))
      go_wp2_with (go_at_call 225; refine (Hpw.out _).mono ?_; rintro r w1 ⟨rfl, rfl⟩)
      exact bodyPost_ret (v := .agg #[.bool (false), .int .i64 (c / P), .int .i64 x]) (by simp [results, Tryz.results169, go_sem, *]) rfl ⟨by rw [HF.out], (by repeat (first | with_reducible exact Below.refl _ _ | with_reducible assumption | with_reducible refine Below.setCell ?_ (by first | omega | (simp; done) | (simp <;> omega)) _ | with_reducible refine below_drewN ?_ _ | with_reducible refine Below.drew ?_ | with_reducible refine Below.alloc ?_ (by first | omega | (simp; done) | (simp <;> omega)) _))⟩
    · go_enter Tryz.func169, Tryz.ntmps169
      go_wp2
      go_quiet ((go_at_call 225; exact Calls.quiet_of_same ((Hpw.out _).mono (fun _ _ h => ⟨h.1, h.2.symm⟩))))
      go_wp2
      go_quiet ((go_at_call 225; exact qadd (Hpw.out _)))
      go_wp2_with (go_at_call 225; refine (Hpw.out _).mono ?_; rintro r w1 ⟨rfl, rfl⟩)
      exact bodyPost_ret (v := .agg #[.bool (false), .int .i64 (c / P), .int .i64 x]) (by simp [results, Tryz.results169, go_sem, *]) rfl ⟨by rw [HF.out], (by repeat (first | with_reducible exact Below.refl _ _ | with_reducible assumption | with_reducible refine Below.setCell ?_ (by first | omega | (simp; done) | (simp <;> omega)) _ | with_reducible refine below_drewN ?_ _ | with_reducible refine Below.drew ?_ | with_reducible refine Below.alloc ?_ (by first | omega | (simp; done) | (simp <;> omega)) _))⟩
end Go.Proofs.YtebheehjhnaklaaGreatDoor
namespace Go.Proofs.YtebheehjhnaklaaGreatDoor
open Go.RowKit
/-- what a rounding leaves is small -/
theorem rS_bd {n : Bool} {c e x : Int} (h0 : 0 ≤ c) (h1 : c ≤ 999999999) (h2 : -12 ≤ e) (h3 : e ≤ 12) (h4 : -24 ≤ x) (h5 : x ≤ 24) :
    0 ≤ (Fd.roundedS ⟨n, c, e⟩ x).c ∧ (Fd.roundedS ⟨n, c, e⟩ x).c ≤ 999999999 ∧ -24 ≤ (Fd.roundedS ⟨n, c, e⟩ x).e ∧ (Fd.roundedS ⟨n, c, e⟩ x).e ≤ 24 := by
  unfold Fd.roundedS
  split
  · exact ⟨h0, h1, by simp only; omega, by simp only; omega⟩
  · split
    · simp [Fd.D.z]
    · rename_i hk _
      have := Fd.rq_bd (c := c) (k := x - e) h0 (by simp only at hk; omega)
      exact ⟨by simp only; omega, by simp only; omega, h4, h5⟩
set_option maxHeartbeats 4000000 in
theorem roundedToS_any (n : Bool) (c e g : Int) (w : World) (b1 : 0 ≤ c) (b2 : c ≤ 999999999) (b3 : -12 ≤ e) (b4 : e ≤ 12) (g1 : 1 ≤ g) (g2 : g ≤ 9) :
    Calls Tryz.prog 97 #[.agg #[.bool n, .int .i64 c, .int .i64 e], .int .i64 g] w fun r w' =>
      r = .returned (.agg #[.bool (Fd.normal2 (Fd.roundedS ⟨n, c, e⟩ (Fd.size ⟨n, c, e⟩ - g))).n, .int .i64 (Fd.normal2 (Fd.roundedS ⟨n, c, e⟩ (Fd.size ⟨n, c, e⟩ - g))).c, .int .i64 (Fd.normal2 (Fd.roundedS ⟨n, c, e⟩ (Fd.size ⟨n, c, e⟩ - g))).e]) ∧ Below w.heap.size w w' := by
  have hsz : -12 ≤ Fd.size ⟨n, c, e⟩ ∧ Fd.size ⟨n, c, e⟩ ≤ 21 := by
    have := Fd.dc_nonneg c; have := Fd.dc_le9 b2; unfold Fd.size; simp only; omega
  obtain ⟨s1, s2⟩ := hsz
  obtain ⟨r1, r2, r3, r4⟩ := rS_bd (n := n) b1 b2 b3 b4 (show -24 ≤ Fd.size ⟨n, c, e⟩ - g by omega) (by omega)
  have hw : IntKind.i64.wrap (Fd.size ⟨n, c, e⟩ - g) = Fd.size ⟨n, c, e⟩ - g := IntWalk.i64_in _ (by omega)
  go_enter Tryz.func97, Tryz.ntmps97
  go_wp2
  go_region_with (first | (go_at_call 99; refine (sizeS_any _ _ _ _ b2 (by omega) (by omega)).mono ?_; rintro r w1 ⟨rfl, hb⟩; obtain ⟨hc, hf⟩ := bcell hb; have hB : Below w.heap.size w w1 := (by refine Below.trans ?_ (hb.mono (by first | omega | (simp; done) | (simp <;> omega))); repeat (first | with_reducible exact Below.refl _ _ | with_reducible assumption | with_reducible refine Below.setCell ?_ (by first | omega | (simp; done) | (simp <;> omega)) _ | with_reducible refine below_drewN ?_ _ | with_reducible refine Below.drew ?_ | with_reducible refine Below.alloc ?_ (by first | omega | (simp; done) | (simp <;> omega)) _)); have hz := hb.size; (try simp at hz); (try have hz0 : w.heap.size < w1.heap.size := by omega); (try have hz1 : w.heap.size + 1 < w1.heap.size := by omega); (try have hz2 : w.heap.size + 1 + 1 < w1.heap.size := by omega)) | (go_at_call 169; refine (roundedS_any _ _ _ _ _ b1 b2 (by omega) (by omega) (by omega) (by omega)).mono ?_; rintro r w1 ⟨rfl, hb⟩; obtain ⟨hc, hf⟩ := bcell hb; have hB : Below w.heap.size w w1 := (by refine Below.trans ?_ (hb.mono (by first | omega | (simp; done) | (simp <;> omega))); repeat (first | with_reducible exact Below.refl _ _ | with_reducible assumption | with_reducible refine Below.setCell ?_ (by first | omega | (simp; done) | (simp <;> omega)) _ | with_reducible refine below_drewN ?_ _ | with_reducible refine Below.drew ?_ | with_reducible refine Below.alloc ?_ (by first | omega | (simp; done) | (simp <;> omega)) _)); have hz := hb.size; (try simp at hz); (try have hz0 : w.heap.size < w1.heap.size := by omega); (try have hz1 : w.heap.size + 1 < w1.heap.size := by omega); (try have hz2 : w.heap.size + 1 + 1 < w1.heap.size := by omega)) | (go_at_call 168; refine (normalS_any _ _ _ _ r1 (by omega) r3 r4).mono ?_; rintro r w1 ⟨rfl, hb⟩; obtain ⟨hc, hf⟩ := bcell hb; have hB : Below w.heap.size w w1 := (by refine Below.trans ?_ (hb.mono (by first | omega | (simp; done) | (simp <;> omega))); repeat (first | with_reducible exact Below.refl _ _ | with_reducible assumption | with_reducible refine Below.setCell ?_ (by first | omega | (simp; done) | (simp <;> omega)) _ | with_reducible refine below_drewN ?_ _ | with_reducible refine Below.drew ?_ | with_reducible refine Below.alloc ?_ (by first | omega | (simp; done) | (simp <;> omega)) _)); have hz := hb.size; (try simp at hz); (try have hz0 : w.heap.size < w1.heap.size := by omega); (try have hz1 : w.heap.size + 1 < w1.heap.size := by omega); (try have hz2 : w.heap.size + 1 + 1 < w1.heap.size := by omega)))
  all_goals go_wp2
  all_goals exact bodyPost_ret (v := .agg #[.bool (Fd.normal2 (Fd.roundedS ⟨n, c, e⟩ (Fd.size ⟨n, c, e⟩ - g))).n, .int .i64 (Fd.normal2 (Fd.roundedS ⟨n, c, e⟩ (Fd.size ⟨n, c, e⟩ - g))).c, .int .i64 (Fd.normal2 (Fd.roundedS ⟨n, c, e⟩ (Fd.size ⟨n, c, e⟩ - g))).e]) (by simp [results, Tryz.results97, go_sem, *]) rfl ⟨rfl, (by repeat (first | with_reducible exact Below.refl _ _ | with_reducible assumption | with_reducible refine Below.setCell ?_ (by first | omega | (simp; done) | (simp <;> omega)) _ | with_reducible refine below_drewN ?_ _ | with_reducible refine Below.drew ?_ | with_reducible refine Below.alloc ?_ (by first | omega | (simp; done) | (simp <;> omega)) _))⟩
end Go.Proofs.YtebheehjhnaklaaGreatDoor
