import Derived.Test.YtamlnbciejnbdaaGreatDoorS4
namespace Go.Proofs.YtamlnbciejnbdaaGreatDoor
open Go.RowKit

theorem qadd {f : FuncId} {args : Array Value} {w : World} {a n : Nat} {v : Value}
    (h : Calls Tryz.prog f args (w.drewN (a + n)) fun e w' => e = .returned v ∧ w.drewN (a + n) = w') :
    Calls Tryz.prog f args (w.drewN (a + n)) fun e w'' => e = .returned v ∧ ∃ m, w'' = w.drewN (a + m) :=
  h.mono fun _ _ ⟨he, hm⟩ => ⟨he, n, hm.symm⟩

set_option maxHeartbeats 4000000 in
theorem roundedS_any (n : Bool) (c e x : Int) (w : World) (h0 : 0 ≤ c) (h1 : c ≤ 999999999) (h2 : -24 ≤ e) (h3 : e ≤ 24) (h4 : -50 ≤ x) (h5 : x ≤ 50) :
    Calls Tryz.prog 93 #[.agg #[.bool n, .int .i64 c, .int .i64 e], .int .i64 x] w fun r w' =>
      r = .returned (.agg #[.bool (Fd.roundedS ⟨n, c, e⟩ x).n, .int .i64 (Fd.roundedS ⟨n, c, e⟩ x).c, .int .i64 (Fd.roundedS ⟨n, c, e⟩ x).e]) ∧ Below w.heap.size w w' := by
  by_cases hk : x - e ≤ 0
  · have HF : Hid (Fd.roundedS ⟨n, c, e⟩ x = ⟨n, c, e⟩) := Lib.hid (by unfold Fd.roundedS; rw [if_pos (.inl hk)])
    go_enter Tryz.func93, Tryz.ntmps93
    go_wp2
    exact bodyPost_ret (v := .agg #[.bool n, .int .i64 c, .int .i64 e]) (by simp [results, Tryz.results93, go_sem]) rfl ⟨by rw [HF.out], (by repeat (first | with_reducible exact Below.refl _ _ | with_reducible assumption | with_reducible refine Below.setCell ?_ (by first | omega | (simp; done) | (simp <;> omega)) _ | with_reducible refine below_drewN ?_ _ | with_reducible refine Below.drew ?_ | with_reducible refine Below.alloc ?_ (by first | omega | (simp; done) | (simp <;> omega)) _))⟩
  by_cases hz : c = 0
  · have HF : Hid (Fd.roundedS ⟨n, c, e⟩ x = ⟨n, c, e⟩) := Lib.hid (by unfold Fd.roundedS; rw [if_pos (.inr (by exact hz))])
    have hzb : (c == 0) = true := by simpa using hz
    clear hz
    go_enter Tryz.func93, Tryz.ntmps93
    go_wp2
    exact bodyPost_ret (v := .agg #[.bool n, .int .i64 c, .int .i64 e]) (by simp [results, Tryz.results93, go_sem]) rfl ⟨by rw [HF.out], (by repeat (first | with_reducible exact Below.refl _ _ | with_reducible assumption | with_reducible refine Below.setCell ?_ (by first | omega | (simp; done) | (simp <;> omega)) _ | with_reducible refine below_drewN ?_ _ | with_reducible refine Below.drew ?_ | with_reducible refine Below.alloc ?_ (by first | omega | (simp; done) | (simp <;> omega)) _))⟩
  have hzb : (c == 0) = false := by simpa using hz
  have hF0 : ¬ (x - e ≤ 0 ∨ c = 0) := by omega
  clear hz
  by_cases hk9 : 9 < x - e
  · have HF : Hid (Fd.roundedS ⟨n, c, e⟩ x = Fd.D.z) := Lib.hid (by unfold Fd.roundedS; rw [if_neg hF0, if_pos hk9])
    clear hF0
    go_enter Tryz.func93, Tryz.ntmps93
    go_wp2
    exact bodyPost_ret (v := .agg #[.bool false, .int .i64 0, .int .i64 0]) (by simp [results, Tryz.results93, go_sem]) rfl ⟨by rw [HF.out]; rfl, (by repeat (first | with_reducible exact Below.refl _ _ | with_reducible assumption | with_reducible refine Below.setCell ?_ (by first | omega | (simp; done) | (simp <;> omega)) _ | with_reducible refine below_drewN ?_ _ | with_reducible refine Below.drew ?_ | with_reducible refine Below.alloc ?_ (by first | omega | (simp; done) | (simp <;> omega)) _))⟩
  have hF : Fd.roundedS ⟨n, c, e⟩ x = ⟨n && decide (0 < Fd.rq c (x - e)), Fd.rq c (x - e), x⟩ := by unfold Fd.roundedS; rw [if_neg hF0, if_neg hk9]
  clear hF0
  have hpw := fun W => power_any (x - e) W (by omega) (by omega)
  have hP1 := Fd.p10_pos (x - e)
  have hP2 := Fd.p10_le9 (k := x - e) (by omega) (by omega)
  unfold Fd.rq at hF
  generalize Fd.p10 (x - e) = P at *
  have Hpw := Lib.hid hpw
  clear hpw
  have hq0 : 0 ≤ c / P := Int.ediv_nonneg h0 (by omega)
  have hr0 : 0 ≤ c % P := Int.emod_nonneg c (by omega)
  have hr1 : c % P < P := Int.emod_lt_of_pos c hP1
  have hq9 : c / P ≤ 999999999 := by
    have := Int.ediv_le_self P h0; omega
  have hcase : (Hid (Fd.roundedS ⟨n, c, e⟩ x = ⟨n, c / P + 1, x⟩) ∧ 0 < c / P + 1 ∧ (P < 2 * (c % P) ∨ ((2 * (c % P) == P) = true ∧ ¬ P < 2 * (c % P) ∧ (c / P % 2 == 1) = true))) ∨
      (((0 < c / P ∧ Hid (Fd.roundedS ⟨n, c, e⟩ x = ⟨n, c / P, x⟩)) ∨ (¬ 0 < c / P ∧ Hid (Fd.roundedS ⟨n, c, e⟩ x = ⟨false, c / P, x⟩))) ∧ ¬ P < 2 * (c % P) ∧ (((2 * (c % P) == P) = true ∧ (c / P % 2 == 1) = false) ∨ (2 * (c % P) == P) = false)) := by
    by_cases up : 2 * (c % P) > P ∨ 2 * (c % P) = P ∧ c / P % 2 = 1
    · left
      rw [if_pos up, decide_eq_true (by omega), Bool.and_true] at hF
      refine ⟨Lib.hid hF, by omega, ?_⟩
      rcases up with g | ⟨g, g'⟩
      · left; omega
      · right; exact ⟨by simpa using g, by omega, by simpa using g'⟩
    · right
      rw [if_neg up] at hF
      refine ⟨?_, by omega, ?_⟩
      · by_cases g : 0 < c / P
        · left; rw [decide_eq_true g, Bool.and_true] at hF; exact ⟨g, Lib.hid hF⟩
        · right; rw [decide_eq_false g, Bool.and_false] at hF; exact ⟨g, Lib.hid hF⟩
      · by_cases g : 2 * (c % P) = P
        · left; exact ⟨by simpa using g, by simp; omega⟩
        · right; simpa using g
  clear hF
  cases n
  · rcases hcase with ⟨HF, g0, g | ⟨g, g', g''⟩⟩ | ⟨⟨g0, HF⟩ | ⟨g0, HF⟩, g', ⟨g, g''⟩ | g⟩
    · go_enter Tryz.func93, Tryz.ntmps93
      go_wp2
      go_quiet ((go_at_call 142; exact Calls.quiet_of_same ((Hpw.out _).mono (fun _ _ h => ⟨h.1, h.2.symm⟩))))
      go_wp2
      go_quiet ((go_at_call 142; exact qadd (Hpw.out _)))
      go_wp2_with (go_at_call 142; refine (Hpw.out _).mono ?_; rintro r w1 ⟨rfl, rfl⟩)
      exact bodyPost_ret (v := .agg #[.bool (false), .int .i64 (c / P + 1), .int .i64 x]) (by simp [results, Tryz.results93, go_sem, *]) rfl ⟨by rw [HF.out], (by repeat (first | with_reducible exact Below.refl _ _ | with_reducible assumption | with_reducible refine Below.setCell ?_ (by first | omega | (simp; done) | (simp <;> omega)) _ | with_reducible refine below_drewN ?_ _ | with_reducible refine Below.drew ?_ | with_reducible refine Below.alloc ?_ (by first | omega | (simp; done) | (simp <;> omega)) _))⟩
    · go_enter Tryz.func93, Tryz.ntmps93
      go_wp2
      go_quiet ((go_at_call 142; exact Calls.quiet_of_same ((Hpw.out _).mono (fun _ _ h => ⟨h.1, h.2.symm⟩))))
      go_wp2
      go_quiet ((go_at_call 142; exact qadd (Hpw.out _)))
      go_wp2_with (go_at_call 142; refine (Hpw.out _).mono ?_; rintro r w1 ⟨rfl, rfl⟩)
      exact bodyPost_ret (v := .agg #[.bool (false), .int .i64 (c / P + 1), .int .i64 x]) (by simp [results, Tryz.results93, go_sem, *]) rfl ⟨by rw [HF.out], (by repeat (first | with_reducible exact Below.refl _ _ | with_reducible assumption | with_reducible refine Below.setCell ?_ (by first | omega | (simp; done) | (simp <;> omega)) _ | with_reducible refine below_drewN ?_ _ | with_reducible refine Below.drew ?_ | with_reducible refine Below.alloc ?_ (by first | omega | (simp; done) | (simp <;> omega)) _))⟩
    · go_enter Tryz.func93, Tryz.ntmps93
      go_wp2
      go_quiet ((go_at_call 142; exact Calls.quiet_of_same ((Hpw.out _).mono (fun _ _ h => ⟨h.1, h.2.symm⟩))))
      go_wp2
      go_quiet ((go_at_call 142; exact qadd (Hpw.out _)))
      go_wp2_with (go_at_call 142; refine (Hpw.out _).mono ?_; rintro r w1 ⟨rfl, rfl⟩)
      exact bodyPost_ret (v := .agg #[.bool (false), .int .i64 (c / P), .int .i64 x]) (by simp [results, Tryz.results93, go_sem, *]) rfl ⟨by rw [HF.out], (by repeat (first | with_reducible exact Below.refl _ _ | with_reducible assumption | with_reducible refine Below.setCell ?_ (by first | omega | (simp; done) | (simp <;> omega)) _ | with_reducible refine below_drewN ?_ _ | with_reducible refine Below.drew ?_ | with_reducible refine Below.alloc ?_ (by first | omega | (simp; done) | (simp <;> omega)) _))⟩
    · go_enter Tryz.func93, Tryz.ntmps93
      go_wp2
      go_quiet ((go_at_call 142; exact Calls.quiet_of_same ((Hpw.out _).mono (fun _ _ h => ⟨h.1, h.2.symm⟩))))
      go_wp2
      go_quiet ((go_at_call 142; exact qadd (Hpw.out _)))
      go_wp2_with (go_at_call 142; refine (Hpw.out _).mono ?_; rintro r w1 ⟨rfl, rfl⟩)
      exact bodyPost_ret (v := .agg #[.bool (false), .int .i64 (c / P), .int .i64 x]) (by simp [results, Tryz.results93, go_sem, *]) rfl ⟨by rw [HF.out], (by repeat (first | with_reducible exact Below.refl _ _ | with_reducible assumption | with_reducible refine Below.setCell ?_ (by first | omega | (simp; done) | (simp <;> omega)) _ | with_reducible refine below_drewN ?_ _ | with_reducible refine Below.drew ?_ | with_reducible refine Below.alloc ?_ (by first | omega | (simp; done) | (simp <;> omega)) _))⟩
    · go_enter Tryz.func93, Tryz.ntmps93
      go_wp2
      go_quiet ((go_at_call 142; exact Calls.quiet_of_same ((Hpw.out _).mono (fun _ _ h => ⟨h.1, h.2.symm⟩))))
      go_wp2
      go_quiet ((go_at_call 142; exact qadd (Hpw.out _)))
      go_wp2_with (go_at_call 142; refine (Hpw.out _).mono ?_; rintro r w1 ⟨rfl, rfl⟩)
      exact bodyPost_ret (v := .agg #[.bool (false), .int .i64 (c / P), .int .i64 x]) (by simp [results, Tryz.results93, go_sem, *]) rfl ⟨by rw [HF.out], (by repeat (first | with_reducible exact Below.refl _ _ | with_reducible assumption | with_reducible refine Below.setCell ?_ (by first | omega | (simp; done) | (simp <;> omega)) _ | with_reducible refine below_drewN ?_ _ | with_reducible refine Below.drew ?_ | with_reducible refine Below.alloc ?_ (by first | omega | (simp; done) | (simp <;> omega)) _))⟩
    · go_enter Tryz.func93, Tryz.ntmps93
      go_wp2
      go_quiet ((go_at_call 142; exact Calls.quiet_of_same ((Hpw.out _).mono (fun _ _ h => ⟨h.1, h.2.symm⟩))))
      go_wp2
      go_quiet ((go_at_call 142; exact qadd (Hpw.out _)))
      go_wp2_with (go_at_call 142; refine (Hpw.out _).mono ?_; rintro r w1 ⟨rfl, rfl⟩)
      exact bodyPost_ret (v := .agg #[.bool (false), .int .i64 (c / P), .int .i64 x]) (by simp [results, Tryz.results93, go_sem, *]) rfl ⟨by rw [HF.out], (by repeat (first | with_reducible exact Below.refl _ _ | with_reducible assumption | with_reducible refine Below.setCell ?_ (by first | omega | (simp; done) | (simp <;> omega)) _ | with_reducible refine below_drewN ?_ _ | with_reducible refine Below.drew ?_ | with_reducible refine Below.alloc ?_ (by first | omega | (simp; done) | (simp <;> omega)) _))⟩
  · rcases hcase with ⟨HF, g0, g | ⟨g, g', g''⟩⟩ | ⟨⟨g0, HF⟩ | ⟨g0, HF⟩, g', ⟨g, g''⟩ | g⟩
    · go_enter Tryz.func93, Tryz.ntmps93
      go_wp2
      go_quiet ((go_at_call 142; exact Calls.quiet_of_same ((Hpw.out _).mono (fun _ _ h => ⟨h.1, h.2.symm⟩))))
      go_wp2
      go_quiet ((go_at_call 142; exact qadd (Hpw.out _)))
      go_wp2_with (go_at_call 142; refine (Hpw.out _).mono ?_; rintro r w1 ⟨rfl, rfl⟩)
      exact bodyPost_ret (v := .agg #[.bool (true), .int .i64 (c / P + 1), .int .i64 x]) (by simp [results, Tryz.results93, go_sem, *]) rfl ⟨by rw [HF.out], (by repeat (first | with_reducible exact Below.refl _ _ | with_reducible assumption | with_reducible refine Below.setCell ?_ (by first | omega | (simp; done) | (simp <;> omega)) _ | with_reducible refine below_drewN ?_ _ | with_reducible refine Below.drew ?_ | with_reducible refine Below.alloc ?_ (by first | omega | (simp; done) | (simp <;> omega)) _))⟩
    · go_enter Tryz.func93, Tryz.ntmps93
      go_wp2
      go_quiet ((go_at_call 142; exact Calls.quiet_of_same ((Hpw.out _).mono (fun _ _ h => ⟨h.1, h.2.symm⟩))))
      go_wp2
      go_quiet ((go_at_call 142; exact qadd (Hpw.out _)))
      go_wp2_with (go_at_call 142; refine (Hpw.out _).mono ?_; rintro r w1 ⟨rfl, rfl⟩)
      exact bodyPost_ret (v := .agg #[.bool (true), .int .i64 (c / P + 1), .int .i64 x]) (by simp [results, Tryz.results93, go_sem, *]) rfl ⟨by rw [HF.out], (by repeat (first | with_reducible exact Below.refl _ _ | with_reducible assumption | with_reducible refine Below.setCell ?_ (by first | omega | (simp; done) | (simp <;> omega)) _ | with_reducible refine below_drewN ?_ _ | with_reducible refine Below.drew ?_ | with_reducible refine Below.alloc ?_ (by first | omega | (simp; done) | (simp <;> omega)) _))⟩
    · go_enter Tryz.func93, Tryz.ntmps93
      go_wp2
      go_quiet ((go_at_call 142; exact Calls.quiet_of_same ((Hpw.out _).mono (fun _ _ h => ⟨h.1, h.2.symm⟩))))
      go_wp2
      go_quiet ((go_at_call 142; exact qadd (Hpw.out _)))
      go_wp2_with (go_at_call 142; refine (Hpw.out _).mono ?_; rintro r w1 ⟨rfl, rfl⟩)
      exact bodyPost_ret (v := .agg #[.bool (true), .int .i64 (c / P), .int .i64 x]) (by simp [results, Tryz.results93, go_sem, *]) rfl ⟨by rw [HF.out], (by repeat (first | with_reducible exact Below.refl _ _ | with_reducible assumption | with_reducible refine Below.setCell ?_ (by first | omega | (simp; done) | (simp <;> omega)) _ | with_reducible refine below_drewN ?_ _ | with_reducible refine Below.drew ?_ | with_reducible refine Below.alloc ?_ (by first | omega | (simp; done) | (simp <;> omega)) _))⟩
    · go_enter Tryz.func93, Tryz.ntmps93
      go_wp2
      go_quiet ((go_at_call 142; exact Calls.quiet_of_same ((Hpw.out _).mono (fun _ _ h => ⟨h.1, h.2.symm⟩))))
      go_wp2
      go_quiet ((go_at_call 142; exact qadd (Hpw.out _)))
      go_wp2_with (go_at_call 142; refine (Hpw.out _).mono ?_; rintro r w1 ⟨rfl, rfl⟩)
      exact bodyPost_ret (v := .agg #[.bool (true), .int .i64 (c / P), .int .i64 x]) (by simp [results, Tryz.results93, go_sem, *]) rfl ⟨by rw [HF.out], (by repeat (first | with_reducible exact Below.refl _ _ | with_reducible assumption | with_reducible refine Below.setCell ?_ (by first | omega | (simp; done) | (simp <;> omega)) _ | with_reducible refine below_drewN ?_ _ | with_reducible refine Below.drew ?_ | with_reducible refine Below.alloc ?_ (by first | omega | (simp; done) | (simp <;> omega)) _))⟩
    · go_enter Tryz.func93, Tryz.ntmps93
      go_wp2
      go_quiet ((go_at_call 142; exact Calls.quiet_of_same ((Hpw.out _).mono (fun _ _ h => ⟨h.1, h.2.symm⟩))))
      go_wp2
      go_quiet ((go_at_call 142; exact qadd (Hpw.out _)))
      go_wp2_with (go_at_call 142; refine (Hpw.out _).mono ?_; rintro r w1 ⟨rfl, rfl⟩)
      exact bodyPost_ret (v := .agg #[.bool (false), .int .i64 (c / P), .int .i64 x]) (by simp [results, Tryz.results93, go_sem, *]) rfl ⟨by rw [HF.out], (by repeat (first | with_reducible exact Below.refl _ _ | with_reducible assumption | with_reducible refine Below.setCell ?_ (by first | omega | (simp; done) | (simp <;> omega)) _ | with_reducible refine below_drewN ?_ _ | with_reducible refine Below.drew ?_ | with_reducible refine Below.alloc ?_ (by first | omega | (simp; done) | (simp <;> omega)) _))⟩
    · go_enter Tryz.func93, Tryz.ntmps93
      go_wp2
      go_quiet ((go_at_call 142; exact Calls.quiet_of_same ((Hpw.out _).mono (fun _ _ h => ⟨h.1, h.2.symm⟩))))
      go_wp2
      go_quiet ((go_at_call 142; exact qadd (Hpw.out _)))
      go_wp2_with (go_at_call 142; refine (Hpw.out _).mono ?_; rintro r w1 ⟨rfl, rfl⟩)
      exact bodyPost_ret (v := .agg #[.bool (false), .int .i64 (c / P), .int .i64 x]) (by simp [results, Tryz.results93, go_sem, *]) rfl ⟨by rw [HF.out], (by repeat (first | with_reducible exact Below.refl _ _ | with_reducible assumption | with_reducible refine Below.setCell ?_ (by first | omega | (simp; done) | (simp <;> omega)) _ | with_reducible refine below_drewN ?_ _ | with_reducible refine Below.drew ?_ | with_reducible refine Below.alloc ?_ (by first | omega | (simp; done) | (simp <;> omega)) _))⟩
end Go.Proofs.YtamlnbciejnbdaaGreatDoor
