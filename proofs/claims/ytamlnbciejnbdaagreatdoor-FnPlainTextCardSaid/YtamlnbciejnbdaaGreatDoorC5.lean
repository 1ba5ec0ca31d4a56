import Derived.Test.YtamlnbciejnbdaaGreatDoorC4
namespace Go.Proofs.YtamlnbciejnbdaaGreatDoor
open Go.RowKit

set_option maxHeartbeats 1000000 in
theorem dropped_any (n : Bool) (c e k : Int) (w : World) (h0 : 0 ≤ c) (h1 : c ≤ 999999999) (h2 : -24 ≤ e) (h3 : e ≤ 24) (h4 : k ≤ 100) :
    Calls Tryz.prog 57 #[.agg #[.bool n, .int .i64 c, .int .i64 e], .int .i64 k] w fun r w' =>
      r = .returned (.agg #[.bool (Fd.dropI ⟨n, c, e⟩ k).n, .int .i64 (Fd.dropI ⟨n, c, e⟩ k).c, .int .i64 (Fd.dropI ⟨n, c, e⟩ k).e]) ∧ Below w.heap.size w w' := by
  by_cases hk : k ≤ 0
  · have HF : Hid (Fd.dropI ⟨n, c, e⟩ k = ⟨n, c, e⟩) := Lib.hid (by unfold Fd.dropI; rw [if_pos hk])
    go_enter Tryz.func57, Tryz.ntmps57
    go_wp2
    exact bodyPost_ret (v := .agg #[.bool n, .int .i64 c, .int .i64 e]) (by simp [results, Tryz.results57, go_sem]) rfl ⟨by rw [HF.out], ((Below.refl _ _).alloc (Nat.le_refl _) _).alloc (by simp) _⟩
  by_cases hk9 : 9 < k
  · have HF : Hid (Fd.dropI ⟨n, c, e⟩ k = Fd.D.z) := Lib.hid (by unfold Fd.dropI; rw [if_neg hk, if_pos hk9])
    go_enter Tryz.func57, Tryz.ntmps57
    go_wp2
    exact bodyPost_ret (v := .agg #[.bool false, .int .i64 0, .int .i64 0]) (by simp [results, Tryz.results57, go_sem]) rfl ⟨by rw [HF.out]; rfl, ((Below.refl _ _).alloc (Nat.le_refl _) _).alloc (by simp) _⟩
  have hix := fun W => index_pow k (by omega) (by omega) W
  have hP1 := Fd.p10_pos k
  have hP2 := Fd.p10_le9 (k := k) (by omega) (by omega)
  have hqb := Fd.rq_bd (k := k) h0 (by omega)
  have hF : Fd.dropI ⟨n, c, e⟩ k = ⟨n, Fd.rq c k, e + k⟩ := by unfold Fd.dropI; rw [if_neg hk, if_neg hk9]
  unfold Fd.rq at hF hqb
  generalize Fd.p10 k = P at *
  have hq0 : 0 ≤ c / P := Int.ediv_nonneg h0 (by omega)
  have hr0 : 0 ≤ c % P := Int.emod_nonneg c (by omega)
  have hr1 : c % P < P := Int.emod_lt_of_pos c hP1
  have hq9 : c / P ≤ 999999999 := by
    have := Int.ediv_le_self P h0; omega
  have hcase : (∃ x : Int, Hid (Fd.dropI ⟨n, c, e⟩ k = ⟨n, x, e + k⟩) ∧ Hid (x = c / P + 1) ∧ (P < 2 * (c % P) ∨ ((2 * (c % P) == P) = true ∧ ¬ P < 2 * (c % P) ∧ (c / P % 2 == 1) = true))) ∨
      (Hid (Fd.dropI ⟨n, c, e⟩ k = ⟨n, c / P, e + k⟩) ∧ ¬ P < 2 * (c % P) ∧ (((2 * (c % P) == P) = true ∧ (c / P % 2 == 1) = false) ∨ (2 * (c % P) == P) = false)) := by
    by_cases up : 2 * (c % P) > P ∨ 2 * (c % P) = P ∧ c / P % 2 = 1
    · left
      rw [if_pos up] at hF
      refine ⟨_, Lib.hid hF, Lib.hid rfl, ?_⟩
      rcases up with g | ⟨g, g'⟩
      · left; omega
      · right; exact ⟨by simpa using g, by omega, by simpa using g'⟩
    · right
      rw [if_neg up] at hF
      refine ⟨Lib.hid hF, by omega, ?_⟩
      by_cases g : 2 * (c % P) = P
      · left; exact ⟨by simpa using g, by simp; omega⟩
      · right; simpa using g
  clear hF hqb
  rcases hcase with ⟨x, HF, HX, g | ⟨g, g', g''⟩⟩ | ⟨HF, g', ⟨g, g''⟩ | g⟩
  · go_enter Tryz.func57, Tryz.ntmps57
    go_wp2_with (go_at_call 106; refine (powers_any _).mono ?_; rintro r w1 ⟨rfl, hb⟩; obtain ⟨hc, hf⟩ := bcell hb; have hB : Below w.heap.size w w1 := (by refine Below.trans ?_ (hb.mono (by first | omega | (simp; done) | (simp <;> omega))); repeat (first | with_reducible exact Below.refl _ _ | with_reducible assumption | with_reducible refine Below.setCell ?_ (by first | omega | (simp; done) | (simp <;> omega)) _ | with_reducible refine below_drewN ?_ _ | with_reducible refine Below.drew ?_ | with_reducible refine Below.alloc ?_ (by first | omega | (simp; done) | (simp <;> omega)) _)); have hz := hb.size; (try simp at hz); (try have hz0 : w.heap.size < w1.heap.size := by omega); (try have hz1 : w.heap.size + 1 < w1.heap.size := by omega); (try have hz2 : w.heap.size + 1 + 1 < w1.heap.size := by omega))
    go_quiet (fail)
    go_wp2
    exact bodyPost_ret (v := .agg #[.bool n, .int .i64 (c / P + 1), .int .i64 (e + k)]) (by simp [results, Tryz.results57, go_sem, hc]) rfl ⟨by rw [HF.out, HX.out], (by repeat (first | with_reducible exact Below.refl _ _ | with_reducible assumption | with_reducible refine Below.setCell ?_ (by first | omega | (simp; done) | (simp <;> omega)) _ | with_reducible refine below_drewN ?_ _ | with_reducible refine Below.drew ?_ | with_reducible refine Below.alloc ?_ (by first | omega | (simp; done) | (simp <;> omega)) _))⟩
  · go_enter Tryz.func57, Tryz.ntmps57
    go_wp2_with (go_at_call 106; refine (powers_any _).mono ?_; rintro r w1 ⟨rfl, hb⟩; obtain ⟨hc, hf⟩ := bcell hb; have hB : Below w.heap.size w w1 := (by refine Below.trans ?_ (hb.mono (by first | omega | (simp; done) | (simp <;> omega))); repeat (first | with_reducible exact Below.refl _ _ | with_reducible assumption | with_reducible refine Below.setCell ?_ (by first | omega | (simp; done) | (simp <;> omega)) _ | with_reducible refine below_drewN ?_ _ | with_reducible refine Below.drew ?_ | with_reducible refine Below.alloc ?_ (by first | omega | (simp; done) | (simp <;> omega)) _)); have hz := hb.size; (try simp at hz); (try have hz0 : w.heap.size < w1.heap.size := by omega); (try have hz1 : w.heap.size + 1 < w1.heap.size := by omega); (try have hz2 : w.heap.size + 1 + 1 < w1.heap.size := by omega))
    go_quiet (fail)
    go_wp2
    exact bodyPost_ret (v := .agg #[.bool n, .int .i64 (c / P + 1), .int .i64 (e + k)]) (by simp [results, Tryz.results57, go_sem, hc]) rfl ⟨by rw [HF.out, HX.out], (by repeat (first | with_reducible exact Below.refl _ _ | with_reducible assumption | with_reducible refine Below.setCell ?_ (by first | omega | (simp; done) | (simp <;> omega)) _ | with_reducible refine below_drewN ?_ _ | with_reducible refine Below.drew ?_ | with_reducible refine Below.alloc ?_ (by first | omega | (simp; done) | (simp <;> omega)) _))⟩
  · go_enter Tryz.func57, Tryz.ntmps57
    go_wp2_with (go_at_call 106; refine (powers_any _).mono ?_; rintro r w1 ⟨rfl, hb⟩; obtain ⟨hc, hf⟩ := bcell hb; have hB : Below w.heap.size w w1 := (by refine Below.trans ?_ (hb.mono (by first | omega | (simp; done) | (simp <;> omega))); repeat (first | with_reducible exact Below.refl _ _ | with_reducible assumption | with_reducible refine Below.setCell ?_ (by first | omega | (simp; done) | (simp <;> omega)) _ | with_reducible refine below_drewN ?_ _ | with_reducible refine Below.drew ?_ | with_reducible refine Below.alloc ?_ (by first | omega | (simp; done) | (simp <;> omega)) _)); have hz := hb.size; (try simp at hz); (try have hz0 : w.heap.size < w1.heap.size := by omega); (try have hz1 : w.heap.size + 1 < w1.heap.size := by omega); (try have hz2 : w.heap.size + 1 + 1 < w1.heap.size := by omega))
    go_quiet (fail)
    go_wp2
    exact bodyPost_ret (v := .agg #[.bool n, .int .i64 (c / P), .int .i64 (e + k)]) (by simp [results, Tryz.results57, go_sem, hc]) rfl ⟨by rw [HF.out], (by repeat (first | with_reducible exact Below.refl _ _ | with_reducible assumption | with_reducible refine Below.setCell ?_ (by first | omega | (simp; done) | (simp <;> omega)) _ | with_reducible refine below_drewN ?_ _ | with_reducible refine Below.drew ?_ | with_reducible refine Below.alloc ?_ (by first | omega | (simp; done) | (simp <;> omega)) _))⟩
  · go_enter Tryz.func57, Tryz.ntmps57
    go_wp2_with (go_at_call 106; refine (powers_any _).mono ?_; rintro r w1 ⟨rfl, hb⟩; obtain ⟨hc, hf⟩ := bcell hb; have hB : Below w.heap.size w w1 := (by refine Below.trans ?_ (hb.mono (by first | omega | (simp; done) | (simp <;> omega))); repeat (first | with_reducible exact Below.refl _ _ | with_reducible assumption | with_reducible refine Below.setCell ?_ (by first | omega | (simp; done) | (simp <;> omega)) _ | with_reducible refine below_drewN ?_ _ | with_reducible refine Below.drew ?_ | with_reducible refine Below.alloc ?_ (by first | omega | (simp; done) | (simp <;> omega)) _)); have hz := hb.size; (try simp at hz); (try have hz0 : w.heap.size < w1.heap.size := by omega); (try have hz1 : w.heap.size + 1 < w1.heap.size := by omega); (try have hz2 : w.heap.size + 1 + 1 < w1.heap.size := by omega))
    go_quiet (fail)
    go_wp2
    exact bodyPost_ret (v := .agg #[.bool n, .int .i64 (c / P), .int .i64 (e + k)]) (by simp [results, Tryz.results57, go_sem, hc]) rfl ⟨by rw [HF.out], (by repeat (first | with_reducible exact Below.refl _ _ | with_reducible assumption | with_reducible refine Below.setCell ?_ (by first | omega | (simp; done) | (simp <;> omega)) _ | with_reducible refine below_drewN ?_ _ | with_reducible refine Below.drew ?_ | with_reducible refine Below.alloc ?_ (by first | omega | (simp; done) | (simp <;> omega)) _))⟩
end Go.Proofs.YtamlnbciejnbdaaGreatDoor
