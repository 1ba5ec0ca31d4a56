import Derived.Test.YtamlnbciejnbdaaGreatDoorS2
namespace Go.Proofs.YtamlnbciejnbdaaGreatDoor
open Go.RowKit
theorem nbd {n : Bool} {c e : Int} (h0 : 0 ≤ c) (h1 : c ≤ 999999999) (h2 : -24 ≤ e) (h3 : e ≤ 24) :
    0 ≤ (Fd.normal2 ⟨n, c, e⟩).c ∧ (Fd.normal2 ⟨n, c, e⟩).c ≤ 2000000000000000000 ∧ -24 ≤ (Fd.normal2 ⟨n, c, e⟩).e ∧ (Fd.normal2 ⟨n, c, e⟩).e ≤ 43 ∧ (12 < (Fd.normal2 ⟨n, c, e⟩).e → (Fd.normal2 ⟨n, c, e⟩).c ≤ 2000000000) := by
  obtain ⟨a, b, d⟩ := Fd.normal2_bd (d := ⟨n, c, e⟩) h0 h2
  have := Fd.normal2_e (d := ⟨n, c, e⟩) (by simp only; omega) h2 h3
  simp only at b
  exact ⟨a, by omega, d, this, by intro; omega⟩

set_option maxHeartbeats 400000 in
theorem PlacesOfS_any (n : Bool) (c e : Int) (w : World) :
    Calls Tryz.prog 68 #[.agg #[.bool n, .int .i64 c, .int .i64 e]] w fun r w' => r = .returned (.int .i64 (Fd.placesS ⟨n, c, e⟩)) ∧ Below w.heap.size w w' := by
  cases hv : Fd.vld ⟨n, c, e⟩
  · have HF : Hid (Fd.placesS ⟨n, c, e⟩ = -1) := Lib.hid (by unfold Fd.placesS; rw [hv]; rfl)
    go_enter Tryz.func68, Tryz.ntmps68
    go_wp2_with (go_at_call 45; refine (validS_any _ _ _ _).mono ?_; rintro r w1 ⟨rfl, hb⟩; obtain ⟨hc, hf⟩ := bcell hb; have hB : Below w.heap.size w w1 := (by refine Below.trans ?_ (hb.mono (by first | omega | (simp; done) | (simp <;> omega))); repeat (first | with_reducible exact Below.refl _ _ | with_reducible assumption | with_reducible refine Below.setCell ?_ (by first | omega | (simp; done) | (simp <;> omega)) _ | with_reducible refine below_drewN ?_ _ | with_reducible refine Below.drew ?_ | with_reducible refine Below.alloc ?_ (by first | omega | (simp; done) | (simp <;> omega)) _)); have hz := hb.size; (try simp at hz); (try have hz0 : w.heap.size < w1.heap.size := by omega); (try have hz1 : w.heap.size + 1 < w1.heap.size := by omega); (try have hz2 : w.heap.size + 1 + 1 < w1.heap.size := by omega))
    go_ret
    exact ⟨ret_int (by rw [HF.out]), (by repeat (first | with_reducible exact Below.refl _ _ | with_reducible assumption | with_reducible refine Below.setCell ?_ (by first | omega | (simp; done) | (simp <;> omega)) _ | with_reducible refine below_drewN ?_ _ | with_reducible refine Below.drew ?_ | with_reducible refine Below.alloc ?_ (by first | omega | (simp; done) | (simp <;> omega)) _))⟩
  · have HF : Hid (Fd.placesS ⟨n, c, e⟩ = max 0 (0 - (Fd.normal2 ⟨n, c, e⟩).e)) := Lib.hid (by unfold Fd.placesS; rw [hv]; rfl)
    obtain ⟨b1, b2, b3, b4⟩ := bounds_of hv
    obtain ⟨d1, d2, d3, d4, d5⟩ := nbd (n := n) b1 b2 (show -24 ≤ e by omega) (by omega)
    have hfl := fld2
    clear d5
    go_enter Tryz.func68, Tryz.ntmps68
    go_wp2_with (first | (go_at_call 45; refine (validS_any _ _ _ _).mono ?_; rintro r w1 ⟨rfl, hb⟩; obtain ⟨hc, hf⟩ := bcell hb; have hB : Below w.heap.size w w1 := (by refine Below.trans ?_ (hb.mono (by first | omega | (simp; done) | (simp <;> omega))); repeat (first | with_reducible exact Below.refl _ _ | with_reducible assumption | with_reducible refine Below.setCell ?_ (by first | omega | (simp; done) | (simp <;> omega)) _ | with_reducible refine below_drewN ?_ _ | with_reducible refine Below.drew ?_ | with_reducible refine Below.alloc ?_ (by first | omega | (simp; done) | (simp <;> omega)) _)); have hz := hb.size; (try simp at hz); (try have hz0 : w.heap.size < w1.heap.size := by omega); (try have hz1 : w.heap.size + 1 < w1.heap.size := by omega); (try have hz2 : w.heap.size + 1 + 1 < w1.heap.size := by omega)) | (go_at_call 113; refine (normalS_any _ _ _ _ b1 (by omega) (by omega) (by omega)).mono ?_; rintro r w1 ⟨rfl, hb⟩; obtain ⟨hc, hf⟩ := bcell hb; have hB : Below w.heap.size w w1 := (by refine Below.trans ?_ (hb.mono (by first | omega | (simp; done) | (simp <;> omega))); repeat (first | with_reducible exact Below.refl _ _ | with_reducible assumption | with_reducible refine Below.setCell ?_ (by first | omega | (simp; done) | (simp <;> omega)) _ | with_reducible refine below_drewN ?_ _ | with_reducible refine Below.drew ?_ | with_reducible refine Below.alloc ?_ (by first | omega | (simp; done) | (simp <;> omega)) _)); have hz := hb.size; (try simp at hz); (try have hz0 : w.heap.size < w1.heap.size := by omega); (try have hz1 : w.heap.size + 1 < w1.heap.size := by omega); (try have hz2 : w.heap.size + 1 + 1 < w1.heap.size := by omega)))
    all_goals go_ret
    all_goals exact ⟨ret_int (by rw [HF.out]; omega), (by repeat (first | with_reducible exact Below.refl _ _ | with_reducible assumption | with_reducible refine Below.setCell ?_ (by first | omega | (simp; done) | (simp <;> omega)) _ | with_reducible refine below_drewN ?_ _ | with_reducible refine Below.drew ?_ | with_reducible refine Below.alloc ?_ (by first | omega | (simp; done) | (simp <;> omega)) _))⟩

end Go.Proofs.YtamlnbciejnbdaaGreatDoor
