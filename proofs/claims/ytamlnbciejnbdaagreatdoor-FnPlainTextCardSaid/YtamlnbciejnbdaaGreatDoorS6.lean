import Derived.Test.YtamlnbciejnbdaaGreatDoorS5
namespace Go.Proofs.YtamlnbciejnbdaaGreatDoor
open Go.RowKit
/-- what a rounding leaves is small -/
theorem rS_bd {n : Bool} {c e x : Int} (h0 : 0 ≤ c) (h1 : c ≤ 999999999) (h2 : -12 ≤ e) (h3 : e ≤ 12) (h4 : -24 ≤ x) (h5 : x ≤ 24) :
    0 ≤ (Fd.roundedS ⟨n, c, e⟩ x).c ∧ (Fd.roundedS ⟨n, c, e⟩ x).c ≤ 999999999 ∧ -24 ≤ (Fd.roundedS ⟨n, c, e⟩ x).e ∧ (Fd.roundedS ⟨n, c, e⟩ x).e ≤ 24 := by
  unfold Fd.roundedS
  split
  · exact ⟨h0, h1, by simp only; omega, by simp only; omega⟩
  · split
    · simp [Fd.D.z]
    · rename_i hk _
      have := Fd.rq_bd (c := c) (k := x - e) h0 (by simp only at hk; omega)
      exact ⟨by simp only; omega, by simp only; omega, h4, h5⟩

set_option maxHeartbeats 4000000 in
theorem roundedToS_any (n : Bool) (c e g : Int) (w : World) (b1 : 0 ≤ c) (b2 : c ≤ 999999999) (b3 : -12 ≤ e) (b4 : e ≤ 12) (g1 : 1 ≤ g) (g2 : g ≤ 9) :
    Calls Tryz.prog 109 #[.agg #[.bool n, .int .i64 c, .int .i64 e], .int .i64 g] w fun r w' =>
      r = .returned (.agg #[.bool (Fd.normal2 (Fd.roundedS ⟨n, c, e⟩ (Fd.size ⟨n, c, e⟩ - g))).n, .int .i64 (Fd.normal2 (Fd.roundedS ⟨n, c, e⟩ (Fd.size ⟨n, c, e⟩ - g))).c, .int .i64 (Fd.normal2 (Fd.roundedS ⟨n, c, e⟩ (Fd.size ⟨n, c, e⟩ - g))).e]) ∧ Below w.heap.size w w' := by
  have hsz : -12 ≤ Fd.size ⟨n, c, e⟩ ∧ Fd.size ⟨n, c, e⟩ ≤ 21 := by
    have := Fd.dc_nonneg c; have := Fd.dc_le9 b2; unfold Fd.size; simp only; omega
  obtain ⟨s1, s2⟩ := hsz
  obtain ⟨r1, r2, r3, r4⟩ := rS_bd (n := n) b1 b2 b3 b4 (show -24 ≤ Fd.size ⟨n, c, e⟩ - g by omega) (by omega)
  have hw : IntKind.i64.wrap (Fd.size ⟨n, c, e⟩ - g) = Fd.size ⟨n, c, e⟩ - g := IntWalk.i64_in _ (by omega)
  go_enter Tryz.func109, Tryz.ntmps109
  go_wp2
  go_region_with (first | (go_at_call 110; refine (sizeS_any _ _ _ _ b2 (by omega) (by omega)).mono ?_; rintro r w1 ⟨rfl, hb⟩; obtain ⟨hc, hf⟩ := bcell hb; have hB : Below w.heap.size w w1 := (by refine Below.trans ?_ (hb.mono (by first | omega | (simp; done) | (simp <;> omega))); repeat (first | with_reducible exact Below.refl _ _ | with_reducible assumption | with_reducible refine Below.setCell ?_ (by first | omega | (simp; done) | (simp <;> omega)) _ | with_reducible refine below_drewN ?_ _ | with_reducible refine Below.drew ?_ | with_reducible refine Below.alloc ?_ (by first | omega | (simp; done) | (simp <;> omega)) _)); have hz := hb.size; (try simp at hz); (try have hz0 : w.heap.size < w1.heap.size := by omega); (try have hz1 : w.heap.size + 1 < w1.heap.size := by omega); (try have hz2 : w.heap.size + 1 + 1 < w1.heap.size := by omega)) | (go_at_call 93; refine (roundedS_any _ _ _ _ _ b1 b2 (by omega) (by omega) (by omega) (by omega)).mono ?_; rintro r w1 ⟨rfl, hb⟩; obtain ⟨hc, hf⟩ := bcell hb; have hB : Below w.heap.size w w1 := (by refine Below.trans ?_ (hb.mono (by first | omega | (simp; done) | (simp <;> omega))); repeat (first | with_reducible exact Below.refl _ _ | with_reducible assumption | with_reducible refine Below.setCell ?_ (by first | omega | (simp; done) | (simp <;> omega)) _ | with_reducible refine below_drewN ?_ _ | with_reducible refine Below.drew ?_ | with_reducible refine Below.alloc ?_ (by first | omega | (simp; done) | (simp <;> omega)) _)); have hz := hb.size; (try simp at hz); (try have hz0 : w.heap.size < w1.heap.size := by omega); (try have hz1 : w.heap.size + 1 < w1.heap.size := by omega); (try have hz2 : w.heap.size + 1 + 1 < w1.heap.size := by omega)) | (go_at_call 113; refine (normalS_any _ _ _ _ r1 (by omega) r3 r4).mono ?_; rintro r w1 ⟨rfl, hb⟩; obtain ⟨hc, hf⟩ := bcell hb; have hB : Below w.heap.size w w1 := (by refine Below.trans ?_ (hb.mono (by first | omega | (simp; done) | (simp <;> omega))); repeat (first | with_reducible exact Below.refl _ _ | with_reducible assumption | with_reducible refine Below.setCell ?_ (by first | omega | (simp; done) | (simp <;> omega)) _ | with_reducible refine below_drewN ?_ _ | with_reducible refine Below.drew ?_ | with_reducible refine Below.alloc ?_ (by first | omega | (simp; done) | (simp <;> omega)) _)); have hz := hb.size; (try simp at hz); (try have hz0 : w.heap.size < w1.heap.size := by omega); (try have hz1 : w.heap.size + 1 < w1.heap.size := by omega); (try have hz2 : w.heap.size + 1 + 1 < w1.heap.size := by omega)))
  all_goals go_wp2
  all_goals exact bodyPost_ret (v := .agg #[.bool (Fd.normal2 (Fd.roundedS ⟨n, c, e⟩ (Fd.size ⟨n, c, e⟩ - g))).n, .int .i64 (Fd.normal2 (Fd.roundedS ⟨n, c, e⟩ (Fd.size ⟨n, c, e⟩ - g))).c, .int .i64 (Fd.normal2 (Fd.roundedS ⟨n, c, e⟩ (Fd.size ⟨n, c, e⟩ - g))).e]) (by simp [results, Tryz.results109, go_sem, *]) rfl ⟨rfl, (by repeat (first | with_reducible exact Below.refl _ _ | with_reducible assumption | with_reducible refine Below.setCell ?_ (by first | omega | (simp; done) | (simp <;> omega)) _ | with_reducible refine below_drewN ?_ _ | with_reducible refine Below.drew ?_ | with_reducible refine Below.alloc ?_ (by first | omega | (simp; done) | (simp <;> omega)) _))⟩

end Go.Proofs.YtamlnbciejnbdaaGreatDoor
