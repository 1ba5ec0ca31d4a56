import Derived.Test.YtamlnbciejnbdaaGreatDoorPl1
/- More plain mathematics of decimals: bounds for the model's own way. No Go here. -/
namespace Fd
theorem normal2_bd {d : D} (h0 : 0 ≤ d.c) (he : -24 ≤ d.e) : 0 ≤ (normal2 d).c ∧ (normal2 d).c ≤ d.c ∧ -24 ≤ (normal2 d).e := by
  unfold normal2
  by_cases hz : d.c = 0
  · rw [if_pos hz]; simp [D.z, hz]
  · rw [if_neg hz]
    obtain ⟨a1, a2, a3, a4, a5⟩ := strip2_ok d.c d.e (by omega) he
    exact ⟨by simp only; omega, a3, by simp only; omega⟩
/-- each zero that is struck divides by ten: no more than 20 are -/
theorem strip2_e (c e : Int) (h0 : 0 < c) : (strip2 c e).2 ≤ e + dc c := by
  induction c, e using strip2.induct with
  | case1 c e h ih =>
    obtain ⟨h1, h3⟩ := h
    rw [strip2_yes h1 h3, dc_pos h1]
    have := ih (by omega); omega
  | case2 c e h =>
    rw [strip2_no (by omega)]
    have := dc_nonneg c; simp only; omega
theorem dc_le19 {n : Int} (h : n ≤ 2000000000000000000) : dc n ≤ 19 := by
  by_cases h0 : 0 < n
  · have b := dc_ge h0
    apply Int.not_lt.1; intro hlt
    have := p10_mono (j := 19) (k := dc n - 1) (by omega) (by omega)
    have : p10 19 = 10000000000000000000 := rfl
    omega
  · rw [dc_zero (by omega)]; omega
theorem normal2_e {d : D} (h1 : d.c ≤ 2000000000000000000) (he' : -24 ≤ d.e) (he : d.e ≤ 24) : (normal2 d).e ≤ 43 := by
  unfold normal2
  by_cases hz : d.c ≤ 0
  · by_cases hz0 : d.c = 0
    · rw [if_pos hz0]; simp [D.z]
    · rw [if_neg hz0]; simp only; rw [strip2]; rw [if_neg (by omega)]; simp only; omega
  · rw [if_neg (by omega)]
    have := strip2_e d.c d.e (by omega)
    have := dc_le19 h1
    simp only; omega
/-- at an exponent above 12 what is normal is small -/
theorem normal2_amt {d : D} (h : vldP d) (h12 : 12 ≤ (normal2 d).e) : (normal2 d).c * p10 ((normal2 d).e - 12) ≤ 999999999 := by
  obtain ⟨h1, h2, h3, h4, h5⟩ := h
  by_cases hz : d.c = 0
  · unfold normal2 at h12; rw [if_pos hz] at h12; simp [D.z] at h12
  obtain ⟨a1, a2, a3, a4, a5⟩ := strip2_ok d.c d.e (by omega) (by omega)
  have e : normal2 d = ⟨d.n, (strip2 d.c d.e).1, (strip2 d.c d.e).2⟩ := by unfold normal2; rw [if_neg hz]
  rw [e] at h12 ⊢
  simp only at h12 ⊢
  generalize strip2 d.c d.e = s at *
  have h6 := U_down (c := d.c) (e := d.e) (c' := s.1) (e' := s.2) (by omega) a4 a1.symm
  have h7 := p10_mono (j := s.2 - 12) (k := s.2 - d.e) (by omega) (by omega)
  have : s.1 * p10 (s.2 - 12) ≤ s.1 * p10 (s.2 - d.e) := Int.mul_le_mul_of_nonneg_left h7 (by omega)
  omega
end Fd
