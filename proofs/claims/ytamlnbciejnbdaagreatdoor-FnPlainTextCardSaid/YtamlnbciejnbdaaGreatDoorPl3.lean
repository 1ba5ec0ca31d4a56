import Derived.Test.YtamlnbciejnbdaaGreatDoorPl2
/- Plain mathematics of the promises of chapter 1: rounding by the value, and what each promise says of it. No Go here. -/
namespace Fd

/-- the nearest whole number of m in u, to even -/
def rhe (u m : Int) : Int := if 2 * (u % m) > m ∨ 2 * (u % m) = m ∧ u / m % 2 = 1 then u / m + 1 else u / m
theorem rq_rhe (c k : Int) : rq c k = rhe c (p10 k) := rfl
theorem rhe_mul {u m t : Int} (ht : 0 < t) : rhe (u * t) (m * t) = rhe u m := by
  unfold rhe
  rw [show u * t % (m * t) = u % m * t from by rw [Int.mul_comm u t, Int.mul_comm m t, Int.mul_emod_mul_of_pos _ _ ht, Int.mul_comm], Int.mul_ediv_mul_of_pos_left _ _ ht]
  have e1 : (2 * (u % m * t) > m * t) ↔ (2 * (u % m) > m) := by
    rw [← Int.mul_assoc]; exact ⟨fun h => Int.lt_of_mul_lt_mul_right h (Int.le_of_lt ht), fun h => Int.mul_lt_mul_of_pos_right h ht⟩
  have e2 : (2 * (u % m * t) = m * t) ↔ (2 * (u % m) = m) := by
    rw [← Int.mul_assoc]; exact ⟨fun h => Int.eq_of_mul_eq_mul_right (by omega) h, fun h => by rw [h]⟩
  simp only [e1, e2]
theorem rhe_dvd {x m : Int} (hm : 0 < m) : rhe (x * m) m = x := by
  unfold rhe
  rw [Int.mul_emod_left, Int.mul_ediv_cancel _ (by omega), if_neg (by omega)]
theorem rhe_near {u m : Int} (hm : 0 < m) : -m ≤ 2 * (u - rhe u m * m) ∧ 2 * (u - rhe u m * m) ≤ m := by
  have h1 := Int.emod_nonneg u (show m ≠ 0 from by omega)
  have h2 := Int.emod_lt_of_pos u hm
  have h3 := Int.mul_ediv_add_emod u m
  rw [Int.mul_comm] at h3
  unfold rhe
  split
  · rw [Int.add_mul, Int.one_mul]; omega
  · omega
theorem rhe_small {u m : Int} (h0 : 0 ≤ u) (h : 2 * u < m) : rhe u m = 0 := by
  unfold rhe
  rw [Int.emod_eq_of_lt h0 (by omega), Int.ediv_eq_zero_of_lt h0 (by omega), if_neg (by omega)]
theorem rhe_nonneg {u m : Int} (h0 : 0 ≤ u) (hm : 0 < m) : 0 ≤ rhe u m := by
  have := Int.ediv_nonneg h0 (Int.le_of_lt hm)
  unfold rhe; split <;> omega
theorem rhe_le {u m t : Int} (hm : 0 < m) (h : u < t * m) : rhe u m ≤ t := by
  have := Int.ediv_lt_of_lt_mul hm h
  unfold rhe; split <;> omega
theorem rhe_ge {u m t : Int} (hm : 0 < m) (h : t * m ≤ u) : t ≤ rhe u m := by
  have := Int.le_ediv_of_mul_le hm h
  unfold rhe; split <;> omega

/-- the signed amount -/
def sV (n : Bool) (u : Int) : Int := if n then - u else u
theorem V_sV (d : D) : V d = sV d.n (U d.c d.e) := rfl
theorem sV_zero (n : Bool) : sV n 0 = 0 := by unfold sV; split <;> rfl

/-- a multiple of a power stays one at a smaller power -/
theorem U_mult {c e x : Int} (hx : 0 ≤ x + 24) (h : x ≤ e) : U c e = c * p10 (e - x) * p10 (x + 24) := by
  unfold U
  rw [Int.mul_assoc, ← p10_add (by omega) hx]; congr 2; omega

/-- what is dropped to the exponent x: the nearest multiple of its power -/
theorem drop_V {d : D} {x : Int} (h : vldP d) (hx : -24 ≤ x) :
    V (dropI d (x - d.e)) = sV d.n (rhe (U d.c d.e) (p10 (x + 24)) * p10 (x + 24)) := by
  obtain ⟨h1, h2, h3, h4, h5⟩ := h
  unfold dropI
  by_cases hk : x - d.e ≤ 0
  · rw [if_pos hk, V_sV, U_mult (x := x) (by omega) (by omega), rhe_dvd (p10_pos _)]
  rw [if_neg hk]
  by_cases h9 : 9 < x - d.e
  · rw [if_pos h9, V_z, rhe_small (U_nonneg h1), Int.zero_mul, sV_zero]
    unfold U
    have := p10_mono (j := 10) (k := x - d.e) (by omega) (by omega)
    have e : p10 (x + 24) = p10 (x - d.e) * p10 (d.e + 24) := by rw [← p10_add (by omega) (by omega)]; congr 1; omega
    rw [p10_10] at this
    rw [e, ← Int.mul_assoc]
    exact Int.mul_lt_mul_of_pos_right (by omega) (p10_pos _)
  · rw [if_neg h9, V_sV]
    simp only
    rw [show d.e + (x - d.e) = x from by omega]
    have e : p10 (x + 24) = p10 (x - d.e) * p10 (d.e + 24) := by rw [← p10_add (by omega) (by omega)]; congr 1; omega
    have e2 : rhe (U d.c d.e) (p10 (x + 24)) = rq d.c (x - d.e) := by
      rw [e]; unfold U; rw [rhe_mul (p10_pos _), rq_rhe]
    rw [e2]; rfl

theorem drop_bd {d : D} {x : Int} (h : vldP d) (hx : -24 ≤ x) : 0 ≤ (dropI d (x - d.e)).c ∧ -24 ≤ (dropI d (x - d.e)).e := by
  obtain ⟨h1, h2, h3, h4, h5⟩ := h
  unfold dropI
  by_cases hk : x - d.e ≤ 0
  · rw [if_pos hk]; omega
  rw [if_neg hk]
  by_cases h9 : 9 < x - d.e
  · rw [if_pos h9]; simp [D.z]
  · rw [if_neg h9]
    have := rq_bd (c := d.c) (k := x - d.e) h1 (by omega)
    simp only; omega

/-- the result of rounding to an exponent, by its value -/
theorem drop_fits {d : D} {x : Int} (h : vldP d) (hx : -24 ≤ x) :
    Fits (sV d.n (rhe (U d.c d.e) (p10 (x + 24)) * p10 (x + 24))) (fit1 (dropI d (x - d.e))) := by
  rw [← drop_V h hx]
  exact fit1_ok _ (drop_bd h hx).1 (drop_bd h hx).2

theorem fits_self {x : D} (h : nrm x) : Fits (V x) (x, true) := .inl ⟨rfl, h, rfl⟩

theorem roundI_yes {d : D} {p : Int} (h : vldP d) (h1 : -12 ≤ p) (h2 : p ≤ 12) : roundI d p = (fit1 (dropI d (-p - d.e))).1 := by
  unfold roundI; rw [if_neg (by simp [vld_iff.2 h]; omega)]

/-- rounding to places, by the value -/
theorem round_V {d : D} {p : Int} (h : vldP d) (h1 : -12 ≤ p) (h2 : p ≤ 12) :
    nrm (roundI d p) ∧ V (roundI d p) = sV d.n (rhe (U d.c d.e) (p10 (-p + 24)) * p10 (-p + 24)) := by
  rw [roundI_yes h h1 h2]
  have hf := drop_fits (x := -p) h (by omega)
  rcases hf with ⟨a, b, c⟩ | ⟨a, b, c⟩
  · exact ⟨b, c⟩
  · exfalso
    have hd := drop_V (x := -p) h (by omega)
    obtain ⟨v1, v2, v3, v4, v5⟩ := h
    by_cases hk : -p - d.e ≤ 0
    · refine c d ⟨v1, v2, v3, v4, v5⟩ ?_
      rw [← hd]; unfold dropI; rw [if_pos hk]
    by_cases h9 : 9 < -p - d.e
    · refine c D.z vld_z ?_
      rw [← hd]; unfold dropI; rw [if_neg hk, if_pos h9]
    · have hb := rq_bd (c := d.c) (k := -p - d.e) v1 (by omega)
      by_cases hz : rq d.c (-p - d.e) = 0
      · refine c D.z vld_z ?_
        rw [← hd]; unfold dropI; rw [if_neg hk, if_neg h9, V_z, V_zero hz]
      · refine c ⟨d.n, rq d.c (-p - d.e), -p⟩ ⟨by simp only; omega, by simp only; omega, by simp only; omega, by simp only; omega, by simp only; intro; omega⟩ ?_
        rw [← hd]; unfold dropI; rw [if_neg hk, if_neg h9]; congr 2; omega

theorem U_of_V {a b : D} (ha : vldP a) (hb : vldP b) (h : V a = V b) : a.n = b.n ∧ U a.c a.e = U b.c b.e :=
  V_sign ha.1 ha.2.2.2.2 hb.1 hb.2.2.2.2 h
theorem round_val {a b : D} {p : Int} (ha : vldP a) (hb : vldP b) (h : V a = V b) (h1 : -12 ≤ p) (h2 : p ≤ 12) : roundI a p = roundI b p := by
  obtain ⟨e1, e2⟩ := U_of_V ha hb h
  have a' := round_V ha h1 h2
  have b' := round_V hb h1 h2
  exact nrm_uniq a'.1 b'.1 (by rw [a'.2, b'.2, e1, e2])
/-- the amount of what is rounded is a multiple -/
theorem round_U {d : D} {p : Int} (h : vldP d) (h1 : -12 ≤ p) (h2 : p ≤ 12) :
    U (roundI d p).c (roundI d p).e = rhe (U d.c d.e) (p10 (-p + 24)) * p10 (-p + 24) := by
  obtain ⟨a, b⟩ := round_V h h1 h2
  have g := U_nonneg (c := (roundI d p).c) (e := (roundI d p).e) a.1.1
  have g0 := Int.mul_nonneg (rhe_nonneg (U_nonneg (e := d.e) h.1) (p10_pos (-p + 24))) (Int.le_of_lt (p10_pos (-p + 24)))
  rw [V_sV] at b
  unfold sV at b
  split at b <;> split at b <;> omega
theorem round_mult {d : D} {p x : Int} (h : vldP d) (h1 : -12 ≤ p) (h2 : p ≤ 12) (hu : U d.c d.e = x * p10 (-p + 24)) : V (roundI d p) = V d := by
  rw [(round_V h h1 h2).2, hu, rhe_dvd (p10_pos _), V_sV, hu]
theorem nd_round {d : D} {p : Int} (h : vldP d) (h1 : -12 ≤ p) (h2 : p ≤ 12) (hp : -p ≤ (nd d).e) : roundI d p = nd d := by
  have hn := nd_ok h
  have e := U_of_V hn.1.1 h hn.2
  refine nrm_uniq (round_V h h1 h2).1 hn.1 ?_
  rw [hn.2]
  exact round_mult (x := (nd d).c * p10 ((nd d).e - -p)) h h1 h2 (by rw [← e.2]; exact U_mult (by omega) hp)
theorem round_e {d : D} {p : Int} (h : vldP d) (h1 : 0 ≤ p) (h2 : p ≤ 12) : -p ≤ (roundI d p).e := by
  have a := (round_V h (by omega) h2).1
  have b := round_U h (by omega) h2
  by_cases hlt : (roundI d p).e < -p
  · have := U_div (c := (roundI d p).c) (e := (roundI d p).e) (c' := rhe (U d.c d.e) (p10 (-p + 24))) (e' := -p) (by have := a.1.2.2.1; omega) hlt (by rw [b]; rfl)
    by_cases hz : (roundI d p).c = 0
    · have := a.2.1 hz; omega
    · have := a.2.2 hz; omega
  · omega
theorem places_nrm {d : D} (h : nrm d) : placesI d = max 0 (- d.e) := by
  unfold placesI; rw [if_pos (vld_iff.2 h.1), nd_nrm h]
theorem placesI_yes {d : D} (h : vldP d) : placesI d = max 0 (- (nd d).e) := by
  unfold placesI; rw [if_pos (vld_iff.2 h)]
theorem places_round {d : D} {p : Int} (h : vldP d) (h1 : 0 ≤ p) (h2 : p ≤ 12) : placesI (roundI d p) ≤ p := by
  rw [places_nrm (round_V h (by omega) h2).1]
  have := round_e h h1 h2; omega

-- the promises
theorem P1_ok {d : D} (h : vldP d) : vldP (nd d) ∧ vldP (neg d) ∧ cmpI d d = 0 :=
  ⟨nd_valid d, (neg_ok h).1, by rw [cmp_ok h h, cmpInt_self]⟩
theorem P2_ok {d : D} (h : vldP d) : cmpI (nd d) d = 0 ∧ nd (nd d) = nd d ∧ ((nd d).c % 10 ≠ 0 ∨ (nd d).c = 0 ∨ (nd d).e = 12) := by
  have hn := nd_ok h
  refine ⟨by rw [cmp_ok hn.1.1 h, hn.2, cmpInt_self], nd_nrm hn.1, ?_⟩
  by_cases hz : (nd d).c = 0
  · exact .inr (.inl hz)
  · rcases hn.1.2.2 hz with h | h
    · exact .inl h
    · exact .inr (.inr h)
theorem nd_eq_iff {a b : D} (ha : vldP a) (hb : vldP b) : nd a = nd b ↔ V a = V b := by
  constructor
  · intro h; rw [← (nd_ok ha).2, ← (nd_ok hb).2, h]
  · intro h; exact nrm_uniq (nd_ok ha).1 (nd_ok hb).1 (by rw [(nd_ok ha).2, (nd_ok hb).2, h])
theorem P3_ok {a b : D} (ha : vldP a) (hb : vldP b) : cmpI b a = 0 - cmpI a b ∧ (cmpI a b = 0 ↔ nd a = nd b) ∧ cmpI (neg b) (neg a) = cmpI a b := by
  have na := neg_ok ha
  have nb := neg_ok hb
  refine ⟨by rw [cmp_ok hb ha, cmp_ok ha hb, cmpInt_anti]; omega, by rw [cmp_ok ha hb, nd_eq_iff ha hb, cmpInt_zero], ?_⟩
  rw [cmp_ok nb.1 na.1, cmp_ok ha hb, na.2.1, nb.2.1, cmpInt_neg]
theorem neg_neg {d : D} (h : vldP d) : neg (neg d) = d := by
  have hn := (neg_ok h).1
  have e : ∀ x, vldP x → neg x = ⟨decide (0 < x.c) && !x.n, x.c, x.e⟩ := fun x hx => by unfold neg; rw [if_pos (vld_iff.2 hx)]
  rw [e _ hn, e _ h]
  obtain ⟨h1, h2, h3, h4, h5⟩ := h
  refine D.eq ?_ rfl rfl
  simp only
  cases hd : d.n
  · simp
  · have := h5 hd; simp [this]
theorem P4_ok {d : D} (h : vldP d) : neg (neg d) = d ∧ addI d (neg d) = (D.z, true) := by
  refine ⟨neg_neg h, ?_⟩
  have := addI_ok h (neg_ok h).1
  rw [(neg_ok h).2.1, show V d + -V d = V D.z from by rw [V_z]; omega] at this
  exact this.uniq (fits_self nrm_z)
theorem add_yes {a b : D} (h : (addI a b).2 = true) : vldP a ∧ vldP b := by
  unfold addI at h
  by_cases ha : vldP a
  · by_cases hb : vldP b
    · exact ⟨ha, hb⟩
    · simp [vld, hb] at h
  · simp [vld, ha] at h
theorem P5_ok {a b : D} (h : (addI a b).2 = true) :
    addI b a = addI a b ∧ ((addI (addI a b).1 (neg b)).2 = true → cmpI (addI (addI a b).1 (neg b)).1 a = 0) ∧
    cmpI (addI a b).1 a = cmpI b D.z ∧ nd (addI a b).1 = (addI a b).1 := by
  obtain ⟨ha, hb⟩ := add_yes h
  have hs := addI_ok ha hb
  have hs' := addI_ok hb ha
  rw [Int.add_comm] at hs'
  have e := hs'.uniq hs
  rcases hs with ⟨_, n1, v1⟩ | ⟨f, _⟩
  · refine ⟨e, ?_, ?_, nd_nrm n1⟩
    · intro hq
      rcases addI_ok n1.1 (neg_ok hb).1 with ⟨_, n2, v2⟩ | ⟨f, _⟩
      · rw [cmp_ok n2.1 ha, v2, v1, (neg_ok hb).2.1, cmpInt_zero]; omega
      · rw [f] at hq; exact absurd hq (by decide)
    · rw [cmp_ok n1.1 ha, v1, cmp_ok hb vld_z, V_z, cmpInt_add]
  · rw [f] at h; exact absurd h (by decide)
theorem shift_yes {d : D} {k : Int} (h : (shiftI d k).2 = true) : vldP d ∧ -12 ≤ k ∧ k ≤ 12 := by
  unfold shiftI at h
  by_cases hg : (!vld d || decide (k < -12) || decide (12 < k)) = true
  · rw [if_pos hg] at h; exact absurd h (by decide)
  · simp at hg; exact ⟨vld_iff.1 hg.1.1, hg.1.2, hg.2⟩
theorem U_mulp {c e k : Int} (he : 0 ≤ e + 24) (hk : 0 ≤ k) : U c (e + k) = U c e * p10 k := by
  unfold U; rw [show e + k + 24 = (e + 24) + k from by omega, p10_add he hk, Int.mul_assoc]
theorem U_shift {c e c' e' k : Int} (h1 : 0 ≤ e' + k + 24) (h2 : 0 ≤ e' + 24) (h3 : 0 ≤ e + 24) (h4 : 0 ≤ e - k + 24) (h : U c e = U c' (e' + k)) : U c (e - k) = U c' e' := by
  by_cases hk : 0 ≤ k
  · have a := U_mulp (c := c) (e := e - k) (k := k) (by omega) hk
    have b := U_mulp (c := c') (e := e') (k := k) (by omega) hk
    rw [show e - k + k = e from by omega] at a
    rw [a, b] at h
    exact Int.eq_of_mul_eq_mul_right (by have := p10_pos k; omega) h
  · have a := U_mulp (c := c) (e := e) (k := -k) (by omega) (by omega)
    have b := U_mulp (c := c') (e := e' + k) (k := -k) (by omega) (by omega)
    rw [show e' + k + -k = e' from by omega] at b
    rw [show e - k = e + -k from by omega, a, b, h]
theorem V_scale {n : Bool} {c e k : Int} : cmpInt (V ⟨n, c, e + k⟩) 0 = cmpInt (V ⟨n, c, e⟩) 0 := by
  have g : ∀ x m : Int, 0 < m → cmpInt (x * m) 0 = cmpInt x 0 := fun x m hm => by
    have := cmpInt_mul (x := x) (y := 0) hm; rw [Int.zero_mul] at this; exact this
  rw [V_sc, V_sc, g _ _ (p10_pos _), g _ _ (p10_pos _)]; rfl
theorem P6_ok {d : D} {k : Int} (h : (shiftI d k).2 = true) :
    ((shiftI (shiftI d k).1 (-k)).2 = true → (shiftI (shiftI d k).1 (-k)).1 = nd d) ∧
    cmpI (shiftI d k).1 D.z = cmpI d D.z ∧ nd (shiftI d k).1 = (shiftI d k).1 := by
  obtain ⟨hd, k1, k2⟩ := shift_yes h
  rcases shift_ok hd k1 k2 with ⟨_, n1, v1⟩ | ⟨f, _⟩
  · generalize (shiftI d k).1 = o at *
    have hde := hd.2.2.1
    have hoe := n1.1.2.2.1
    refine ⟨?_, ?_, nd_nrm n1⟩
    · intro hq
      rcases shift_ok n1.1 (k := -k) (by omega) (by omega) with ⟨_, n2, v2⟩ | ⟨f, _⟩
      · refine nrm_uniq n2 (nd_ok hd).1 ?_
        rw [v2, (nd_ok hd).2]
        have hs := V_sign (a := o) (b := ⟨d.n, d.c, d.e + k⟩) n1.1.1 n1.1.2.2.2.2 hd.1 hd.2.2.2.2 v1
        simp only at hs
        rw [show o.e + -k = o.e - k from by omega, V_sV, V_sV]
        simp only
        rw [hs.1, U_shift (by omega) (by omega) (by omega) (by omega) hs.2]
      · rw [f] at hq; exact absurd hq (by decide)
    · rw [cmp_ok n1.1 vld_z, cmp_ok hd vld_z, V_z, v1]
      exact V_scale
  · rw [f] at h; exact absurd h (by decide)
theorem P7_ok {d : D} (h : 1 ≤ digitsI d) : p10 (digitsI d - 1) ≤ d.c ∧ d.c < 10 * p10 (digitsI d - 1) ∧ digitsI d ≤ 9 := by
  unfold digitsI at *
  by_cases hv : vld d = true
  · rw [if_pos hv] at *
    have h0 : 0 < d.c := by
      apply Classical.byContradiction; intro hn
      rw [dc_zero (by omega)] at h; omega
    refine ⟨dc_ge h0, ?_, dc_le9 (vld_iff.1 hv).2.1⟩
    rw [← p10_succ (by omega), show dc d.c - 1 + 1 = dc d.c from by omega]
    exact dc_lt _
  · rw [if_neg hv] at h; omega
theorem size_bd {d : D} (h : vldP d) (h0 : 0 < d.c) : -11 ≤ size d ∧ size d ≤ 21 := by
  have := dc_one h0
  have := dc_le9 h.2.1
  have := h.2.2.1
  have := h.2.2.2.1
  unfold size; omega
theorem size_U {a b : D} (ha : vldP a) (hb : vldP b) (a0 : 0 < a.c) (b0 : 0 < b.c) (h : U a.c a.e = U b.c b.e) : size a = size b := by
  refine size_of a0 ha.2.2.1 (size_bd hb b0).1 ?_ ?_
  · rw [h]; exact U_size_ge b0 hb.2.2.1
  · rw [h]; exact U_size_lt b0 hb.2.2.1
theorem c_pos {a b : D} (ha : vldP a) (h : U a.c a.e = U b.c b.e) (b0 : 0 < b.c) : 0 < a.c := by
  apply Classical.byContradiction; intro hn
  have : a.c = 0 := by have := ha.1; omega
  rw [this, U_zero] at h
  have := U_pos (e := b.e) b0; omega
theorem leadI_yes {d : D} (h : vldP d) (h0 : 0 < d.c) : leadI d = size d - 1 := by
  unfold leadI; rw [if_neg (by simp [vld_iff.2 h]; omega)]
theorem P8_ok {d : D} (h : vldP d) (h0 : d.c ≠ 0) : leadI (nd d) = leadI d ∧ ((shiftI d 1).2 = true → leadI (shiftI d 1).1 = leadI d + 1) := by
  have h0' : 0 < d.c := by have := h.1; omega
  have hn := nd_ok h
  have e := U_of_V hn.1.1 h hn.2
  constructor
  · rw [leadI_yes hn.1.1 (c_pos hn.1.1 e.2 h0'), leadI_yes h h0', size_U hn.1.1 h (c_pos hn.1.1 e.2 h0') h0' e.2]
  · intro hq
    rcases shift_ok h (k := 1) (by omega) (by omega) with ⟨_, n1, v1⟩ | ⟨f, _⟩
    · have hs := V_sign (a := (shiftI d 1).1) (b := ⟨d.n, d.c, d.e + 1⟩) n1.1.1 n1.1.2.2.2.2 h.1 h.2.2.2.2 v1
      have hu : U (shiftI d 1).1.c (shiftI d 1).1.e = U d.c (d.e + 1) := hs.2
      have c0 := c_pos (b := ⟨d.n, d.c, d.e + 1⟩) n1.1 hs.2 h0'
      have hde := h.2.2.1
      have hb := size_bd h h0'
      rw [leadI_yes n1.1 c0, leadI_yes h h0']
      have : size (shiftI d 1).1 = size d + 1 := by
        refine size_of c0 n1.1.2.2.1 (by omega) ?_ ?_
        · rw [hu, U_mulp (by omega) (by omega), show size d + 1 - 1 + 24 = (size d - 1 + 24) + 1 from by omega, p10_add (by omega) (by omega)]
          exact Int.mul_le_mul_of_nonneg_right (U_size_ge h0' hde) (Int.le_of_lt (p10_pos _))
        · rw [hu, U_mulp (by omega) (by omega), show size d + 1 + 24 = (size d + 24) + 1 from by omega, p10_add (by omega) (by omega)]
          exact Int.mul_lt_mul_of_pos_right (U_size_lt h0' hde) (p10_pos _)
      omega
    · rw [f] at hq; exact absurd hq (by decide)
theorem P9_ok {d : D} {p : Int} (h : vldP d) (h1 : 0 ≤ p) (h2 : p ≤ 12) :
    (placesI d ≤ p → roundI d p = nd d) ∧ placesI (roundI d p) ≤ p ∧ roundI (roundI d p) p = roundI d p ∧ roundI (neg d) p = neg (roundI d p) := by
  have hr := round_V h (by omega) h2
  refine ⟨fun hp => ?_, places_round h h1 h2, ?_, ?_⟩
  · rw [placesI_yes h] at hp
    exact nd_round h (by omega) h2 (by omega)
  · refine nrm_uniq (round_V hr.1.1 (by omega) h2).1 hr.1 ?_
    exact round_mult hr.1.1 (by omega) h2 (round_U h (by omega) h2)
  · have hn := neg_ok h
    have hr' := round_V hn.1 (p := p) (by omega) h2
    refine nrm_uniq hr'.1 (neg_nrm hr.1) ?_
    rw [(neg_ok hr.1.1).2.1, hr.2, hr'.2, hn.2.2.1, hn.2.2.2]
    obtain ⟨v1, v2, v3, v4, v5⟩ := h
    have e : (neg d).n = (decide (0 < d.c) && !d.n) := by unfold neg; rw [if_pos (vld_iff.2 ⟨v1, v2, v3, v4, v5⟩)]
    rw [e]
    by_cases hz : d.c = 0
    · rw [hz, U_zero]
      have : rhe 0 (p10 (-p + 24)) = 0 := rhe_small (by omega) (p10_pos _)
      rw [this, Int.zero_mul, sV_zero, sV_zero]; rfl
    · have hz' : decide (0 < d.c) = true := by simp; omega
      rw [hz', Bool.true_and]
      unfold sV; cases d.n <;> simp
/-- the amount without its sign -/
def amt (d : D) : D := ⟨false, d.c, d.e⟩
theorem amt_ok {d : D} (h : vldP d) : vldP (amt d) ∧ V (amt d) = U d.c d.e :=
  ⟨⟨h.1, h.2.1, h.2.2.1, h.2.2.2.1, fun h => by simp [amt] at h⟩, by unfold V amt; simp⟩
theorem P10_ok {d : D} {p : Int} (h : vldP d) (h1 : -12 ≤ p) (h2 : p ≤ 12)
    (hp : (addI d (neg (roundI d p))).2 = true) (hq : (addI (addI d (neg (roundI d p))).1 (addI d (neg (roundI d p))).1).2 = true) :
    cmpI (amt (addI (addI d (neg (roundI d p))).1 (addI d (neg (roundI d p))).1).1) ⟨false, 1, -p⟩ ≤ 0 := by
  have hr := round_V h h1 h2
  have hn := neg_ok hr.1.1
  rcases addI_ok h hn.1 with ⟨_, n1, v1⟩ | ⟨f, _⟩
  · generalize (addI d (neg (roundI d p))).1 = x at *
    rcases addI_ok n1.1 n1.1 with ⟨_, n2, v2⟩ | ⟨f, _⟩
    · generalize (addI x x).1 = y at *
      have ha := amt_ok n2.1
      have hone : vldP ⟨false, 1, -p⟩ := ⟨by simp, by simp, by simp only; omega, by simp only; omega, by simp⟩
      rw [cmp_ok ha.1 hone, ha.2]
      have e : V ⟨false, 1, -p⟩ = p10 (-p + 24) := by unfold V U; simp
      rw [e]
      have near := rhe_near (u := U d.c d.e) (p10_pos (-p + 24))
      rw [hn.2.1, hr.2] at v1
      have hy : V y = sV d.n (2 * (U d.c d.e - rhe (U d.c d.e) (p10 (-p + 24)) * p10 (-p + 24))) := by
        rw [v2, v1, V_sV]; unfold sV; split <;> omega
      have hb : U y.c y.e ≤ p10 (-p + 24) := by
        rw [V_sV] at hy
        unfold sV at hy
        split at hy <;> split at hy <;> omega
      unfold cmpInt; split <;> (try split) <;> omega
    · rw [f] at hq; exact absurd hq (by decide)
  · rw [f] at hp; exact absurd hp (by decide)
theorem roundDI_yes {d : D} {g : Int} (h : (roundDI d g).c ≠ 0) : vldP d ∧ 1 ≤ g ∧ g ≤ 9 ∧ 0 < d.c ∧ roundDI d g = (fit1 (dropI d (size d - g - d.e))).1 := by
  unfold roundDI at h ⊢
  by_cases hg : (!vld d || decide (g < 1) || decide (9 < g)) = true
  · rw [if_pos hg] at h; exact absurd rfl h
  · rw [if_neg hg] at h ⊢
    have e : dc d.c - g = size d - g - d.e := by unfold size; omega
    simp at hg
    have hv := vld_iff.1 hg.1.1
    refine ⟨hv, hg.1.2, hg.2, ?_, by rw [e]⟩
    apply Classical.byContradiction; intro hn
    have hz : d.c = 0 := by have := hv.1; omega
    apply h
    unfold dropI
    rw [if_pos (by rw [hz, dc_zero (by omega)]; omega)]
    unfold fit1; rw [if_pos hz]; rfl
theorem roundDI_is {d : D} {g : Int} (h : vldP d) (h1 : 1 ≤ g) (h9 : g ≤ 9) : roundDI d g = (fit1 (dropI d (size d - g - d.e))).1 := by
  unfold roundDI
  rw [if_neg (by simp [vld_iff.2 h]; omega)]
  congr 3; unfold size; omega
theorem roundD_V {d : D} {g : Int} (h : (roundDI d g).c ≠ 0) :
    nrm (roundDI d g) ∧ V (roundDI d g) = sV d.n (rhe (U d.c d.e) (p10 (size d - g + 24)) * p10 (size d - g + 24)) := by
  obtain ⟨hv, h1, h9, h0, e⟩ := roundDI_yes h
  have hf := drop_fits (x := size d - g) hv (by have := (size_bd hv h0).1; omega)
  rw [e] at h ⊢
  rcases hf with ⟨a, b, c⟩ | ⟨a, b, c⟩
  · exact ⟨b, c⟩
  · rw [b] at h; exact absurd rfl h
/-- what is a multiple already stays -/
theorem roundD_mult {d : D} {g x : Int} (h : nrm d) (h0 : 0 < d.c) (h1 : 1 ≤ g) (h9 : g ≤ 9) (hu : U d.c d.e = x * p10 (size d - g + 24)) : roundDI d g = d := by
  rw [roundDI_is h.1 h1 h9]
  have hf := drop_fits (x := size d - g) h.1 (by have := (size_bd h.1 h0).1; omega)
  rw [hu, rhe_dvd (p10_pos _), ← hu, ← V_sV] at hf
  rw [hf.uniq (fits_self h)]
theorem P11_ok {d : D} {g : Int} (h : (roundDI d g).c ≠ 0) :
    ((nd d).e < 12 → digitsI (nd d) ≤ g → roundDI d g = nd d) ∧ (digitsI (roundDI d g) ≤ g ∨ (roundDI d g).e = 12) ∧
    roundDI (roundDI d g) g = roundDI d g ∧ (roundDI d g).n = d.n := by
  obtain ⟨hv, h1, h9, h0, e⟩ := roundDI_yes h
  obtain ⟨n1, v1⟩ := roundD_V h
  generalize roundDI d g = o at *
  have o0 : 0 < o.c := by have := n1.1.1; omega
  have sb := size_bd hv h0
  have ulo := U_size_ge h0 hv.2.2.1
  have uhi := U_size_lt h0 hv.2.2.1
  have mpos := p10_pos (size d - g + 24)
  have rlo : p10 (g - 1) ≤ rhe (U d.c d.e) (p10 (size d - g + 24)) := by
    apply rhe_ge mpos
    rw [← p10_add (by omega) (by omega), show g - 1 + (size d - g + 24) = size d - 1 + 24 from by omega]; exact ulo
  have rhi : rhe (U d.c d.e) (p10 (size d - g + 24)) ≤ p10 g := by
    apply rhe_le mpos
    rw [← p10_add (by omega) (by omega), show g + (size d - g + 24) = size d + 24 from by omega]; exact uhi
  have pg := p10_pos (g - 1)
  have hV : V o = V ⟨d.n, rhe (U d.c d.e) (p10 (size d - g + 24)), size d - g⟩ := by rw [v1]; rfl
  have hs := V_sign (a := o) (b := ⟨d.n, rhe (U d.c d.e) (p10 (size d - g + 24)), size d - g⟩) n1.1.1 n1.1.2.2.2.2 (by simp only; omega) (by simp only; intro; omega) hV
  simp only at hs
  obtain ⟨sn, su⟩ := hs
  have oe := n1.1.2.2.1
  have odig : digitsI o = dc o.c := by unfold digitsI; rw [if_pos (vld_iff.2 n1.1)]
  refine ⟨?_, ?_, ?_, sn⟩
  · intro hn12 hng
    have hn := nd_ok hv
    have eu := U_of_V hn.1.1 hv hn.2
    have nc0 := c_pos hn.1.1 eu.2 h0
    have hsz := size_U hn.1.1 hv nc0 h0 eu.2
    have ndig : digitsI (nd d) = dc (nd d).c := by unfold digitsI; rw [if_pos (vld_iff.2 hn.1.1)]
    rw [ndig] at hng
    have hle : size d - g ≤ (nd d).e := by rw [← hsz]; unfold size; omega
    refine nrm_uniq n1 hn.1 ?_
    have hm := U_mult (c := (nd d).c) (e := (nd d).e) (x := size d - g) (by omega) hle
    rw [eu.2] at hm
    rw [hn.2, v1, hm, rhe_dvd mpos, V_sV, hm]
  · by_cases h12 : o.e = 12
    · exact .inr h12
    · left
      rw [odig]
      have h10 : o.c % 10 ≠ 0 := by have := n1.2.2 (by omega); omega
      generalize rhe (U d.c d.e) (p10 (size d - g + 24)) = x at *
      by_cases hx : x = p10 g
      · have hu : U o.c o.e = U 1 (size d) := by
          rw [su, hx]; unfold U
          rw [← p10_add (by omega) (by omega), show g + (size d - g + 24) = size d + 24 from by omega, Int.one_mul]
        by_cases hlt : o.e < size d
        · exact absurd (U_div (by omega) hlt hu) h10
        · have := U_le (c := 1) (e := size d) (c' := o.c) (e' := o.e) (by omega) (by omega) (by omega) hu.symm
          have : dc o.c = 1 := dc_eq (by omega) (by show p10 0 ≤ _; rw [p10_zero]; omega) (by show _ < (10 : Int); omega)
          omega
      · by_cases hlt : o.e < size d - g
        · exact absurd (U_div (by omega) hlt su) h10
        · have hle := U_le (c := x) (e := size d - g) (c' := o.c) (e' := o.e) (by omega) (by omega) (by omega) su.symm
          apply Int.not_lt.1; intro hgt
          have := dc_ge o0
          have := p10_mono (j := g) (k := dc o.c - 1) (by omega) (by omega)
          omega
  · by_cases hx : rhe (U d.c d.e) (p10 (size d - g + 24)) = p10 g
    · have hsz : size o = size d + 1 := by
        have hu : U o.c o.e = p10 (size d + 24) := by
          rw [su, hx]; unfold U
          rw [← p10_add (by omega) (by omega), show g + (size d - g + 24) = size d + 24 from by omega]
        refine size_of o0 oe (by omega) ?_ ?_
        · rw [hu, show size d + 1 - 1 + 24 = size d + 24 from by omega]; exact Int.le_refl _
        · rw [hu, show size d + 1 + 24 = (size d + 24) + 1 from by omega, p10_succ (by omega)]
          have := p10_pos (size d + 24); omega
      refine roundD_mult (x := p10 (g - 1)) n1 o0 h1 h9 ?_
      rw [su, hx, hsz]; unfold U
      rw [← p10_add (by omega) (by omega), ← p10_add (by omega) (by omega)]; congr 1; omega
    · have hsz : size o = size d := by
        refine size_of o0 oe (by omega) ?_ ?_
        · rw [su]; unfold U
          rw [show size d - 1 + 24 = (g - 1) + (size d - g + 24) from by omega, p10_add (by omega) (by omega)]
          exact Int.mul_le_mul_of_nonneg_right rlo (Int.le_of_lt mpos)
        · rw [su, show p10 (size d + 24) = p10 g * p10 (size d - g + 24) from by rw [← p10_add (by omega) (by omega)]; congr 1; omega]
          exact Int.mul_lt_mul_of_pos_right (by omega) mpos
      refine roundD_mult (x := rhe (U d.c d.e) (p10 (size d - g + 24))) n1 o0 h1 h9 ?_
      rw [su, hsz]; rfl
theorem places_nonneg {d : D} (h : vldP d) : 0 ≤ placesI d ∧ placesI d ≤ 12 := by
  rw [placesI_yes h]
  have := (nd_valid d).2.2.1; omega
theorem places_nd {d : D} (h : vldP d) : placesI (nd d) = placesI d := by
  rw [places_nrm (nd_ok h).1, placesI_yes h]
theorem P12_ok {d : D} (h : vldP d) : placesI d = 0 ↔ roundI d 0 = nd d := by
  constructor
  · intro h0
    rw [placesI_yes h] at h0
    exact nd_round h (by omega) (by omega) (by omega)
  · intro e
    have := places_round h (p := 0) (by omega) (by omega)
    rw [e, places_nd h] at this
    have := places_nonneg h; omega
theorem P13_ok {d : D} (h : 0 ≤ placesI d) : placesI d ≤ 12 ∧ roundI d (placesI d) = nd d ∧ (placesI d = 0 ∨ roundI d (placesI d - 1) ≠ nd d) := by
  have hv : vldP d := by
    apply Classical.byContradiction; intro hn
    unfold placesI at h; rw [if_neg (by simp [vld, hn])] at h; omega
  have hb := places_nonneg hv
  refine ⟨hb.2, ?_, ?_⟩
  · have := placesI_yes hv
    exact nd_round hv (by omega) hb.2 (by omega)
  · by_cases h0 : placesI d = 0
    · exact .inl h0
    · right; intro e
      have := places_round hv (p := placesI d - 1) (by omega) (by omega)
      rw [e, places_nd hv] at this; omega
end Fd
