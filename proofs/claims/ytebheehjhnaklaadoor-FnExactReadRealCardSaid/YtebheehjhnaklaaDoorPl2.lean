/- Plain mathematics of decimals (chapter 1): no Go here. The two ways to bring a decimal into its normal form agree, by the value that both keep. -/
namespace Fd
/-- a decimal: its sign, coefficient and exponent -/
structure D where
  n : Bool
  c : Int
  e : Int
theorem D.eq {a b : D} (h1 : a.n = b.n) (h2 : a.c = b.c) (h3 : a.e = b.e) : a = b := by
  cases a; cases b; simp_all
def D.z : D := ⟨false, 0, 0⟩
def vldP (d : D) : Prop := 0 ≤ d.c ∧ d.c ≤ 999999999 ∧ -12 ≤ d.e ∧ d.e ≤ 12 ∧ (d.n = true → 0 < d.c)
instance (d : D) : Decidable (vldP d) := by unfold vldP; infer_instance
def vld (d : D) : Bool := decide (vldP d)
theorem vld_iff {d : D} : vld d = true ↔ vldP d := by simp [vld]
theorem vld_z : vldP D.z := by simp [vldP, D.z]
def p10 (k : Int) : Int := (10 : Int) ^ k.toNat
theorem p10_succ {k : Int} (h : 0 ≤ k) : p10 (k + 1) = 10 * p10 k := by
  unfold p10
  rw [show (k + 1).toNat = k.toNat + 1 from by omega, Int.pow_succ]; omega
theorem p10_pos (k : Int) : 0 < p10 k := by
  unfold p10; exact Int.pow_pos (by omega)
theorem p10_add {j k : Int} (hj : 0 ≤ j) (hk : 0 ≤ k) : p10 (j + k) = p10 j * p10 k := by
  unfold p10
  rw [show (j + k).toNat = j.toNat + k.toNat from by omega, Int.pow_add]
/-- the number of digits, 0 for what is not above 0 -/
def dc (n : Int) : Int := if 0 < n then dc (n / 10) + 1 else 0
termination_by n.toNat
decreasing_by omega
/-- the program's way: zeros are struck up to exponent 12 -/
def strip1 (c e : Int) : Int × Int := if 0 < c ∧ e < 12 ∧ c % 10 = 0 then strip1 (c / 10) (e + 1) else (c, e)
termination_by c.toNat
decreasing_by omega
/-- and put back from above 12 -/
def grow1 (c e : Int) : Int × Int := if 12 < e ∧ c ≤ 999999999 then grow1 (c * 10) (e - 1) else (c, e)
termination_by e.toNat
decreasing_by omega
/-- the model's way: all zeros are struck -/
def strip2 (c e : Int) : Int × Int := if 0 < c ∧ c % 10 = 0 then strip2 (c / 10) (e + 1) else (c, e)
termination_by c.toNat
decreasing_by omega
def grow2 (c e : Int) : Int × Int := if 12 < e ∧ c * 10 ≤ 999999999 then grow2 (c * 10) (e - 1) else (c, e)
termination_by e.toNat
decreasing_by omega
theorem strip1_yes {c e : Int} (h0 : 0 < c) (h1 : e < 12) (h2 : c % 10 = 0) : strip1 c e = strip1 (c / 10) (e + 1) := by rw [strip1]; simp [h0, h1, h2]
theorem strip1_no {c e : Int} (h : ¬ (e < 12 ∧ c % 10 = 0)) : strip1 c e = (c, e) := by rw [strip1]; rw [if_neg (by omega)]
theorem grow1_yes {c e : Int} (h1 : 12 < e) (h2 : c ≤ 999999999) : grow1 c e = grow1 (c * 10) (e - 1) := by rw [grow1]; simp [h1, h2]
theorem grow1_no {c e : Int} (h : ¬ (12 < e ∧ c ≤ 999999999)) : grow1 c e = (c, e) := by rw [grow1]; rw [if_neg h]
theorem strip2_yes {c e : Int} (h0 : 0 < c) (h2 : c % 10 = 0) : strip2 c e = strip2 (c / 10) (e + 1) := by rw [strip2]; simp [h0, h2]
theorem strip2_no {c e : Int} (h : ¬ c % 10 = 0) : strip2 c e = (c, e) := by rw [strip2]; rw [if_neg (by omega)]
theorem grow2_yes {c e : Int} (h1 : 12 < e) (h2 : c * 10 ≤ 999999999) : grow2 c e = grow2 (c * 10) (e - 1) := by rw [grow2]; simp [h1, h2]
theorem grow2_no {c e : Int} (h : ¬ (12 < e ∧ c * 10 ≤ 999999999)) : grow2 c e = (c, e) := by rw [grow2]; rw [if_neg h]
def fit1 (d : D) : D × Bool :=
  if d.c = 0 then (D.z, true) else
    let r : D := ⟨d.n, (grow1 (strip1 d.c d.e).1 (strip1 d.c d.e).2).1, (grow1 (strip1 d.c d.e).1 (strip1 d.c d.e).2).2⟩
    if vld r then (r, true) else (D.z, false)
def normal2 (d : D) : D := if d.c = 0 then D.z else ⟨d.n, (strip2 d.c d.e).1, (strip2 d.c d.e).2⟩
def fit2 (d : D) : D × Bool :=
  let r : D := ⟨d.n, (grow2 d.c d.e).1, (grow2 d.c d.e).2⟩
  if vld r then (r, true) else (D.z, false)
/-- the value of c at exponent e, in units of 10 to the -24 -/
def U (c e : Int) : Int := c * p10 (e + 24)
theorem U_step {c e : Int} (he : -24 ≤ e) (h : c % 10 = 0) : U (c / 10) (e + 1) = U c e := by
  unfold U
  rw [show e + 1 + 24 = (e + 24) + 1 from by omega, p10_succ (by omega), ← Int.mul_assoc]
  congr 1; omega
theorem U_up {c e : Int} (he : -23 ≤ e) : U (c * 10) (e - 1) = U c e := by
  have := U_step (c := c * 10) (e := e - 1) (by omega) (by omega)
  rw [← this]; congr 1 <;> omega
theorem strip1_ok (c e : Int) (h0 : 0 < c) (he : -24 ≤ e) :
    U (strip1 c e).1 (strip1 c e).2 = U c e ∧ 0 < (strip1 c e).1 ∧ (strip1 c e).1 ≤ c ∧ e ≤ (strip1 c e).2 ∧ ((strip1 c e).2 ≤ 12 ∨ (strip1 c e).2 = e) ∧ ((strip1 c e).1 % 10 ≠ 0 ∨ 12 ≤ (strip1 c e).2) := by
  induction c, e using strip1.induct with
  | case1 c e h ih =>
    obtain ⟨h1, h2, h3⟩ := h
    rw [strip1_yes h1 h2 h3]
    obtain ⟨a, b, d, f, g, i⟩ := ih (by omega) (by omega)
    refine ⟨by rw [a, U_step he h3], b, by omega, by omega, by omega, i⟩
  | case2 c e h =>
    rw [strip1_no (by omega)]
    refine ⟨rfl, h0, Int.le_refl _, Int.le_refl _, .inr rfl, by simp only; omega⟩
theorem grow1_ok (c e : Int) (h0 : 0 < c) (he : -24 ≤ e) :
    U (grow1 c e).1 (grow1 c e).2 = U c e ∧ c ≤ (grow1 c e).1 ∧ (grow1 c e).2 ≤ e ∧ (e ≤ 12 → grow1 c e = (c, e)) ∧ (12 ≤ e → 12 ≤ (grow1 c e).2) ∧ ((grow1 c e).2 ≤ 12 ∨ 999999999 < (grow1 c e).1) := by
  induction c, e using grow1.induct with
  | case1 c e h ih =>
    obtain ⟨h1, h2⟩ := h
    rw [grow1_yes h1 h2]
    obtain ⟨a, b, d, f, g, i⟩ := ih (by omega) (by omega)
    exact ⟨by rw [a, U_up (by omega)], by omega, by omega, by intro; omega, by intro; exact g (by omega), i⟩
  | case2 c e h =>
    rw [grow1_no h]
    exact ⟨rfl, Int.le_refl _, Int.le_refl _, fun _ => rfl, fun h => h, by simp only; omega⟩
theorem strip2_ok (c e : Int) (h0 : 0 < c) (he : -24 ≤ e) :
    U (strip2 c e).1 (strip2 c e).2 = U c e ∧ 0 < (strip2 c e).1 ∧ (strip2 c e).1 ≤ c ∧ e ≤ (strip2 c e).2 ∧ (strip2 c e).1 % 10 ≠ 0 := by
  induction c, e using strip2.induct with
  | case1 c e h ih =>
    obtain ⟨h1, h3⟩ := h
    rw [strip2_yes h1 h3]
    obtain ⟨a, b, d, f, g⟩ := ih (by omega) (by omega)
    exact ⟨by rw [a, U_step he h3], b, by omega, by omega, g⟩
  | case2 c e h =>
    rw [strip2_no (by omega)]
    exact ⟨rfl, h0, Int.le_refl _, Int.le_refl _, by simp only; omega⟩
theorem grow2_ok (c e : Int) (h0 : 0 < c) (he : -24 ≤ e) :
    U (grow2 c e).1 (grow2 c e).2 = U c e ∧ c ≤ (grow2 c e).1 ∧ (grow2 c e).2 ≤ e ∧ (e ≤ 12 → grow2 c e = (c, e)) ∧ (12 ≤ e → 12 ≤ (grow2 c e).2) ∧ ((grow2 c e).2 ≤ 12 ∨ 999999999 < (grow2 c e).1 * 10) := by
  induction c, e using grow2.induct with
  | case1 c e h ih =>
    obtain ⟨h1, h2⟩ := h
    rw [grow2_yes h1 h2]
    obtain ⟨a, b, d, f, g, i⟩ := ih (by omega) (by omega)
    exact ⟨by rw [a, U_up (by omega)], by omega, by omega, by intro; omega, by intro; exact g (by omega), i⟩
  | case2 c e h =>
    rw [grow2_no h]
    exact ⟨rfl, Int.le_refl _, Int.le_refl _, fun _ => rfl, fun h => h, by simp only; omega⟩
/-- two exponents of one amount -/
theorem U_down {c e c' e' : Int} (he : -24 ≤ e) (hle : e ≤ e') (h : U c e = U c' e') : c = c' * p10 (e' - e) := by
  unfold U at h
  rw [show e' + 24 = (e' - e) + (e + 24) from by omega, p10_add (j := e' - e) (k := e + 24) (by omega) (by omega), ← Int.mul_assoc] at h
  exact Int.eq_of_mul_eq_mul_right (by have := p10_pos (e + 24); omega) h
theorem U_div {c e c' e' : Int} (he : -24 ≤ e) (hlt : e < e') (h : U c e = U c' e') : c % 10 = 0 := by
  have h1 := U_down he (by omega) h
  rw [show e' - e = (e' - e - 1) + 1 from by omega, p10_succ (by omega)] at h1
  rw [h1, show c' * (10 * p10 (e' - e - 1)) = (c' * p10 (e' - e - 1)) * 10 from by
    rw [Int.mul_comm 10, Int.mul_assoc]]
  exact Int.mul_emod_left _ _
theorem U_le {c e c' e' : Int} (he : -24 ≤ e) (hle : e ≤ e') (h0 : 0 ≤ c') (h : U c e = U c' e') : c' ≤ c := by
  have h1 := U_down he hle h
  have h2 := p10_pos (e' - e)
  have : c' * 1 ≤ c' * p10 (e' - e) := Int.mul_le_mul_of_nonneg_left (by omega) h0
  omega
theorem U_le10 {c e c' e' : Int} (he : -24 ≤ e) (hlt : e < e') (h0 : 0 ≤ c') (h : U c e = U c' e') : c' * 10 ≤ c := by
  have h1 := U_down he (by omega) h
  rw [show e' - e = (e' - e - 1) + 1 from by omega, p10_succ (by omega)] at h1
  have h2 := p10_pos (e' - e - 1)
  have : c' * 10 * 1 ≤ c' * 10 * p10 (e' - e - 1) := Int.mul_le_mul_of_nonneg_left (by omega) (by omega)
  rw [← Int.mul_assoc] at h1
  omega
/-- normal: valid, 0 in one way alone, and without zeros at its end but at exponent 12 -/
def nrm (d : D) : Prop := vldP d ∧ (d.c = 0 → d.e = 0) ∧ (d.c ≠ 0 → d.c % 10 ≠ 0 ∨ d.e = 12)
/-- the value, with its sign -/
def V (d : D) : Int := if d.n then - U d.c d.e else U d.c d.e
theorem U_pos {c e : Int} (h : 0 < c) : 0 < U c e := Int.mul_pos h (p10_pos _)
theorem U_zero (e : Int) : U 0 e = 0 := by simp [U]
theorem U_nonneg {c e : Int} (h : 0 ≤ c) : 0 ≤ U c e := Int.mul_nonneg h (Int.le_of_lt (p10_pos _))
/-- one value, one sign and one amount -/
theorem V_sign {a b : D} (ha : 0 ≤ a.c) (ha' : a.n = true → 0 < a.c) (hb : 0 ≤ b.c) (hb' : b.n = true → 0 < b.c) (h : V a = V b) : a.n = b.n ∧ U a.c a.e = U b.c b.e := by
  unfold V at h
  have h1 := U_nonneg (e := a.e) ha
  have h2 := U_nonneg (e := b.e) hb
  cases hA : a.n <;> cases hB : b.n <;> simp only [hA, hB, if_true, if_false, Bool.false_eq_true] at h
  · exact ⟨rfl, h⟩
  · have := U_pos (e := b.e) (hb' hB); omega
  · have := U_pos (e := a.e) (ha' hA); omega
  · exact ⟨rfl, by omega⟩
theorem nrm_amount {a b : D} (ha : nrm a) (hb : nrm b) (h : U a.c a.e = U b.c b.e) : a.c = b.c ∧ a.e = b.e := by
  obtain ⟨⟨a1, a2, a3, a4, a5⟩, a6, a7⟩ := ha
  obtain ⟨⟨b1, b2, b3, b4, b5⟩, b6, b7⟩ := hb
  by_cases hz : a.c = 0
  · have : U b.c b.e = 0 := by rw [← h, hz, U_zero]
    have hb0 : b.c = 0 := by
      apply Classical.byContradiction; intro hne
      have := U_pos (c := b.c) (e := b.e) (by omega); omega
    exact ⟨by omega, by rw [a6 hz, b6 hb0]⟩
  have hbz : b.c ≠ 0 := by
    intro hb0
    have := U_pos (c := a.c) (e := a.e) (by omega)
    rw [h, hb0, U_zero] at this; omega
  have he : a.e = b.e := by
    rcases Int.lt_trichotomy a.e b.e with hl | hl | hl
    · have := U_div (by omega) hl h
      rcases a7 hz with g | g <;> omega
    · exact hl
    · have := U_div (by omega) hl h.symm
      rcases b7 hbz with g | g <;> omega
  refine ⟨?_, he⟩
  have h1 := U_le (by omega) (by omega) b1 h
  have h2 := U_le (by omega) (by omega) a1 h.symm
  omega
theorem nrm_uniq {a b : D} (ha : nrm a) (hb : nrm b) (h : V a = V b) : a = b := by
  obtain ⟨h1, h2⟩ := V_sign ha.1.1 ha.1.2.2.2.2 hb.1.1 hb.1.2.2.2.2 h
  obtain ⟨h3, h4⟩ := nrm_amount ha hb h2
  exact D.eq h1 h3 h4
theorem nrm_z : nrm D.z := ⟨vld_z, fun _ => rfl, fun h => absurd rfl h⟩
theorem V_z : V D.z = 0 := by simp [V, D.z, U]
theorem V_zero {d : D} (h : d.c = 0) : V d = 0 := by unfold V; rw [h, U_zero]; simp
/-- what a way to the normal form must give -/
def Fits (v : Int) (r : D × Bool) : Prop :=
  (r.2 = true ∧ nrm r.1 ∧ V r.1 = v) ∨ (r.2 = false ∧ r.1 = D.z ∧ ∀ x, vldP x → V x ≠ v)
theorem Fits.uniq {v : Int} {r s : D × Bool} (hr : Fits v r) (hs : Fits v s) : r = s := by
  rcases hr with ⟨a, b, c⟩ | ⟨a, b, c⟩ <;> rcases hs with ⟨d, e, f⟩ | ⟨d, e, f⟩
  · exact Prod.ext (nrm_uniq b e (by omega)) (by rw [a, d])
  · exact absurd c (f _ b.1)
  · exact absurd f (c _ e.1)
  · exact Prod.ext (by rw [b, e]) (by rw [a, d])
/-- an amount (c, e) of this value that is no valid one, in a form from which none can be made -/
theorem none_fits {n : Bool} {c e : Int} (hc : 0 < c) (he : -24 ≤ e) (h12 : c % 10 ≠ 0 ∨ 12 ≤ e) (hout : ¬ vldP ⟨n, c, e⟩)
    (hgrow : e ≤ 12 ∨ 999999999 < c * 10) : ∀ x, vldP x → V x ≠ V ⟨n, c, e⟩ := by
  intro x hx h
  obtain ⟨x1, x2, x3, x4, x5⟩ := hx
  obtain ⟨h1, h2⟩ := V_sign x1 x5 (b := ⟨n, c, e⟩) (by simp only; omega) (by simp only; omega) h
  simp only at h1 h2
  have hx0 : 0 < x.c := by
    apply Classical.byContradiction; intro hne
    have : x.c = 0 := by omega
    rw [this, U_zero] at h2
    have := U_pos (e := e) hc; omega
  by_cases hlt : e < x.e
  · have := U_div he hlt h2.symm
    omega
  · by_cases h13 : 12 < e
    · have := U_le10 (c := x.c) (e := x.e) (c' := c) (e' := e) (by omega) (by omega) (by omega) h2
      omega
    · have := U_le (c := x.c) (e := x.e) (c' := c) (e' := e) (by omega) (by omega) (by omega) h2
      apply hout
      exact ⟨by simp only; omega, by simp only; omega, by simp only; omega, by simp only; omega, by simp only; intro; omega⟩
theorem V_mk {n : Bool} {c e c' e' : Int} (h : U c e = U c' e') : V ⟨n, c, e⟩ = V ⟨n, c', e'⟩ := by
  unfold V; simp only; rw [h]
theorem fit1_ok (d : D) (h0 : 0 ≤ d.c) (he : -24 ≤ d.e) : Fits (V d) (fit1 d) := by
  unfold fit1
  by_cases hz : d.c = 0
  · rw [if_pos hz]
    exact .inl ⟨rfl, nrm_z, by rw [V_z, V_zero hz]⟩
  rw [if_neg hz]
  obtain ⟨a1, a2, a3, a4, a5, a6⟩ := strip1_ok d.c d.e (by omega) he
  obtain ⟨b1, b2, b3, b4, b5, b6⟩ := grow1_ok (strip1 d.c d.e).1 (strip1 d.c d.e).2 a2 (by omega)
  generalize hs : strip1 d.c d.e = s at *
  generalize hg : grow1 s.1 s.2 = g at *
  have hv : V ⟨d.n, g.1, g.2⟩ = V d := V_mk (by rw [b1, a1])
  have h12 : g.1 % 10 ≠ 0 ∨ 12 ≤ g.2 := by
    by_cases h : s.2 ≤ 12
    · have := b4 h; rw [this]; simp only; omega
    · right; exact b5 (by omega)
  have h24 : -24 ≤ g.2 := by
    by_cases h : s.2 ≤ 12
    · have := b4 h; rw [this]; simp only; omega
    · have := b5 (by omega); omega
  simp only
  by_cases hval : vld ⟨d.n, g.1, g.2⟩ = true
  · rw [if_pos hval]
    have hv' := vld_iff.1 hval
    refine .inl ⟨rfl, ⟨hv', fun h => ?_, fun h => ?_⟩, hv⟩
    · simp only at h; omega
    · have := hv'.2.2.2.1; simp only at this ⊢; omega
  · rw [if_neg hval]
    refine .inr ⟨rfl, rfl, ?_⟩
    rw [← hv]
    exact none_fits (by omega) (by omega) h12 (fun h => hval (vld_iff.2 h)) (by omega)
theorem fit2_ok (d : D) (h0 : 0 ≤ d.c) (he : -24 ≤ d.e) : Fits (V d) (fit2 (normal2 d)) := by
  unfold normal2
  by_cases hz : d.c = 0
  · rw [if_pos hz]
    have : fit2 D.z = (D.z, true) := by
      unfold fit2
      rw [grow2_no (by simp [D.z])]
      rfl
    rw [this]
    exact .inl ⟨rfl, nrm_z, by rw [V_z, V_zero hz]⟩
  rw [if_neg hz]
  unfold fit2
  obtain ⟨a1, a2, a3, a4, a5⟩ := strip2_ok d.c d.e (by omega) he
  generalize hs : strip2 d.c d.e = s at *
  simp only
  obtain ⟨b1, b2, b3, b4, b5, b6⟩ := grow2_ok s.1 s.2 a2 (by omega)
  generalize hg : grow2 s.1 s.2 = g at *
  have hv : V ⟨d.n, g.1, g.2⟩ = V d := V_mk (by rw [b1, a1])
  have h12 : g.1 % 10 ≠ 0 ∨ 12 ≤ g.2 := by
    by_cases h : s.2 ≤ 12
    · have := b4 h; rw [this]; simp only; omega
    · right; exact b5 (by omega)
  have h24 : -24 ≤ g.2 := by
    by_cases h : s.2 ≤ 12
    · have := b4 h; rw [this]; simp only; omega
    · have := b5 (by omega); omega
  by_cases hval : vld ⟨d.n, g.1, g.2⟩ = true
  · rw [if_pos hval]
    have hv' := vld_iff.1 hval
    refine .inl ⟨rfl, ⟨hv', fun h => ?_, fun h => ?_⟩, hv⟩
    · simp only at h; omega
    · have := hv'.2.2.2.1; simp only at this ⊢; omega
  · rw [if_neg hval]
    refine .inr ⟨rfl, rfl, ?_⟩
    rw [← hv]
    exact none_fits (by omega) (by omega) h12 (fun h => hval (vld_iff.2 h)) (by omega)
/-- both ways agree -/
theorem fit_eq (d : D) (h0 : 0 ≤ d.c) (he : -24 ≤ d.e) : fit2 (normal2 d) = fit1 d := (fit2_ok d h0 he).uniq (fit1_ok d h0 he)

/-! ### Part 2: the functions of chapter 1, as the program writes them (..I) and as the model does (..S), and that they agree -/
def neg (d : D) : D := if vld d then ⟨decide (0 < d.c) && !d.n, d.c, d.e⟩ else D.z
def size (d : D) : Int := dc d.c + d.e
def inr (n lo hi : Int) : Bool := decide (lo ≤ n) && decide (n ≤ hi)
theorem fit_cz (n : Bool) (e : Int) : fit1 ⟨n, 0, e⟩ = (D.z, true) := by unfold fit1; rw [if_pos rfl]
theorem fit1_of {n : Bool} {c e c1 e1 c2 e2 : Int} (hz : c ≠ 0) (h1 : strip1 c e = (c1, e1)) (h2 : grow1 c1 e1 = (c2, e2)) :
    fit1 ⟨n, c, e⟩ = if vld ⟨n, c2, e2⟩ then (⟨n, c2, e2⟩, true) else (D.z, false) := by
  unfold fit1; simp only; rw [if_neg hz, h1]; simp only; rw [h2]
end Fd
/- More plain mathematics of decimals: bounds for the model's own way. No Go here. -/
namespace Fd
end Fd
