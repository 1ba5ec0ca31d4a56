/- Plain mathematics of decimals (chapter 1): no Go here. The two ways to bring a decimal into its normal form agree, by the value that both keep. -/
namespace Fd
/-- a decimal: its sign, coefficient and exponent -/
structure D where
  n : Bool
  c : Int
  e : Int
theorem D.eq {a b : D} (h1 : a.n = b.n) (h2 : a.c = b.c) (h3 : a.e = b.e) : a = b := by
  cases a; cases b; simp_all
def D.z : D := ⟨false, 0, 0⟩
def vldP (d : D) : Prop := 0 ≤ d.c ∧ d.c ≤ 999999999 ∧ -12 ≤ d.e ∧ d.e ≤ 12 ∧ (d.n = true → 0 < d.c)
instance (d : D) : Decidable (vldP d) := by unfold vldP; infer_instance
def vld (d : D) : Bool := decide (vldP d)
theorem vld_iff {d : D} : vld d = true ↔ vldP d := by simp [vld]
theorem vld_z : vldP D.z := by simp [vldP, D.z]
def p10 (k : Int) : Int := (10 : Int) ^ k.toNat
theorem p10_succ {k : Int} (h : 0 ≤ k) : p10 (k + 1) = 10 * p10 k := by
  unfold p10
  rw [show (k + 1).toNat = k.toNat + 1 from by omega, Int.pow_succ]; omega
theorem p10_pos (k : Int) : 0 < p10 k := by
  unfold p10; exact Int.pow_pos (by omega)
theorem p10_add {j k : Int} (hj : 0 ≤ j) (hk : 0 ≤ k) : p10 (j + k) = p10 j * p10 k := by
  unfold p10
  rw [show (j + k).toNat = j.toNat + k.toNat from by omega, Int.pow_add]
theorem p10_zero : p10 0 = 1 := rfl
theorem p10_mono {j k : Int} (hj : 0 ≤ j) (h : j ≤ k) : p10 j ≤ p10 k := by
  have e : k = j + (k - j) := by omega
  rw [e, p10_add hj (by omega)]
  have h1 := p10_pos j
  have h2 := p10_pos (k - j)
  have : p10 j * 1 ≤ p10 j * p10 (k - j) := Int.mul_le_mul_of_nonneg_left (by omega) (by omega)
  omega
/-- the number of digits, 0 for what is not above 0 -/
def dc (n : Int) : Int := if 0 < n then dc (n / 10) + 1 else 0
termination_by n.toNat
decreasing_by omega
theorem dc_pos {n : Int} (h : 0 < n) : dc n = dc (n / 10) + 1 := by rw [dc]; simp [h]
theorem dc_zero {n : Int} (h : n ≤ 0) : dc n = 0 := by rw [dc]; simp; omega
theorem dc_nonneg (n : Int) : 0 ≤ dc n := by
  induction n using dc.induct with
  | case1 n h ih => rw [dc_pos h]; omega
  | case2 n h => rw [dc_zero (by omega)]; omega
theorem dc_one {n : Int} (h : 0 < n) : 1 ≤ dc n := by rw [dc_pos h]; have := dc_nonneg (n / 10); omega
theorem dc_lt (n : Int) : n < p10 (dc n) := by
  induction n using dc.induct with
  | case1 n h ih =>
    rw [dc_pos h, p10_succ (dc_nonneg _)]; omega
  | case2 n h => have := p10_pos (dc n); omega
theorem dc_ge {n : Int} (h0 : 0 < n) : p10 (dc n - 1) ≤ n := by
  induction n using dc.induct with
  | case1 n h ih =>
    rw [dc_pos h]
    by_cases h1 : 0 < n / 10
    · have := ih h1
      have h2 := dc_one h1
      rw [show dc (n / 10) + 1 - 1 = (dc (n / 10) - 1) + 1 from by omega, p10_succ (by omega)]; omega
    · rw [dc_zero (by omega)]; show p10 0 ≤ n; rw [p10_zero]; omega
  | case2 n h => omega
theorem dc_eq {n k : Int} (hk : 1 ≤ k) (h1 : p10 (k - 1) ≤ n) (h2 : n < p10 k) : dc n = k := by
  have h0 : 0 < n := by have := p10_pos (k - 1); omega
  have a := dc_lt n
  have b := dc_ge h0
  have g := dc_one h0
  apply Int.le_antisymm
  · apply Int.not_lt.1; intro hlt
    have := p10_mono (j := k) (k := dc n - 1) (by omega) (by omega); omega
  · apply Int.not_lt.1; intro hlt
    have := p10_mono (j := dc n) (k := k - 1) (by omega) (by omega); omega
theorem dc_le9 {n : Int} (h : n ≤ 999999999) : dc n ≤ 9 := by
  by_cases h0 : 0 < n
  · have b := dc_ge h0
    apply Int.not_lt.1; intro hlt
    have := p10_mono (j := 9) (k := dc n - 1) (by omega) (by omega)
    have : p10 9 = 1000000000 := rfl
    omega
  · rw [dc_zero (by omega)]; omega
/-- the program's way: zeros are struck up to exponent 12 -/
def strip1 (c e : Int) : Int × Int := if 0 < c ∧ e < 12 ∧ c % 10 = 0 then strip1 (c / 10) (e + 1) else (c, e)
termination_by c.toNat
decreasing_by omega
/-- and put back from above 12 -/
def grow1 (c e : Int) : Int × Int := if 12 < e ∧ c ≤ 999999999 then grow1 (c * 10) (e - 1) else (c, e)
termination_by e.toNat
decreasing_by omega
/-- the model's way: all zeros are struck -/
def strip2 (c e : Int) : Int × Int := if 0 < c ∧ c % 10 = 0 then strip2 (c / 10) (e + 1) else (c, e)
termination_by c.toNat
decreasing_by omega
def grow2 (c e : Int) : Int × Int := if 12 < e ∧ c * 10 ≤ 999999999 then grow2 (c * 10) (e - 1) else (c, e)
termination_by e.toNat
decreasing_by omega
theorem strip1_yes {c e : Int} (h0 : 0 < c) (h1 : e < 12) (h2 : c % 10 = 0) : strip1 c e = strip1 (c / 10) (e + 1) := by rw [strip1]; simp [h0, h1, h2]
theorem strip1_no {c e : Int} (h : ¬ (e < 12 ∧ c % 10 = 0)) : strip1 c e = (c, e) := by rw [strip1]; rw [if_neg (by omega)]
theorem grow1_yes {c e : Int} (h1 : 12 < e) (h2 : c ≤ 999999999) : grow1 c e = grow1 (c * 10) (e - 1) := by rw [grow1]; simp [h1, h2]
theorem grow1_no {c e : Int} (h : ¬ (12 < e ∧ c ≤ 999999999)) : grow1 c e = (c, e) := by rw [grow1]; rw [if_neg h]
theorem strip2_yes {c e : Int} (h0 : 0 < c) (h2 : c % 10 = 0) : strip2 c e = strip2 (c / 10) (e + 1) := by rw [strip2]; simp [h0, h2]
theorem strip2_no {c e : Int} (h : ¬ c % 10 = 0) : strip2 c e = (c, e) := by rw [strip2]; rw [if_neg (by omega)]
theorem grow2_yes {c e : Int} (h1 : 12 < e) (h2 : c * 10 ≤ 999999999) : grow2 c e = grow2 (c * 10) (e - 1) := by rw [grow2]; simp [h1, h2]
theorem grow2_no {c e : Int} (h : ¬ (12 < e ∧ c * 10 ≤ 999999999)) : grow2 c e = (c, e) := by rw [grow2]; rw [if_neg h]
def fit1 (d : D) : D × Bool :=
  if d.c = 0 then (D.z, true) else
    let r : D := ⟨d.n, (grow1 (strip1 d.c d.e).1 (strip1 d.c d.e).2).1, (grow1 (strip1 d.c d.e).1 (strip1 d.c d.e).2).2⟩
    if vld r then (r, true) else (D.z, false)
def normal2 (d : D) : D := if d.c = 0 then D.z else ⟨d.n, (strip2 d.c d.e).1, (strip2 d.c d.e).2⟩
def fit2 (d : D) : D × Bool :=
  let r : D := ⟨d.n, (grow2 d.c d.e).1, (grow2 d.c d.e).2⟩
  if vld r then (r, true) else (D.z, false)
/-- the value of c at exponent e, in units of 10 to the -24 -/
def U (c e : Int) : Int := c * p10 (e + 24)
theorem U_step {c e : Int} (he : -24 ≤ e) (h : c % 10 = 0) : U (c / 10) (e + 1) = U c e := by
  unfold U
  rw [show e + 1 + 24 = (e + 24) + 1 from by omega, p10_succ (by omega), ← Int.mul_assoc]
  congr 1; omega
theorem U_up {c e : Int} (he : -23 ≤ e) : U (c * 10) (e - 1) = U c e := by
  have := U_step (c := c * 10) (e := e - 1) (by omega) (by omega)
  rw [← this]; congr 1 <;> omega
theorem strip1_ok (c e : Int) (h0 : 0 < c) (he : -24 ≤ e) :
    U (strip1 c e).1 (strip1 c e).2 = U c e ∧ 0 < (strip1 c e).1 ∧ (strip1 c e).1 ≤ c ∧ e ≤ (strip1 c e).2 ∧ ((strip1 c e).2 ≤ 12 ∨ (strip1 c e).2 = e) ∧ ((strip1 c e).1 % 10 ≠ 0 ∨ 12 ≤ (strip1 c e).2) := by
  induction c, e using strip1.induct with
  | case1 c e h ih =>
    obtain ⟨h1, h2, h3⟩ := h
    rw [strip1_yes h1 h2 h3]
    obtain ⟨a, b, d, f, g, i⟩ := ih (by omega) (by omega)
    refine ⟨by rw [a, U_step he h3], b, by omega, by omega, by omega, i⟩
  | case2 c e h =>
    rw [strip1_no (by omega)]
    refine ⟨rfl, h0, Int.le_refl _, Int.le_refl _, .inr rfl, by simp only; omega⟩
theorem grow1_ok (c e : Int) (h0 : 0 < c) (he : -24 ≤ e) :
    U (grow1 c e).1 (grow1 c e).2 = U c e ∧ c ≤ (grow1 c e).1 ∧ (grow1 c e).2 ≤ e ∧ (e ≤ 12 → grow1 c e = (c, e)) ∧ (12 ≤ e → 12 ≤ (grow1 c e).2) ∧ ((grow1 c e).2 ≤ 12 ∨ 999999999 < (grow1 c e).1) := by
  induction c, e using grow1.induct with
  | case1 c e h ih =>
    obtain ⟨h1, h2⟩ := h
    rw [grow1_yes h1 h2]
    obtain ⟨a, b, d, f, g, i⟩ := ih (by omega) (by omega)
    exact ⟨by rw [a, U_up (by omega)], by omega, by omega, by intro; omega, by intro; exact g (by omega), i⟩
  | case2 c e h =>
    rw [grow1_no h]
    exact ⟨rfl, Int.le_refl _, Int.le_refl _, fun _ => rfl, fun h => h, by simp only; omega⟩
theorem strip2_ok (c e : Int) (h0 : 0 < c) (he : -24 ≤ e) :
    U (strip2 c e).1 (strip2 c e).2 = U c e ∧ 0 < (strip2 c e).1 ∧ (strip2 c e).1 ≤ c ∧ e ≤ (strip2 c e).2 ∧ (strip2 c e).1 % 10 ≠ 0 := by
  induction c, e using strip2.induct with
  | case1 c e h ih =>
    obtain ⟨h1, h3⟩ := h
    rw [strip2_yes h1 h3]
    obtain ⟨a, b, d, f, g⟩ := ih (by omega) (by omega)
    exact ⟨by rw [a, U_step he h3], b, by omega, by omega, g⟩
  | case2 c e h =>
    rw [strip2_no (by omega)]
    exact ⟨rfl, h0, Int.le_refl _, Int.le_refl _, by simp only; omega⟩
theorem grow2_ok (c e : Int) (h0 : 0 < c) (he : -24 ≤ e) :
    U (grow2 c e).1 (grow2 c e).2 = U c e ∧ c ≤ (grow2 c e).1 ∧ (grow2 c e).2 ≤ e ∧ (e ≤ 12 → grow2 c e = (c, e)) ∧ (12 ≤ e → 12 ≤ (grow2 c e).2) ∧ ((grow2 c e).2 ≤ 12 ∨ 999999999 < (grow2 c e).1 * 10) := by
  induction c, e using grow2.induct with
  | case1 c e h ih =>
    obtain ⟨h1, h2⟩ := h
    rw [grow2_yes h1 h2]
    obtain ⟨a, b, d, f, g, i⟩ := ih (by omega) (by omega)
    exact ⟨by rw [a, U_up (by omega)], by omega, by omega, by intro; omega, by intro; exact g (by omega), i⟩
  | case2 c e h =>
    rw [grow2_no h]
    exact ⟨rfl, Int.le_refl _, Int.le_refl _, fun _ => rfl, fun h => h, by simp only; omega⟩
/-- two exponents of one amount -/
theorem U_down {c e c' e' : Int} (he : -24 ≤ e) (hle : e ≤ e') (h : U c e = U c' e') : c = c' * p10 (e' - e) := by
  unfold U at h
  rw [show e' + 24 = (e' - e) + (e + 24) from by omega, p10_add (j := e' - e) (k := e + 24) (by omega) (by omega), ← Int.mul_assoc] at h
  exact Int.eq_of_mul_eq_mul_right (by have := p10_pos (e + 24); omega) h
theorem U_div {c e c' e' : Int} (he : -24 ≤ e) (hlt : e < e') (h : U c e = U c' e') : c % 10 = 0 := by
  have h1 := U_down he (by omega) h
  rw [show e' - e = (e' - e - 1) + 1 from by omega, p10_succ (by omega)] at h1
  rw [h1, show c' * (10 * p10 (e' - e - 1)) = (c' * p10 (e' - e - 1)) * 10 from by
    rw [Int.mul_comm 10, Int.mul_assoc]]
  exact Int.mul_emod_left _ _
theorem U_le {c e c' e' : Int} (he : -24 ≤ e) (hle : e ≤ e') (h0 : 0 ≤ c') (h : U c e = U c' e') : c' ≤ c := by
  have h1 := U_down he hle h
  have h2 := p10_pos (e' - e)
  have : c' * 1 ≤ c' * p10 (e' - e) := Int.mul_le_mul_of_nonneg_left (by omega) h0
  omega
theorem U_le10 {c e c' e' : Int} (he : -24 ≤ e) (hlt : e < e') (h0 : 0 ≤ c') (h : U c e = U c' e') : c' * 10 ≤ c := by
  have h1 := U_down he (by omega) h
  rw [show e' - e = (e' - e - 1) + 1 from by omega, p10_succ (by omega)] at h1
  have h2 := p10_pos (e' - e - 1)
  have : c' * 10 * 1 ≤ c' * 10 * p10 (e' - e - 1) := Int.mul_le_mul_of_nonneg_left (by omega) (by omega)
  rw [← Int.mul_assoc] at h1
  omega
/-- normal: valid, 0 in one way alone, and without zeros at its end but at exponent 12 -/
def nrm (d : D) : Prop := vldP d ∧ (d.c = 0 → d.e = 0) ∧ (d.c ≠ 0 → d.c % 10 ≠ 0 ∨ d.e = 12)
/-- the value, with its sign -/
def V (d : D) : Int := if d.n then - U d.c d.e else U d.c d.e
theorem U_pos {c e : Int} (h : 0 < c) : 0 < U c e := Int.mul_pos h (p10_pos _)
theorem U_zero (e : Int) : U 0 e = 0 := by simp [U]
theorem U_nonneg {c e : Int} (h : 0 ≤ c) : 0 ≤ U c e := Int.mul_nonneg h (Int.le_of_lt (p10_pos _))
/-- one value, one sign and one amount -/
theorem V_sign {a b : D} (ha : 0 ≤ a.c) (ha' : a.n = true → 0 < a.c) (hb : 0 ≤ b.c) (hb' : b.n = true → 0 < b.c) (h : V a = V b) : a.n = b.n ∧ U a.c a.e = U b.c b.e := by
  unfold V at h
  have h1 := U_nonneg (e := a.e) ha
  have h2 := U_nonneg (e := b.e) hb
  cases hA : a.n <;> cases hB : b.n <;> simp only [hA, hB, if_true, if_false, Bool.false_eq_true] at h
  · exact ⟨rfl, h⟩
  · have := U_pos (e := b.e) (hb' hB); omega
  · have := U_pos (e := a.e) (ha' hA); omega
  · exact ⟨rfl, by omega⟩
theorem nrm_amount {a b : D} (ha : nrm a) (hb : nrm b) (h : U a.c a.e = U b.c b.e) : a.c = b.c ∧ a.e = b.e := by
  obtain ⟨⟨a1, a2, a3, a4, a5⟩, a6, a7⟩ := ha
  obtain ⟨⟨b1, b2, b3, b4, b5⟩, b6, b7⟩ := hb
  by_cases hz : a.c = 0
  · have : U b.c b.e = 0 := by rw [← h, hz, U_zero]
    have hb0 : b.c = 0 := by
      apply Classical.byContradiction; intro hne
      have := U_pos (c := b.c) (e := b.e) (by omega); omega
    exact ⟨by omega, by rw [a6 hz, b6 hb0]⟩
  have hbz : b.c ≠ 0 := by
    intro hb0
    have := U_pos (c := a.c) (e := a.e) (by omega)
    rw [h, hb0, U_zero] at this; omega
  have he : a.e = b.e := by
    rcases Int.lt_trichotomy a.e b.e with hl | hl | hl
    · have := U_div (by omega) hl h
      rcases a7 hz with g | g <;> omega
    · exact hl
    · have := U_div (by omega) hl h.symm
      rcases b7 hbz with g | g <;> omega
  refine ⟨?_, he⟩
  have h1 := U_le (by omega) (by omega) b1 h
  have h2 := U_le (by omega) (by omega) a1 h.symm
  omega
theorem nrm_uniq {a b : D} (ha : nrm a) (hb : nrm b) (h : V a = V b) : a = b := by
  obtain ⟨h1, h2⟩ := V_sign ha.1.1 ha.1.2.2.2.2 hb.1.1 hb.1.2.2.2.2 h
  obtain ⟨h3, h4⟩ := nrm_amount ha hb h2
  exact D.eq h1 h3 h4
theorem nrm_z : nrm D.z := ⟨vld_z, fun _ => rfl, fun h => absurd rfl h⟩
theorem V_z : V D.z = 0 := by simp [V, D.z, U]
theorem V_zero {d : D} (h : d.c = 0) : V d = 0 := by unfold V; rw [h, U_zero]; simp
/-- what a way to the normal form must give -/
def Fits (v : Int) (r : D × Bool) : Prop :=
  (r.2 = true ∧ nrm r.1 ∧ V r.1 = v) ∨ (r.2 = false ∧ r.1 = D.z ∧ ∀ x, vldP x → V x ≠ v)
theorem Fits.uniq {v : Int} {r s : D × Bool} (hr : Fits v r) (hs : Fits v s) : r = s := by
  rcases hr with ⟨a, b, c⟩ | ⟨a, b, c⟩ <;> rcases hs with ⟨d, e, f⟩ | ⟨d, e, f⟩
  · exact Prod.ext (nrm_uniq b e (by omega)) (by rw [a, d])
  · exact absurd c (f _ b.1)
  · exact absurd f (c _ e.1)
  · exact Prod.ext (by rw [b, e]) (by rw [a, d])
/-- an amount (c, e) of this value that is no valid one, in a form from which none can be made -/
theorem none_fits {n : Bool} {c e : Int} (hc : 0 < c) (he : -24 ≤ e) (h12 : c % 10 ≠ 0 ∨ 12 ≤ e) (hout : ¬ vldP ⟨n, c, e⟩)
    (hgrow : e ≤ 12 ∨ 999999999 < c * 10) : ∀ x, vldP x → V x ≠ V ⟨n, c, e⟩ := by
  intro x hx h
  obtain ⟨x1, x2, x3, x4, x5⟩ := hx
  obtain ⟨h1, h2⟩ := V_sign x1 x5 (b := ⟨n, c, e⟩) (by simp only; omega) (by simp only; omega) h
  simp only at h1 h2
  have hx0 : 0 < x.c := by
    apply Classical.byContradiction; intro hne
    have : x.c = 0 := by omega
    rw [this, U_zero] at h2
    have := U_pos (e := e) hc; omega
  by_cases hlt : e < x.e
  · have := U_div he hlt h2.symm
    omega
  · by_cases h13 : 12 < e
    · have := U_le10 (c := x.c) (e := x.e) (c' := c) (e' := e) (by omega) (by omega) (by omega) h2
      omega
    · have := U_le (c := x.c) (e := x.e) (c' := c) (e' := e) (by omega) (by omega) (by omega) h2
      apply hout
      exact ⟨by simp only; omega, by simp only; omega, by simp only; omega, by simp only; omega, by simp only; intro; omega⟩
theorem V_mk {n : Bool} {c e c' e' : Int} (h : U c e = U c' e') : V ⟨n, c, e⟩ = V ⟨n, c', e'⟩ := by
  unfold V; simp only; rw [h]
theorem fit1_ok (d : D) (h0 : 0 ≤ d.c) (he : -24 ≤ d.e) : Fits (V d) (fit1 d) := by
  unfold fit1
  by_cases hz : d.c = 0
  · rw [if_pos hz]
    exact .inl ⟨rfl, nrm_z, by rw [V_z, V_zero hz]⟩
  rw [if_neg hz]
  obtain ⟨a1, a2, a3, a4, a5, a6⟩ := strip1_ok d.c d.e (by omega) he
  obtain ⟨b1, b2, b3, b4, b5, b6⟩ := grow1_ok (strip1 d.c d.e).1 (strip1 d.c d.e).2 a2 (by omega)
  generalize hs : strip1 d.c d.e = s at *
  generalize hg : grow1 s.1 s.2 = g at *
  have hv : V ⟨d.n, g.1, g.2⟩ = V d := V_mk (by rw [b1, a1])
  have h12 : g.1 % 10 ≠ 0 ∨ 12 ≤ g.2 := by
    by_cases h : s.2 ≤ 12
    · have := b4 h; rw [this]; simp only; omega
    · right; exact b5 (by omega)
  have h24 : -24 ≤ g.2 := by
    by_cases h : s.2 ≤ 12
    · have := b4 h; rw [this]; simp only; omega
    · have := b5 (by omega); omega
  simp only
  by_cases hval : vld ⟨d.n, g.1, g.2⟩ = true
  · rw [if_pos hval]
    have hv' := vld_iff.1 hval
    refine .inl ⟨rfl, ⟨hv', fun h => ?_, fun h => ?_⟩, hv⟩
    · simp only at h; omega
    · have := hv'.2.2.2.1; simp only at this ⊢; omega
  · rw [if_neg hval]
    refine .inr ⟨rfl, rfl, ?_⟩
    rw [← hv]
    exact none_fits (by omega) (by omega) h12 (fun h => hval (vld_iff.2 h)) (by omega)
theorem fit2_ok (d : D) (h0 : 0 ≤ d.c) (he : -24 ≤ d.e) : Fits (V d) (fit2 (normal2 d)) := by
  unfold normal2
  by_cases hz : d.c = 0
  · rw [if_pos hz]
    have : fit2 D.z = (D.z, true) := by
      unfold fit2
      rw [grow2_no (by simp [D.z])]
      rfl
    rw [this]
    exact .inl ⟨rfl, nrm_z, by rw [V_z, V_zero hz]⟩
  rw [if_neg hz]
  unfold fit2
  obtain ⟨a1, a2, a3, a4, a5⟩ := strip2_ok d.c d.e (by omega) he
  generalize hs : strip2 d.c d.e = s at *
  simp only
  obtain ⟨b1, b2, b3, b4, b5, b6⟩ := grow2_ok s.1 s.2 a2 (by omega)
  generalize hg : grow2 s.1 s.2 = g at *
  have hv : V ⟨d.n, g.1, g.2⟩ = V d := V_mk (by rw [b1, a1])
  have h12 : g.1 % 10 ≠ 0 ∨ 12 ≤ g.2 := by
    by_cases h : s.2 ≤ 12
    · have := b4 h; rw [this]; simp only; omega
    · right; exact b5 (by omega)
  have h24 : -24 ≤ g.2 := by
    by_cases h : s.2 ≤ 12
    · have := b4 h; rw [this]; simp only; omega
    · have := b5 (by omega); omega
  by_cases hval : vld ⟨d.n, g.1, g.2⟩ = true
  · rw [if_pos hval]
    have hv' := vld_iff.1 hval
    refine .inl ⟨rfl, ⟨hv', fun h => ?_, fun h => ?_⟩, hv⟩
    · simp only at h; omega
    · have := hv'.2.2.2.1; simp only at this ⊢; omega
  · rw [if_neg hval]
    refine .inr ⟨rfl, rfl, ?_⟩
    rw [← hv]
    exact none_fits (by omega) (by omega) h12 (fun h => hval (vld_iff.2 h)) (by omega)
/-- both ways agree -/
theorem fit_eq (d : D) (h0 : 0 ≤ d.c) (he : -24 ≤ d.e) : fit2 (normal2 d) = fit1 d := (fit2_ok d h0 he).uniq (fit1_ok d h0 he)

/-! ### Part 2: the functions of chapter 1, as the program writes them (..I) and as the model does (..S), and that they agree -/
theorem fit1_valid {d : D} (h : vldP d) : (fit1 d).2 = true ∧ nrm (fit1 d).1 ∧ V (fit1 d).1 = V d := by
  rcases fit1_ok d h.1 (by have := h.2.2.1; omega) with g | g
  · exact g
  · exact absurd rfl (g.2.2 d h)
def nd (d : D) : D := if vld d then (fit1 d).1 else D.z
theorem nd_ok {d : D} (h : vldP d) : nrm (nd d) ∧ V (nd d) = V d := by
  unfold nd; rw [if_pos (vld_iff.2 h)]; exact (fit1_valid h).2
theorem nd_no {d : D} (h : ¬ vldP d) : nd d = D.z := by
  unfold nd; rw [if_neg]; rwa [vld_iff]
theorem nd_nrm {d : D} (h : nrm d) : nd d = d := nrm_uniq (nd_ok h.1).1 h (nd_ok h.1).2
theorem nd_valid (d : D) : vldP (nd d) := by
  by_cases h : vldP d
  · exact (nd_ok h).1.1
  · rw [nd_no h]; exact vld_z
def neg (d : D) : D := if vld d then ⟨decide (0 < d.c) && !d.n, d.c, d.e⟩ else D.z
def size (d : D) : Int := dc d.c + d.e
theorem p10_10 : p10 10 = 10000000000 := rfl
/-- the normal form without a bound on the exponent -/
theorem normal2_ok {d : D} (h : vldP d) : V (normal2 d) = V d ∧ ((normal2 d).c = 0 ↔ d.c = 0) ∧ 0 ≤ (normal2 d).c ∧ (normal2 d).c ≤ 999999999 ∧ -12 ≤ (normal2 d).e ∧ (d.c ≠ 0 → (normal2 d).c % 10 ≠ 0 ∧ (normal2 d).n = d.n) ∧ (d.c = 0 → normal2 d = D.z) := by
  obtain ⟨h1, h2, h3, h4, h5⟩ := h
  unfold normal2
  by_cases hz : d.c = 0
  · rw [if_pos hz]
    exact ⟨by rw [V_z, V_zero hz], by simp [hz, D.z], by simp [D.z], by simp [D.z], by simp [D.z], fun g => absurd hz g, fun _ => rfl⟩
  · rw [if_neg hz]
    obtain ⟨a1, a2, a3, a4, a5⟩ := strip2_ok d.c d.e (by omega) (by omega)
    exact ⟨V_mk a1, by simp only; omega, by simp only; omega, by simp only; omega, by simp only; omega, fun _ => ⟨a5, rfl⟩, fun g => absurd g hz⟩
def ndS (d : D) : D := if vld d then (fit2 (normal2 d)).1 else D.z
theorem nd_eq (d : D) : ndS d = nd d := by
  unfold ndS nd
  by_cases h : vldP d
  · rw [if_pos (vld_iff.2 h), if_pos (vld_iff.2 h), fit_eq d h.1 (by have := h.2.2.1; omega)]
  · rw [if_neg (by rwa [vld_iff]), if_neg (by rwa [vld_iff])]
theorem guard3 (v : Bool) (k lo hi : Int) : (!v || !(decide (lo ≤ k) && decide (k ≤ hi))) = (!v || decide (k < lo) || decide (hi < k)) := by
  rw [Bool.eq_iff_iff]; cases v <;> simp <;> omega
def inr (n lo hi : Int) : Bool := decide (lo ≤ n) && decide (n ≤ hi)
/-- rounding a coefficient by k digits, to even -/
def rq (c k : Int) : Int := if 2 * (c % p10 k) > p10 k ∨ 2 * (c % p10 k) = p10 k ∧ c / p10 k % 2 = 1 then c / p10 k + 1 else c / p10 k
def dropI (d : D) (k : Int) : D := if k ≤ 0 then d else if 9 < k then D.z else ⟨d.n, rq d.c k, d.e + k⟩
def roundedS (d : D) (x : Int) : D :=
  if x - d.e ≤ 0 ∨ d.c = 0 then d else if 9 < x - d.e then D.z else ⟨d.n && decide (0 < rq d.c (x - d.e)), rq d.c (x - d.e), x⟩
def roundI (d : D) (p : Int) : D := if !vld d || decide (p < -12) || decide (12 < p) then D.z else (fit1 (dropI d (-p - d.e))).1
def roundDI (d : D) (g : Int) : D := if !vld d || decide (g < 1) || decide (9 < g) then D.z else (fit1 (dropI d (dc d.c - g))).1
def roundDS (d : D) (g : Int) : D := if !vld d || decide (d.c = 0) || !inr g 1 9 then D.z else (fit2 (normal2 (roundedS d (size d - g)))).1
theorem rq_bd {c k : Int} (h0 : 0 ≤ c) (hk : 1 ≤ k) : 0 ≤ rq c k ∧ rq c k ≤ c / 10 + 1 := by
  have hp := p10_mono (j := 1) (k := k) (by omega) hk
  rw [show p10 1 = 10 from rfl] at hp
  have h1 : 0 ≤ c / p10 k := Int.ediv_nonneg h0 (by omega)
  have h2 : c / p10 k ≤ c / 10 := by
    apply Int.le_ediv_of_mul_le (by omega)
    have : c / p10 k * 10 ≤ c / p10 k * p10 k := Int.mul_le_mul_of_nonneg_left hp h1
    have := Int.ediv_mul_le c (show p10 k ≠ 0 from by omega)
    omega
  unfold rq; split <;> omega
theorem fit_cz (n : Bool) (e : Int) : fit1 ⟨n, 0, e⟩ = (D.z, true) := by unfold fit1; rw [if_pos rfl]
theorem drop_eq {d : D} (h : vldP d) (x : Int) (hx : -24 ≤ x) : fit2 (normal2 (roundedS d x)) = fit1 (dropI d (x - d.e)) := by
  obtain ⟨h1, h2, h3, h4, h5⟩ := h
  unfold roundedS dropI
  by_cases hk : x - d.e ≤ 0
  · rw [if_pos (.inl hk), if_pos hk, fit_eq d h1 (by omega)]
  rw [if_neg hk]
  by_cases hz : d.c = 0
  · rw [if_pos (.inr hz), fit_eq d h1 (by omega)]
    have e0 : fit1 d = (D.z, true) := by unfold fit1; rw [if_pos hz]
    rw [e0]
    split
    · exact (fit_cz false 0).symm
    · have hp := p10_pos (x - d.e)
      have : rq d.c (x - d.e) = 0 := by
        unfold rq; rw [hz, Int.zero_emod, Int.zero_ediv, if_neg (by omega)]
      rw [this, fit_cz]
  rw [if_neg (by omega)]
  by_cases h9 : 9 < x - d.e
  · rw [if_pos h9, if_pos h9]
    exact fit_eq D.z (by simp [D.z]) (by simp [D.z])
  · rw [if_neg h9, if_neg h9, show d.e + (x - d.e) = x from by omega]
    have hb := rq_bd (c := d.c) (k := x - d.e) h1 (by omega)
    rw [fit_eq _ (by simp only; omega) (by simp only; omega)]
    by_cases hq : rq d.c (x - d.e) = 0
    · rw [hq, fit_cz, fit_cz]
    · rw [show decide (0 < rq d.c (x - d.e)) = true from by simp; omega, Bool.and_true]
theorem roundD_eq (d : D) (g : Int) : roundDS d g = roundDI d g := by
  unfold roundDS roundDI inr
  by_cases hg : (!vld d || decide (g < 1) || decide (9 < g)) = true
  · rw [if_pos hg, if_pos]
    rw [← guard3] at hg
    cases h1 : vld d <;> rw [h1] at hg <;> simp at hg ⊢
    cases h2 : decide (d.c = 0) <;> simp at h2 ⊢
    · right; exact hg
    · left; exact h2
  · rw [if_neg hg]
    have h : vldP d ∧ 1 ≤ g := by
      simp at hg; exact ⟨vld_iff.1 hg.1.1, hg.1.2⟩
    rw [← guard3] at hg
    by_cases hz : d.c = 0
    · rw [if_pos (by simp [hz])]
      unfold dropI
      rw [if_pos (by rw [dc_zero (by omega)]; omega)]
      unfold fit1; rw [if_pos hz]
    · rw [if_neg (by simpa [hz] using hg), drop_eq h.1 _ (by have := dc_one (n := d.c) (by have := h.1.1; omega); have := h.1.2.2.1; unfold size; simp at hg; omega)]
      congr 2; unfold size; congr 1; omega
def placesI (d : D) : Int := if vld d then max 0 (- (nd d).e) else -1
def placesS (d : D) : Int := if vld d then max 0 (0 - (normal2 d).e) else -1
theorem nd_e {d : D} (h : vldP d) : (nd d).e = min (normal2 d).e 12 := by
  have e := nd_eq d
  obtain ⟨n1, n2⟩ := nd_ok h
  have m12 := n1.1.2.2.2.1
  rw [← e] at m12 ⊢
  obtain ⟨a1, a2, a3, a4, a5, a6, a7⟩ := normal2_ok h
  by_cases hz : d.c = 0
  · unfold ndS; rw [if_pos (vld_iff.2 h), a7 hz]
    have : fit2 D.z = (D.z, true) := by rw [show D.z = normal2 D.z from rfl, fit_eq D.z (by simp [D.z]) (by simp [D.z])]; exact fit_cz false 0
    rw [this]; rfl
  have hp := a6 hz
  have hg := grow2_ok (normal2 d).c (normal2 d).e (by omega) (by omega)
  unfold ndS at m12 ⊢
  rw [if_pos (vld_iff.2 h)] at m12 ⊢
  have hv := fit2_ok d h.1 (by have := h.2.2.1; omega)
  have hv2 : (fit2 (normal2 d)).2 = true := by
    rcases hv with g | g
    · exact g.1
    · exact absurd rfl (g.2.2 d h)
  unfold fit2 at m12 hv2 ⊢
  simp only at m12 hv2 ⊢
  split at hv2
  · rename_i hw
    rw [if_pos hw] at m12 ⊢
    simp only at m12 ⊢
    by_cases h12 : (normal2 d).e ≤ 12
    · rw [hg.2.2.2.1 h12]; simp only; omega
    · have := hg.2.2.2.2.1 (by omega); omega
  · simp at hv2
theorem places_eq (d : D) : placesS d = placesI d := by
  unfold placesS placesI
  by_cases h : vldP d
  · rw [if_pos (vld_iff.2 h), if_pos (vld_iff.2 h), nd_e h]; omega
  · rw [if_neg (by rwa [vld_iff]), if_neg (by rwa [vld_iff])]
theorem fit1_of {n : Bool} {c e c1 e1 c2 e2 : Int} (hz : c ≠ 0) (h1 : strip1 c e = (c1, e1)) (h2 : grow1 c1 e1 = (c2, e2)) :
    fit1 ⟨n, c, e⟩ = if vld ⟨n, c2, e2⟩ then (⟨n, c2, e2⟩, true) else (D.z, false) := by
  unfold fit1; simp only; rw [if_neg hz, h1]; simp only; rw [h2]
theorem p10_le18 {k : Int} (h0 : 0 ≤ k) (h : k ≤ 18) : p10 k ≤ 1000000000000000000 := by
  have := p10_mono h0 h
  have e : p10 18 = 1000000000000000000 := rfl
  omega
theorem p10_le9 {k : Int} (h0 : 0 ≤ k) (h : k ≤ 9) : p10 k ≤ 1000000000 := by
  have := p10_mono h0 h
  have e : p10 9 = 1000000000 := rfl
  omega
end Fd
/- More plain mathematics of decimals: bounds for the model's own way. No Go here. -/
namespace Fd
theorem normal2_bd {d : D} (h0 : 0 ≤ d.c) (he : -24 ≤ d.e) : 0 ≤ (normal2 d).c ∧ (normal2 d).c ≤ d.c ∧ -24 ≤ (normal2 d).e := by
  unfold normal2
  by_cases hz : d.c = 0
  · rw [if_pos hz]; simp [D.z, hz]
  · rw [if_neg hz]
    obtain ⟨a1, a2, a3, a4, a5⟩ := strip2_ok d.c d.e (by omega) he
    exact ⟨by simp only; omega, a3, by simp only; omega⟩
/-- each zero that is struck divides by ten: no more than 20 are -/
theorem strip2_e (c e : Int) (h0 : 0 < c) : (strip2 c e).2 ≤ e + dc c := by
  induction c, e using strip2.induct with
  | case1 c e h ih =>
    obtain ⟨h1, h3⟩ := h
    rw [strip2_yes h1 h3, dc_pos h1]
    have := ih (by omega); omega
  | case2 c e h =>
    rw [strip2_no (by omega)]
    have := dc_nonneg c; simp only; omega
theorem dc_le19 {n : Int} (h : n ≤ 2000000000000000000) : dc n ≤ 19 := by
  by_cases h0 : 0 < n
  · have b := dc_ge h0
    apply Int.not_lt.1; intro hlt
    have := p10_mono (j := 19) (k := dc n - 1) (by omega) (by omega)
    have : p10 19 = 10000000000000000000 := rfl
    omega
  · rw [dc_zero (by omega)]; omega
theorem normal2_e {d : D} (h1 : d.c ≤ 2000000000000000000) (he' : -24 ≤ d.e) (he : d.e ≤ 24) : (normal2 d).e ≤ 43 := by
  unfold normal2
  by_cases hz : d.c ≤ 0
  · by_cases hz0 : d.c = 0
    · rw [if_pos hz0]; simp [D.z]
    · rw [if_neg hz0]; simp only; rw [strip2]; rw [if_neg (by omega)]; simp only; omega
  · rw [if_neg (by omega)]
    have := strip2_e d.c d.e (by omega)
    have := dc_le19 h1
    simp only; omega
end Fd
