import Derived.Test.YtebheehjhnaklaaGreatDoorE5
import Derived.Test.YtebheehjhnaklaaGreatDoorS6
import Derived.Test.YtebheehjhnaklaaGreatDoorZ3
namespace Go.Proofs.YtebheehjhnaklaaGreatDoor
open Go.RowKit
theorem zeros_snoc (m : Nat) : zeros m ++ [48] = zeros (m + 1) := by simp [zeros, List.replicate_succ']
theorem zeros_add (a b : Nat) : zeros a ++ zeros b = zeros (a + b) := by simp [zeros]
/-- a number with zeros at its end -/
theorem digs_strip (c e : Int) (h : 0 < c) : e ≤ (Fd.strip2 c e).2 ∧ 0 < (Fd.strip2 c e).1 ∧ digs false 10 c.toNat = digs false 10 (Fd.strip2 c e).1.toNat ++ zeros ((Fd.strip2 c e).2 - e).toNat ∧ Fd.dc (Fd.strip2 c e).1 + (Fd.strip2 c e).2 = Fd.dc c + e := by
  induction c, e using Fd.strip2.induct with
  | case1 c e hc ih =>
    obtain ⟨h1, h3⟩ := hc
    rw [Fd.strip2_yes h1 h3]
    obtain ⟨a1, a0, a2, a3⟩ := ih (by omega)
    refine ⟨by omega, a0, ?_, ?_⟩
    · have hd : c.toNat / 10 = (c / 10).toNat := by omega
      have hm : c.toNat % 10 = 0 := by omega
      rw [digs_ge (by omega) (show 10 ≤ c.toNat by omega), hd, hm, a2, show dch false 0 = 48 from rfl, List.append_assoc, zeros_snoc]
      congr 2
      omega
    · rw [a3, Fd.dc_pos h]
      omega
  | case2 c e hc =>
    rw [Fd.strip2_no (by omega)]
    refine ⟨Int.le_refl _, h, ?_, rfl⟩
    show _ = digs false 10 c.toNat ++ zeros (e - e).toNat
    rw [show (e - e).toNat = 0 by omega]
    show _ = _ ++ []
    rw [List.append_nil]
theorem digs_dc {c : Int} (h : 0 < c) : ((digs false 10 c.toNat).length : Int) = Fd.dc c := by
  have h1 := Fd.dc_one h
  have h2 := Fd.dc_ge h
  have h3 := Fd.dc_lt c
  obtain ⟨m, hm⟩ : ∃ m : Nat, Fd.dc c = m + 1 := ⟨(Fd.dc c - 1).toNat, by omega⟩
  have e1 : Fd.p10 (Fd.dc c) = ((10 ^ (m + 1) : Nat) : Int) := by
    rw [hm]
    show (10 : Int) ^ ((m : Int) + 1).toNat = _
    rw [show ((m : Int) + 1).toNat = m + 1 by omega]
    push_cast
    rfl
  have e2 : Fd.p10 (Fd.dc c - 1) = ((10 ^ m : Nat) : Int) := by
    rw [hm]
    show (10 : Int) ^ ((m : Int) + 1 - 1).toNat = _
    rw [show ((m : Int) + 1 - 1).toNat = m by omega]
    push_cast
    rfl
  rw [e1] at h3
  rw [e2] at h2
  have := digs_length (up := false) (b := 10) (by omega) m c.toNat (by omega) (.inr (by omega))
  omega
/-- the digits that are shown of c with g digits, and the power of the first one -/
structure Sci (c e g : Int) (R : Fd.D) (r : Fd.D) (pw : Int) : Prop where
  rc : 0 < R.c
  rb : R.c ≤ 999999999
  eb : e ≤ R.e ∧ R.e ≤ e + 9
  st : Fd.strip2 R.c R.e = (r.c, r.e)
  pws : pw = Fd.dc R.c + R.e - 1
  pb : pw ≤ e + 9
  fx : ∀ (e' : Int) (p : Nat), e' + p = e + g - 1 - pw → ∃ (X y : Int), 0 < X ∧ (∃ E, (Fd.strip2 X E).1 = r.c) ∧ 0 ≤ y ∧ fxD c e' p = digs false 10 X.toNat ++ zeros y.toNat ∧ Fd.dc X + y = g
theorem fxC_drop (c e' : Int) (p : Nat) (k : Int) (hk : -(p : Int) - e' = k) : fxC c e' p = (if k ≤ 0 then c else if 9 < k then 0 else Fd.rq c k).toNat := by
  unfold fxC Fd.dropI
  rw [hk]
  split
  · rfl
  · split <;> rfl
theorem rq_bounds {c g k : Int} (hg : 1 ≤ g) (hk : 0 < k) (hD : Fd.dc c = g + k) (hc : 0 < c) : Fd.p10 (g - 1) ≤ Fd.rq c k ∧ Fd.rq c k ≤ Fd.p10 g ∧ (Fd.rq c k = Fd.p10 g → Fd.rq c (k + 1) = Fd.p10 (g - 1)) := by
  have h2 := Fd.dc_ge hc
  have h3 := Fd.dc_lt c
  rw [hD] at h2 h3
  have hP := Fd.p10_pos k
  have hG := Fd.p10_pos (g - 1)
  have a1 : Fd.p10 (g + k) = 10 * (Fd.p10 (g - 1) * Fd.p10 k) := by
    rw [Fd.p10_add (by omega) (by omega), show g = (g - 1) + 1 by omega, Fd.p10_succ (by omega), show (g - 1) + 1 - 1 = g - 1 by omega, Int.mul_assoc]
  have a2 : Fd.p10 (g + k - 1) = Fd.p10 (g - 1) * Fd.p10 k := by
    rw [show g + k - 1 = (g - 1) + k by omega, Fd.p10_add (by omega) (by omega)]
  have a3 : Fd.p10 g = 10 * Fd.p10 (g - 1) := by
    rw [show g = (g - 1) + 1 by omega, Fd.p10_succ (by omega), show (g - 1) + 1 - 1 = g - 1 by omega]
  have a4 : Fd.p10 (k + 1) = 10 * Fd.p10 k := Fd.p10_succ (by omega)
  rw [a1] at h3
  rw [a2] at h2
  rw [a3]
  unfold Fd.rq
  rw [a4]
  generalize Fd.p10 k = P at *
  generalize Fd.p10 (g - 1) = G at *
  have hq1 : G ≤ c / P := Int.le_ediv_of_mul_le hP h2
  have hq2 : c / P < 10 * G := Int.ediv_lt_of_lt_mul hP (by rw [Int.mul_assoc]; exact h3)
  have hr0 := Int.emod_nonneg c (show P ≠ 0 by omega)
  have hr1 := Int.emod_lt_of_pos c hP
  have hdm : P * (c / P) + c % P = c := Int.mul_ediv_add_emod c P
  refine ⟨by split <;> omega, by split <;> omega, fun h => ?_⟩
  have hinc : 2 * (c % P) > P ∨ 2 * (c % P) = P ∧ c / P % 2 = 1 := by
    by_cases hh : 2 * (c % P) > P ∨ 2 * (c % P) = P ∧ c / P % 2 = 1
    · exact hh
    · rw [if_neg hh] at h; omega
  rw [if_pos hinc] at h
  have hqe : c / P = 10 * G - 1 := by omega
  have hX : P * (c / P) = 10 * (G * P) - P := by
    rw [hqe, Int.mul_sub, Int.mul_one]
    congr 1
    rw [Int.mul_left_comm, Int.mul_comm P G]
  have hge : 10 * (G * P) - P + c % P = c := by omega
  have hGP : (G - 1) * (10 * P) = 10 * (G * P) - 10 * P := by
    rw [Int.sub_mul, Int.one_mul, Int.mul_left_comm]
  have hGP2 : G * (10 * P) = 10 * (G * P) := Int.mul_left_comm G 10 P
  have q1 : G - 1 ≤ c / (10 * P) := Int.le_ediv_of_mul_le (by omega) (by rw [hGP]; omega)
  have q2 : c / (10 * P) < G := Int.ediv_lt_of_lt_mul (by omega) (by rw [hGP2]; omega)
  have hqe2 : c / (10 * P) = G - 1 := by omega
  have hdm2 : 10 * P * (c / (10 * P)) + c % (10 * P) = c := Int.mul_ediv_add_emod c (10 * P)
  have hX2 : 10 * P * (c / (10 * P)) = 10 * (G * P) - 10 * P := by rw [hqe2, Int.mul_comm, hGP]
  rw [if_pos (by omega), hqe2]
  omega
/-- the rounded decimal, the one without zeros, and the power of its first digit -/
theorem sci_of (n : Bool) {c e g : Int} (h0 : 0 < c) (h1 : c ≤ 999999999) (hg1 : 1 ≤ g) (hg9 : g ≤ 9) :
    Sci c e g (Fd.dropI ⟨n, c, e⟩ (Fd.dc c - g)) (Fd.normal2 (Fd.roundedS ⟨n, c, e⟩ (Fd.size ⟨n, c, e⟩ - g))) (Fd.dc (Fd.dropI ⟨n, c, e⟩ (Fd.dc c - g)).c + (Fd.dropI ⟨n, c, e⟩ (Fd.dc c - g)).e - 1) := by
  have hD1 := Fd.dc_one h0
  have hD9 := Fd.dc_le9 h1
  have hsz : Fd.size ⟨n, c, e⟩ - g - e = Fd.dc c - g := by show Fd.dc c + e - g - e = _; omega
  have hx : Fd.size ⟨n, c, e⟩ - g = e + (Fd.dc c - g) := by show Fd.dc c + e - g = _; omega
  by_cases hk : Fd.dc c - g ≤ 0
  · have eR : Fd.dropI ⟨n, c, e⟩ (Fd.dc c - g) = ⟨n, c, e⟩ := by unfold Fd.dropI; rw [if_pos hk]
    have eS : Fd.roundedS ⟨n, c, e⟩ (Fd.size ⟨n, c, e⟩ - g) = ⟨n, c, e⟩ := by unfold Fd.roundedS; rw [if_pos (.inl (by show Fd.size ⟨n, c, e⟩ - g - e ≤ 0; omega))]
    have eN : Fd.normal2 ⟨n, c, e⟩ = ⟨n, (Fd.strip2 c e).1, (Fd.strip2 c e).2⟩ := by unfold Fd.normal2; rw [if_neg (by show ¬ c = 0; omega)]
    rw [eR, eS, eN]
    refine ⟨h0, by show c ≤ _; omega, ⟨Int.le_refl _, by show e ≤ e + 9; omega⟩, rfl, rfl, by show Fd.dc c + e - 1 ≤ _; omega, fun e' p hp => ?_⟩
    have hp' : e' + p = g - Fd.dc c := by
      have : e' + (p : Int) = e + g - 1 - (Fd.dc c + e - 1) := hp
      omega
    have hC : fxC c e' p = c.toNat := by rw [fxC_drop c e' p (Fd.dc c - g) (by omega), if_pos hk]
    refine ⟨c, g - Fd.dc c, h0, ⟨e, rfl⟩, by omega, ?_, by omega⟩
    unfold fxD
    rw [hC, if_neg (by omega), hp']
  · have hkp : 0 < Fd.dc c - g := by omega
    have h9 : ¬ 9 < Fd.dc c - g := by omega
    obtain ⟨q1, q2, q3⟩ := rq_bounds (c := c) (g := g) (k := Fd.dc c - g) hg1 hkp (by omega) h0
    have eR : Fd.dropI ⟨n, c, e⟩ (Fd.dc c - g) = ⟨n, Fd.rq c (Fd.dc c - g), e + (Fd.dc c - g)⟩ := by unfold Fd.dropI; rw [if_neg hk, if_neg h9]
    have eS : Fd.roundedS ⟨n, c, e⟩ (Fd.size ⟨n, c, e⟩ - g) = ⟨n && decide (0 < Fd.rq c (Fd.dc c - g)), Fd.rq c (Fd.dc c - g), e + (Fd.dc c - g)⟩ := by
      unfold Fd.roundedS
      rw [if_neg (by show ¬ (Fd.size ⟨n, c, e⟩ - g - e ≤ 0 ∨ c = 0); omega), if_neg (by show ¬ 9 < Fd.size ⟨n, c, e⟩ - g - e; omega)]
      show (⟨n && decide (0 < Fd.rq c (Fd.size ⟨n, c, e⟩ - g - e)), Fd.rq c (Fd.size ⟨n, c, e⟩ - g - e), Fd.size ⟨n, c, e⟩ - g⟩ : Fd.D) = _
      rw [hsz, hx]
    have hG := Fd.p10_pos (g - 1)
    have hrq : 0 < Fd.rq c (Fd.dc c - g) := by omega
    have hp9 : Fd.p10 g ≤ 100000000 := by
      have := Fd.p10_mono (j := g) (k := 8) (by omega) (by omega)
      rw [show Fd.p10 8 = 100000000 from rfl] at this
      exact this
    have eN : Fd.normal2 ⟨n && decide (0 < Fd.rq c (Fd.dc c - g)), Fd.rq c (Fd.dc c - g), e + (Fd.dc c - g)⟩ = ⟨n && decide (0 < Fd.rq c (Fd.dc c - g)), (Fd.strip2 (Fd.rq c (Fd.dc c - g)) (e + (Fd.dc c - g))).1, (Fd.strip2 (Fd.rq c (Fd.dc c - g)) (e + (Fd.dc c - g))).2⟩ := by
      unfold Fd.normal2
      rw [if_neg (by show ¬ Fd.rq c (Fd.dc c - g) = 0; omega)]
    have hdl : Fd.dc (Fd.rq c (Fd.dc c - g)) ≤ g + 1 := by
      by_cases hcar : Fd.rq c (Fd.dc c - g) = Fd.p10 g
      · rw [hcar, Fd.dc_eq (n := Fd.p10 g) (k := g + 1) (by omega) (by rw [show g + 1 - 1 = g by omega]; exact Int.le_refl _) (by rw [Fd.p10_succ (by omega)]; have := Fd.p10_pos g; omega)]
        exact Int.le_refl _
      · rw [Fd.dc_eq hg1 q1 (by omega)]
        omega
    rw [eR, eS, eN]
    refine ⟨hrq, by show Fd.rq c (Fd.dc c - g) ≤ _; omega, ⟨by show e ≤ e + (Fd.dc c - g); omega, by show e + (Fd.dc c - g) ≤ e + 9; omega⟩, rfl, rfl, by show Fd.dc (Fd.rq c (Fd.dc c - g)) + (e + (Fd.dc c - g)) - 1 ≤ e + 9; omega, fun e' p hp => ?_⟩
    have hp' : e' + (p : Int) = e + g - 1 - (Fd.dc (Fd.rq c (Fd.dc c - g)) + (e + (Fd.dc c - g)) - 1) := hp
    by_cases hcar : Fd.rq c (Fd.dc c - g) = Fd.p10 g
    · have hdg : Fd.dc (Fd.p10 g) = g + 1 := Fd.dc_eq (by omega) (by rw [show g + 1 - 1 = g by omega]; exact Int.le_refl _) (by rw [Fd.p10_succ (by omega)]; have := Fd.p10_pos g; omega)
      have hdg1 : Fd.dc (Fd.p10 (g - 1)) = g := Fd.dc_eq (by omega) (Int.le_refl _) (by
        have := Fd.p10_succ (k := g - 1) (by omega)
        rw [show g - 1 + 1 = g by omega] at this
        omega)
      rw [hcar, hdg] at hp'
      have hC : fxC c e' p = (Fd.p10 (g - 1)).toNat := by
        rw [fxC_drop c e' p (Fd.dc c - g + 1) (by omega), if_neg (by omega), if_neg (by omega), q3 hcar]
      have hs : Fd.p10 g = 10 * Fd.p10 (g - 1) := by
        have := Fd.p10_succ (k := g - 1) (by omega)
        rw [show g - 1 + 1 = g by omega] at this
        exact this
      refine ⟨Fd.p10 (g - 1), 0, hG, ⟨e + (Fd.dc c - g) + 1, ?_⟩, by omega, ?_, by omega⟩
      · show _ = (Fd.strip2 (Fd.rq c (Fd.dc c - g)) (e + (Fd.dc c - g))).1
        have hst : Fd.strip2 (Fd.p10 g) (e + (Fd.dc c - g)) = Fd.strip2 (Fd.p10 (g - 1)) (e + (Fd.dc c - g) + 1) := by
          rw [Fd.strip2_yes (c := Fd.p10 g) (by omega) (by omega), show Fd.p10 g / 10 = Fd.p10 (g - 1) by omega]
        rw [hcar, hst]
      · unfold fxD
        rw [hC, if_neg (by omega), show (e' + (p : Int)).toNat = 0 by omega]
        rfl
    · have hdg : Fd.dc (Fd.rq c (Fd.dc c - g)) = g := Fd.dc_eq hg1 q1 (by omega)
      rw [hdg] at hp'
      have hC : fxC c e' p = (Fd.rq c (Fd.dc c - g)).toNat := by
        rw [fxC_drop c e' p (Fd.dc c - g) (by omega), if_neg hk, if_neg h9]
      refine ⟨Fd.rq c (Fd.dc c - g), 0, hrq, ⟨_, rfl⟩, by omega, ?_, by omega⟩
      unfold fxD
      rw [hC, if_neg (by omega), show (e' + (p : Int)).toNat = 0 by omega]
      rfl
/-- the g digits that are shown -/
def gL (rc g : Int) : List UInt8 := digs false 10 rc.toNat ++ zeros (g - Fd.dc rc).toNat
structure Show (c e g : Int) (r : Fd.D) (pw : Int) : Prop where
  rc : 0 < r.c
  rb : r.c ≤ 999999999
  rd : Fd.dc r.c ≤ g
  pws : Fd.dc r.c + r.e - 1 = pw
  len : ((gL r.c g).length : Int) = g
  fx : ∀ (e' : Int) (p : Nat), e' + p = e + g - 1 - pw → fxD c e' p = gL r.c g
  pwb : e ≤ pw ∧ pw ≤ e + 9
  reb : e ≤ r.e ∧ r.e ≤ pw
theorem show_of {c e g : Int} {R r : Fd.D} {pw : Int} (hg1 : 1 ≤ g) (h : Sci c e g R r pw) (hc : Fd.dc R.c ≤ 10) : Show c e g r pw := by
  obtain ⟨s1, s2, s3, s4⟩ := digs_strip R.c R.e h.rc
  rw [h.st] at s1 s2 s4
  simp only at s1 s2 s4
  have hX : ∀ (e' : Int) (p : Nat), e' + p = e + g - 1 - pw → fxD c e' p = gL r.c g ∧ Fd.dc r.c ≤ g := by
    intro e' p hp
    obtain ⟨X, y, x0, ⟨E, hE⟩, y0, hf, hd⟩ := h.fx e' p hp
    obtain ⟨t1, t2, t3, t4⟩ := digs_strip X E x0
    rw [hE] at t2 t3 t4
    refine ⟨?_, by omega⟩
    rw [hf, t3, List.append_assoc, zeros_add]
    unfold gL
    congr 2
    omega
  obtain ⟨e', p, hp⟩ : ∃ (e' : Int) (p : Nat), e' + p = e + g - 1 - pw := ⟨e + g - 1 - pw, 0, by omega⟩
  have hX0 := hX e' p hp
  have hrl := digs_dc s2
  have h1 := Fd.dc_one h.rc
  refine ⟨s2, ?_, hX0.2, by rw [h.pws]; omega, ?_, fun e' p hp => (hX e' p hp).1, ?_, ?_⟩
  · have : r.c ≤ R.c := by
      have := Fd.strip2_ok
      have hle : ∀ c e : Int, 0 < c → (Fd.strip2 c e).1 ≤ c := by
        intro c e
        induction c, e using Fd.strip2.induct with
        | case1 c e hc ih => intro _; rw [Fd.strip2_yes hc.1 hc.2]; have := ih (by omega); omega
        | case2 c e hc => intro _; rw [Fd.strip2_no (by omega)]; exact Int.le_refl _
      have h2 := hle R.c R.e h.rc
      rw [h.st] at h2
      exact h2
    have := h.rb
    omega
  · unfold gL
    rw [List.length_append, zeros_len]
    omega
  · have := h.eb
    have := h.pb
    have hp := h.pws
    omega
  · have := h.eb
    have hp := h.pws
    have := Fd.dc_one s2
    omega
end Go.Proofs.YtebheehjhnaklaaGreatDoor
namespace Go.Proofs.YtebheehjhnaklaaGreatDoor
open Go.RowKit
set_option maxRecDepth 100000 in
set_option maxHeartbeats 2000000 in
theorem DigitsIn_10 (m : Nat) (hm : m ≤ 99) (w : World) (hT : PT w) :
    Calls Tryz.prog 165 #[.int .i64 m, .int .i64 10] w fun r w' => r = .returned (.string ⟨(digs false 10 m).toArray⟩) ∧ Below w.heap.size w w' := by
  have k1 := fun W => mBn (within_any m 0 999999999999 W)
  have k2 := fun W => mBn (within_any 10 2 16 W)
  rw [show inr (m : Int) 0 999999999999 = true by simp [inr]; omega] at k1
  rw [show inr (10 : Int) 2 16 = true by decide] at k2
  have k3 : ∀ W, PT W → Calls Tryz.prog 224 #[.int .i64 m, .int .i64 10] W fun r w' => r = .returned (.string ⟨(digs false 10 m).toArray⟩) ∧ Below W.heap.size W w' := fun W h => by
    have h := Tryz.strconv_FormatInt_10 (m : Int) (by omega) (by omega) W h
    rw [Lib.itoa_nonneg, decDigits_digs m m (Nat.le_refl _)] at h
    exact h.mono (by rintro r w1 ⟨rfl, k, os, rfl⟩; exact ⟨rfl, Lib.below_grow _ _ (Nat.le_refl _) _ _⟩)
  have hB := Below.refl w.heap.size w
  have K1 := Lib.hid k1; have K2 := Lib.hid k2; have K3 := Lib.hid k3
  clear k1 k2 k3
  go_enter Tryz.func165, Tryz.ntmps165
  go_wp2_with (first | (go_at_call 44; (with_reducible refine Calls.mono (K1.out _) ?_); rintro r w1 ⟨rfl, hb⟩; replace hB := hB.trans (hb.mono hB.size)) | (go_at_call 44; (with_reducible refine Calls.mono (K2.out _) ?_); rintro r w1 ⟨rfl, hb⟩; replace hB := hB.trans (hb.mono hB.size)) | (go_at_call 224; (with_reducible refine Calls.mono (K3.out _ (hT.on hB)) ?_); rintro r w1 ⟨rfl, hb⟩; replace hB := hB.trans (hb.mono hB.size)))
  all_goals go_ret
  all_goals exact ⟨rfl, hB⟩
/-- a power's digits: two at least -/
def pdL (m : Nat) : List UInt8 := (if m < 10 then [48] else []) ++ digs false 10 m
def sgn1 (pw : Int) : List UInt8 := if pw < 0 then [45] else [43]
/-- the text of a power of 10, behind the letter u -/
def powL (u : UInt8) (pw : Int) : List UInt8 := [u] ++ (sgn1 pw ++ pdL pw.natAbs)
theorem pd_wid {m : Nat} (h : m ≤ 99) : widL (digs false 10 m) 2 9 [] = pdL m ∧ (digs false 10 m).length ≤ 2 := by
  unfold pdL
  rw [widL_none]
  by_cases hm : m < 10
  · rw [if_pos hm, digs_lt hm]
    exact ⟨rfl, by simp⟩
  · rw [if_neg hm, digs_ge (by omega) (show 10 ≤ m by omega), digs_lt (show m / 10 < 10 by omega)]
    exact ⟨rfl, by simp⟩
theorem pd_len {m : Nat} (h : m ≤ 99) : (pdL m).length ≤ 3 := by
  have := (pd_wid h).2
  unfold pdL
  rw [List.length_append]
  split <;> simp <;> omega
theorem powL_len {u : UInt8} {pw : Int} (h : -99 ≤ pw ∧ pw ≤ 99) : (powL u pw).length ≤ 5 := by
  have := pd_len (m := pw.natAbs) (by omega)
  unfold powL sgn1
  split <;> simp <;> omega
set_option maxRecDepth 100000 in
set_option maxHeartbeats 4000000 in
theorem powerText_any (pw : Int) (hp : -99 ≤ pw ∧ pw ≤ 99) (w : World) (hT : PT w) :
    Calls Tryz.prog 94 #[.int .i64 pw] w fun r w' => r = .returned (.string ⟨(powL 101 pw).toArray⟩) ∧ Below w.heap.size w w' := by
  have kg := fun W => mBn (greater_abs pw (by omega) W)
  have kd := fun W (h : PT W) => DigitsIn_10 pw.natAbs (by omega) W h
  obtain ⟨e1, e2⟩ := pd_wid (m := pw.natAbs) (by omega)
  have kw := fun W => WidenDigits_any ⟨(digs false 10 pw.natAbs).toArray⟩ 2 9 ⟨#[]⟩ W (by show (digs false 10 pw.natAbs).length ≤ _; omega) (by decide)
  have ew : widW ⟨(digs false 10 pw.natAbs).toArray⟩ 2 9 ⟨#[]⟩ = ⟨(pdL pw.natAbs).toArray⟩ := by
    have := widW_yes (s := ⟨(digs false 10 pw.natAbs).toArray⟩) (wd := 2) (n := 9) (sep := ⟨#[]⟩) (by show (digs false 10 pw.natAbs).length ≤ 80; omega) (by omega) (by omega) (by omega) (by decide)
    rw [← e1]
    exact this
  rw [ew] at kw
  have hl := pd_len (m := pw.natAbs) (by omega)
  have c1 := cat_lN [101, 45] (pdL pw.natAbs)
  have c2 := cat_lN [101, 43] (pdL pw.natAbs)
  unfold powL sgn1
  clear e1 e2 ew
  generalize digs false 10 pw.natAbs = D at *
  generalize pdL pw.natAbs = PD at *
  have wn : IntKind.i64.wrap (-pw) = -pw := IntWalk.i64_in _ (by omega)
  have q1 : ¬ (9223372036854775807 < 2 + PD.length) := by omega
  have q2 : ¬ (9223372036854775807 < PD.length + 2) := by omega
  have hB := Below.refl w.heap.size w
  have KG := Lib.hid kg; have KD := Lib.hid kd; have KW := Lib.hid kw
  clear kg kd kw
  by_cases h : pw < 0
  · rw [if_pos h]
    go_enter Tryz.func94, Tryz.ntmps94
    go_wp2_with (first | (go_at_call 166; (with_reducible refine Calls.mono (KG.out _) ?_); rintro r w1 ⟨rfl, hb⟩; replace hB := hB.trans (hb.mono hB.size)) | (go_at_call 165; (with_reducible refine Calls.mono (KD.out _ (hT.on hB)) ?_); rintro r w1 ⟨rfl, hb⟩; replace hB := hB.trans (hb.mono hB.size)) | (go_at_call 151; (with_reducible refine Calls.mono (KW.out _) ?_); rintro r w1 ⟨rfl, hb⟩; replace hB := hB.trans (hb.mono hB.size)))
    all_goals go_ret
    all_goals exact ⟨ret_strN (by first | rfl | exact c1), hB⟩
  · rw [if_neg h]
    go_enter Tryz.func94, Tryz.ntmps94
    go_wp2_with (first | (go_at_call 166; (with_reducible refine Calls.mono (KG.out _) ?_); rintro r w1 ⟨rfl, hb⟩; replace hB := hB.trans (hb.mono hB.size)) | (go_at_call 165; (with_reducible refine Calls.mono (KD.out _ (hT.on hB)) ?_); rintro r w1 ⟨rfl, hb⟩; replace hB := hB.trans (hb.mono hB.size)) | (go_at_call 151; (with_reducible refine Calls.mono (KW.out _) ?_); rintro r w1 ⟨rfl, hb⟩; replace hB := hB.trans (hb.mono hB.size)))
    all_goals go_ret
    all_goals exact ⟨ret_strN (by first | rfl | exact c2), hB⟩
set_option maxRecDepth 100000 in
set_option maxHeartbeats 4000000 in
theorem expTextS_any (u : UInt8) (pw : Int) (hp : -99 ≤ pw ∧ pw ≤ 99) (w : World) :
    Calls Tryz.prog 51 #[.string ⟨#[u]⟩, .int .i64 pw] w fun r w' => r = .returned (.string ⟨(powL u pw).toArray⟩) ∧ Below w.heap.size w w' := by
  have kn := fun W => numberS_any pw.natAbs pw.natAbs (Nat.le_refl _) (by omega) W
  have hl := (pd_wid (m := pw.natAbs) (by omega)).2
  unfold powL sgn1 pdL
  generalize digs false 10 pw.natAbs = D at *
  have c0 := cat_lN [u] [45]
  have c1 := cat_lN [u] [43]
  have c2 := cat_lN [u, 45] [48]
  have c3 := cat_lN [u, 43] [48]
  have c4 := cat_lN [u, 45, 48] D
  have c5 := cat_lN [u, 43, 48] D
  have c6 := cat_lN [u, 45] D
  have c7 := cat_lN [u, 43] D
  have q1 : ¬ (9223372036854775807 < 3 + D.length) := by omega
  have q2 : ¬ (9223372036854775807 < 2 + D.length) := by omega
  have hB := Below.refl w.heap.size w
  by_cases h : pw < 0
  · have hneg : 0 - pw = (pw.natAbs : Int) := by omega
    have hneg2 : -pw = (pw.natAbs : Int) := by omega
    rw [if_pos h]
    have wm : IntKind.i64.wrap (pw.natAbs : Int) = pw.natAbs := IntWalk.i64_in _ (by omega)
    generalize pw.natAbs = m at *
    by_cases hm : m < 10
    · rw [if_pos hm]
      have i1 : (m : Int) < 10 := by omega
      have KN := Lib.hid kn
      clear kn
      go_enter Tryz.func51, Tryz.ntmps51
      go_wp2_with ((go_at_call 98; (with_reducible refine Calls.mono (KN.out _) ?_); rintro r w1 ⟨rfl, hb⟩; replace hB := hB.trans (hb.mono hB.size)))
      all_goals go_ret
      all_goals exact ⟨ret_strN (by first | rfl | (simp [cat_lN]; done) | (rw [c0, c2, c4]; rfl)), hB⟩
    · rw [if_neg hm]
      have i1 : ¬ (m : Int) < 10 := by omega
      have KN := Lib.hid kn
      clear kn
      go_enter Tryz.func51, Tryz.ntmps51
      go_wp2_with ((go_at_call 98; (with_reducible refine Calls.mono (KN.out _) ?_); rintro r w1 ⟨rfl, hb⟩; replace hB := hB.trans (hb.mono hB.size)))
      all_goals go_ret
      all_goals exact ⟨ret_strN (by first | rfl | (simp [cat_lN]; done) | (rw [c0, c6]; rfl)), hB⟩
  · obtain ⟨m, rfl⟩ := Int.eq_ofNat_of_zero_le (show 0 ≤ pw by omega)
    rw [if_neg h]
    rw [show ((m : Nat) : Int).natAbs = m from rfl] at kn ⊢
    by_cases hm : m < 10
    · rw [if_pos hm]
      have i1 : (m : Int) < 10 := by omega
      have KN := Lib.hid kn
      clear kn
      go_enter Tryz.func51, Tryz.ntmps51
      go_wp2_with ((go_at_call 98; (with_reducible refine Calls.mono (KN.out _) ?_); rintro r w1 ⟨rfl, hb⟩; replace hB := hB.trans (hb.mono hB.size)))
      all_goals go_ret
      all_goals exact ⟨ret_strN (by first | rfl | (simp [cat_lN]; done) | (rw [c1, c3, c5]; rfl)), hB⟩
    · rw [if_neg hm]
      have i1 : ¬ (m : Int) < 10 := by omega
      have KN := Lib.hid kn
      clear kn
      go_enter Tryz.func51, Tryz.ntmps51
      go_wp2_with ((go_at_call 98; (with_reducible refine Calls.mono (KN.out _) ?_); rintro r w1 ⟨rfl, hb⟩; replace hB := hB.trans (hb.mono hB.size)))
      all_goals go_ret
      all_goals exact ⟨ret_strN (by first | rfl | (simp [cat_lN]; done) | (rw [c1, c7]; rfl)), hB⟩
end Go.Proofs.YtebheehjhnaklaaGreatDoor
