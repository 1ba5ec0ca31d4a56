import Derived.Test.YtebheehjhnaklaaGreatDoorF3
namespace Go.Proofs.YtebheehjhnaklaaGreatDoor
open Go Go.RowKit
theorem dch_dg {k : Nat} (h : k < 10) : IsDg (dch false k) := by
  unfold IsDg dch
  rw [if_pos h]
  have e : (UInt8.ofNat (48 + k)).toNat = 48 + k := by rw [UInt8.toNat_ofNat']; omega
  rw [e]
  omega
theorem digs_dgF (n : Nat) : ∀ b, b ∈ digs false 10 n → IsDg b := by
  induction n using Nat.strongRecOn with
  | ind n ih =>
    intro b hb
    by_cases h : 10 ≤ n
    · rw [digs_ge (by omega) h, List.mem_append] at hb
      rcases hb with hb | hb
      · exact ih (n / 10) (by omega) b hb
      · rw [List.mem_singleton] at hb
        rw [hb]
        exact dch_dg (by omega)
    · rw [digs_lt (by omega), List.mem_singleton] at hb
      rw [hb]
      exact dch_dg (by omega)
theorem zeros_dg (m : Nat) : ∀ b, b ∈ zeros m → IsDg b := by
  intro b hb
  unfold zeros at hb
  rw [(List.mem_replicate.1 hb).2]
  unfold IsDg
  decide
theorem fxL_dgF (c e : Int) (p : Nat) : ∀ b, b ∈ fxL c e p → IsDg b := by
  intro b hb
  unfold fxL at hb
  rw [widL_none, List.mem_append] at hb
  rcases hb with hb | hb
  · exact zeros_dg _ b hb
  · unfold fxD at hb
    split at hb
    · simp at hb
    · rw [List.mem_append] at hb
      rcases hb with hb | hb
      · exact digs_dgF _ b hb
      · exact zeros_dg _ b hb
theorem fxAB (c e : Int) (p : Nat) : fxA c e p ++ fxB c e p = fxL c e p := List.take_append_drop _ _
theorem trL_zs (m : Nat) (l : List UInt8) : trL 48 (zeros m ++ l) = trL 48 l := by
  induction m with
  | zero => rfl
  | succ m ih =>
    show trL 48 (48 :: (zeros m ++ l)) = _
    unfold trL at *
    rw [List.dropWhile_cons_of_pos (by decide)]
    exact ih
theorem trR_zs (m : Nat) (l : List UInt8) : trR 48 (l ++ zeros m) = trR 48 l := by
  unfold trR
  rw [List.reverse_append, show (zeros m).reverse = zeros m by simp [zeros], trL_zs]
theorem digs_snoc (n : Nat) : ∃ X, digs false 10 n = X ++ [dch false (n % 10)] := by
  by_cases h : 10 ≤ n
  · exact ⟨_, digs_ge (by omega) h⟩
  · exact ⟨[], by rw [digs_lt (by omega), show n % 10 = n by omega]; rfl⟩
theorem trR_digs (m n : Nat) (h : n % 10 ≠ 0) : trR 48 (zeros m ++ digs false 10 n) = zeros m ++ digs false 10 n := by
  obtain ⟨X, hX⟩ := digs_snoc n
  have hd : ¬ dch false (n % 10) = 48 := fun e => h (dch_zero (by omega) e)
  rw [hX]
  unfold trR trL
  rw [show (zeros m ++ (X ++ [dch false (n % 10)])).reverse = dch false (n % 10) :: (zeros m ++ X).reverse by simp, List.dropWhile_cons_of_neg (by simpa using hd)]
  simp
theorem vRun_zs (m : Nat) (l : List UInt8) : vRun 10 (zeros m ++ l) 0 = vRun 10 l 0 := by
  induction m with
  | zero => rfl
  | succ m ih =>
    show vRun 10 (48 :: (zeros m ++ l)) 0 = _
    rw [vRun_cons (by decide) (by decide)]
    exact ih
theorem vRun_zd (m n : Nat) (h : n ≤ 999999999999) : vRun 10 (zeros m ++ digs false 10 n) 0 = n := by
  rw [vRun_zs]
  have := vRun_digs (up := false) (b := 10) (by omega) (by omega) n n (Nat.le_refl _) h []
  rw [List.append_nil] at this
  exact this
theorem fit_z0 {d : Fd.D} (h : d.c = 0) : Fd.fit1 d = (Fd.D.z, true) := by unfold Fd.fit1; rw [if_pos h]
structure RdF (c e : Int) (p : Nat) (v x : Int) : Prop where
  da : ∀ b, b ∈ fxA c e p → IsDg b
  db : ∀ b, b ∈ fxB c e p → IsDg b
  la : 1 ≤ (fxA c e p).length
  lb : (fxB c e p).length = p
  ll : (fxA c e p).length + (fxB c e p).length ≤ 70
  hv : vRun 10 (48 :: trR 48 (fxA c e p ++ fxB c e p)) 0 = v
  v0 : 0 ≤ v
  v1 : v ≤ 999999999999
  hx : ((fxA c e p).length : Int) - (trR 48 (fxA c e p ++ fxB c e p)).length = x
  x0 : -24 ≤ x
  x1 : x ≤ 24
  ft : Fd.fit1 ⟨false, v, x⟩ = Fd.fit1 (Fd.dropI ⟨false, c, e⟩ (-p - e))
theorem rd_facts {c e : Int} {p : Nat} (h0 : 0 ≤ c) (h1 : c ≤ 999999999) (h2 : -12 ≤ e) (h3 : e ≤ 12) (h5 : p ≤ 12) : ∃ v x, RdF c e p v x := by
  obtain ⟨c0, cb, ⟨z, ez, _, ezz⟩, _⟩ := fx_facts false h0 h1 (by omega) (by omega) (show e + (p : Int) ≤ 40 by omega) (by omega)
  obtain ⟨l1, l2⟩ := fxL_len (c := c) (e := e) (p := p) cb (by omega) (by omega)
  have hab := fxAB c e p
  have da : ∀ b, b ∈ fxA c e p → IsDg b := fun b hb => fxL_dgF c e p b (by rw [← hab]; exact List.mem_append_left _ hb)
  have db : ∀ b, b ∈ fxB c e p → IsDg b := fun b hb => fxL_dgF c e p b (by rw [← hab]; exact List.mem_append_right _ hb)
  have hla : (fxA c e p).length = (fxL c e p).length - p := by unfold fxA; rw [List.length_take]; omega
  have hlb : (fxB c e p).length = p := by unfold fxB; rw [List.length_drop]; omega
  by_cases hz : fxC c e p = 0
  · have hD : fxL c e p = [] ++ zeros (p + 1) := by
      unfold fxL fxD
      rw [if_pos hz, widL_none]
      show zeros (max (p + 1) 0 - 0) ++ [] = _
      rw [show max (p + 1) 0 - 0 = p + 1 by omega, List.append_nil]
      rfl
    have hR : trR 48 (fxA c e p ++ fxB c e p) = [] := by rw [hab, hD, trR_zs]; rfl
    have hA := (fx_zero hz).1
    refine ⟨0, 1, da, db, by omega, hlb, by omega, by rw [hR]; decide, by decide, by decide, by rw [hR, hA]; rfl, by decide, by decide, ?_⟩
    rw [fit_z0 rfl, fit_z0 (by rw [c0, hz]; rfl)]
  · have hz' := ezz hz
    generalize hd : Fd.dropI ⟨false, c, e⟩ (-p - e) = d at *
    have hdn : d.n = false := by
      rw [← hd]
      unfold Fd.dropI
      split
      · rfl
      · split <;> rfl
    have hde : -12 ≤ d.e ∧ d.e ≤ 12 := by
      have hk : d.e + p = (e + p).toNat := by omega
      omega
    have hdc : 0 < d.c := by omega
    obtain ⟨a1, a2, a3, a4⟩ := digs_strip d.c d.e hdc
    obtain ⟨b1, b2, b3, b4, b5⟩ := Fd.strip2_ok d.c d.e hdc (by omega)
    have b6 := Fd.strip2_e d.c d.e hdc
    have b7 := Fd.dc_le9 (show d.c ≤ 999999999 by omega)
    generalize hs : Fd.strip2 d.c d.e = s at *
    have hC : d.c.toNat = fxC c e p := by omega
    rw [hC] at a3
    generalize hk : max (p + 1) (fxD c e p).length - (fxD c e p).length = k at *
    have hL : fxL c e p = (zeros k ++ digs false 10 s.1.toNat) ++ zeros ((s.2 - d.e).toNat + z) := by
      unfold fxL
      rw [widL_none, hk]
      unfold fxD
      rw [if_neg hz, a3, ← hz', List.append_assoc, List.append_assoc, zeros_add]
    have hR : trR 48 (fxA c e p ++ fxB c e p) = zeros k ++ digs false 10 s.1.toNat := by
      rw [hab, hL, trR_zs, trR_digs]
      omega
    have hlen : (fxL c e p).length = k + (digs false 10 s.1.toNat).length + ((s.2 - d.e).toNat + z) := by
      rw [hL, List.length_append, List.length_append, zeros_len, zeros_len]
    refine ⟨s.1, s.2, da, db, by omega, hlb, by omega, ?_, by omega, by omega, ?_, by omega, by omega, ?_⟩
    · rw [hR]
      have := vRun_zd (k + 1) s.1.toNat (by omega)
      rw [show 48 :: (zeros k ++ digs false 10 s.1.toNat) = zeros (k + 1) ++ digs false 10 s.1.toNat from rfl, this]
      omega
    · rw [hR, List.length_append, zeros_len, hla]
      omega
    · have f1 := Fd.fit1_ok ⟨false, s.1, s.2⟩ (by show 0 ≤ s.1; omega) (by show -24 ≤ s.2; omega)
      have f2 := Fd.fit1_ok d (by omega) (by omega)
      have hV : Fd.V ⟨false, s.1, s.2⟩ = Fd.V d := by
        have : d = ⟨false, d.c, d.e⟩ := by rw [← hdn]
        rw [this]
        exact Fd.V_mk b1
      rw [hV] at f1
      rw [hd]
      exact f1.uniq f2
end Go.Proofs.YtebheehjhnaklaaGreatDoor
