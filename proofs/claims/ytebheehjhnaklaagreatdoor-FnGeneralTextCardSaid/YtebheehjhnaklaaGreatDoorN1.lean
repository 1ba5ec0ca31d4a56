import Derived.Test.YtebheehjhnaklaaGreatDoorC3T
import Derived.Lib.ItoaNum
namespace Go.Proofs.YtebheehjhnaklaaGreatDoor
open Go
/-- the byte of a digit -/
def dch (up : Bool) (k : Nat) : UInt8 := UInt8.ofNat (if k < 10 then 48 + k else if up then 55 + k else 87 + k)
theorem dg_dch {up : Bool} {k : Nat} (h : k < 16) : dg ((dch up k).toNat : Int) = k := by
  have h0 : ((List.range 16).all fun k => dg ((dch up k).toNat : Int) == (k : Int)) = true := by cases up <;> decide +kernel
  exact eq_of_beq (List.all_eq_true.1 h0 k (List.mem_range.2 h))
theorem dch_zero {up : Bool} {k : Nat} (h : k < 16) (e : dch up k = 48) : k = 0 := by
  have h0 : ((List.range 16).all fun k => !(dch up k == 48) || (k == 0)) = true := by cases up <;> decide +kernel
  have := List.all_eq_true.1 h0 k (List.mem_range.2 h)
  simpa [e] using this
/-- the digits of n in the base b, without zeros ahead -/
def digs (up : Bool) (b n : Nat) : List UInt8 := if 2 ≤ b ∧ b ≤ n then digs up b (n / b) ++ [dch up (n % b)] else [dch up n]
termination_by n
decreasing_by exact Nat.div_lt_self (by omega) (by omega)
theorem digs_lt {up : Bool} {b n : Nat} (h : n < b) : digs up b n = [dch up n] := by rw [digs, if_neg (by omega)]
theorem digs_ge {up : Bool} {b n : Nat} (h2 : 2 ≤ b) (h : b ≤ n) : digs up b n = digs up b (n / b) ++ [dch up (n % b)] := by rw [digs, if_pos ⟨h2, h⟩]
theorem digs_pos (up : Bool) (b n : Nat) : 1 ≤ (digs up b n).length := by
  rw [digs]; split <;> simp
theorem div_lt_of {b n : Nat} (h2 : 2 ≤ b) (h : b ≤ n) : n / b < n := Nat.div_lt_self (by omega) (by omega)
theorem vRun_cons {base : Int} {b : UInt8} {l : List UInt8} {n : Int} (h1 : dg b.toNat < base) (h2 : n * base + dg b.toNat ≤ 999999999999) : vRun base (b :: l) n = vRun base l (n * base + dg b.toNat) := by
  show (if dg b.toNat ≥ base then _ else _) = _
  rw [if_neg (by omega), if_neg (by omega)]
theorem vRun_digs {up : Bool} {b : Nat} (h2 : 2 ≤ b) (h16 : b ≤ 16) : ∀ (k n : Nat), n ≤ k → n ≤ 999999999999 → ∀ T, vRun b (digs up b n ++ T) 0 = vRun b T n := by
  intro k
  induction k with
  | zero =>
    intro n hk _ T
    obtain rfl : n = 0 := by omega
    rw [digs_lt (by omega), List.singleton_append, vRun_cons (by rw [dg_dch (by omega)]; omega) (by rw [dg_dch (by omega)]; omega), dg_dch (by omega)]
    simp
  | succ k ih =>
    intro n hk hm T
    by_cases h : n < b
    · rw [digs_lt h, List.singleton_append, vRun_cons (by rw [dg_dch (by omega)]; omega) (by rw [dg_dch (by omega)]; omega), dg_dch (by omega)]
      simp
    · have hd := div_lt_of h2 (show b ≤ n by omega)
      have hr := Nat.mod_lt n (show 0 < b by omega)
      have he : ((n / b : Nat) : Int) * b + ((n % b : Nat) : Int) = n := by
        have := Nat.div_add_mod n b
        rw [Nat.mul_comm] at this
        exact_mod_cast this
      rw [digs_ge h2 (by omega), List.append_assoc, ih (n / b) (by omega) (by omega), List.singleton_append, vRun_cons (by rw [dg_dch (by omega)]; omega) (by rw [dg_dch (by omega), he]; omega), dg_dch (by omega), he]
theorem digs_head {up : Bool} {b : Nat} (h2 : 2 ≤ b) (h16 : b ≤ 16) : ∀ (k n : Nat), n ≤ k → 1 ≤ n → ∃ c r, digs up b n = c :: r ∧ c ≠ 48 := by
  intro k
  induction k with
  | zero => intro n h1 h2; omega
  | succ k ih =>
    intro n hk h1
    by_cases h : n < b
    · exact ⟨dch up n, [], digs_lt h, fun e => by have := dch_zero (by omega) e; omega⟩
    · have hd := div_lt_of h2 (show b ≤ n by omega)
      obtain ⟨c, r, e, hc⟩ := ih (n / b) (by omega) ((Nat.one_le_div_iff (by omega)).2 (by omega))
      exact ⟨c, r ++ [dch up (n % b)], by rw [digs_ge h2 (by omega), e]; rfl, hc⟩
/-- how many digits -/
theorem digs_length {up : Bool} {b : Nat} (h2 : 2 ≤ b) : ∀ (m n : Nat), n < b ^ (m + 1) → (m = 0 ∨ b ^ m ≤ n) → (digs up b n).length = m + 1 := by
  intro m
  induction m with
  | zero => intro n h _; rw [digs_lt (by simpa using h)]; rfl
  | succ m ih =>
    intro n h hl
    have hb : b ^ (m + 1) ≤ n := by rcases hl with h | h; omega; exact h
    have hbb : b ≤ n := Nat.le_trans (by rw [Nat.pow_succ]; exact Nat.le_mul_of_pos_left b (Nat.pow_pos (by omega))) hb
    rw [digs_ge h2 hbb, List.length_append, ih (n / b) ?_ (.inr ?_)]
    · rfl
    · exact Nat.div_lt_of_lt_mul (by rw [Nat.mul_comm, ← Nat.pow_succ]; exact h)
    · rw [Nat.le_div_iff_mul_le (by omega), ← Nat.pow_succ]; exact hb
theorem digs_short {up : Bool} {b : Nat} (h2 : 2 ≤ b) : ∀ (m n : Nat), n < 2 ^ (m + 1) → (digs up b n).length ≤ m + 1 := by
  intro m
  induction m with
  | zero => intro n h; rw [digs_lt (by omega)]; simp
  | succ m ih =>
    intro n h
    by_cases hb : n < b
    · rw [digs_lt hb]; simp
    · have : n / b < 2 ^ (m + 1) := Nat.lt_of_le_of_lt (Nat.div_le_div_left h2 (by omega)) (Nat.div_lt_of_lt_mul (by rw [Nat.mul_comm, ← Nat.pow_succ]; exact h))
      have := ih (n / b) this
      rw [digs_ge h2 (by omega), List.length_append]
      simp only [List.length_singleton]
      omega
theorem digs_40 {up : Bool} {b n : Nat} (h2 : 2 ≤ b) (h : n ≤ 999999999999) : (digs up b n).length ≤ 40 := digs_short h2 39 n (Nat.lt_of_le_of_lt h (by decide))
/-- the digits of a number are no more than those that it is read of; what is ahead of them is zeros -/
theorem digs_of_run (up : Bool) {b : Nat} (h2 : 2 ≤ b) (h16 : b ≤ 16) (l : List UInt8) (hne : l ≠ []) (v : Nat) (hv : vRun b l 0 = v) : v ≤ 999999999999 ∧ ∃ k, l.length = k + (digs up b v).length ∧ (∀ i, i < k → l[i]? = some 48) ∧ vRun b (l.drop k) 0 = v := by
  have hmax : ∀ (l : List UInt8) (n : Int), n ≤ 999999999999 → vRun b l n ≤ 999999999999 := by
    intro l
    induction l with
    | nil => intro n h; exact h
    | cons c l ih =>
      intro n h
      unfold vRun
      split
      · omega
      · split
        · omega
        · exact ih _ (by omega)
  refine ⟨by have := hmax l 0 (by omega); omega, ?_⟩
  -- the least value of what begins with a digit that is no zero, and the greatest of as many digits
  have hrun : ∀ (l : List UInt8) (n w : Nat), vRun b l n = w → w < (n + 1) * b ^ l.length ∧ n * b ^ l.length ≤ w := by
    intro l
    induction l with
    | nil => intro n w h; simp only [vRun] at h; simp; omega
    | cons c l ih =>
      intro n w h
      have d0 := dg_ge (c.toNat : Int)
      obtain ⟨d, hd⟩ := Int.eq_ofNat_of_zero_le d0
      unfold vRun at h
      rw [hd] at h
      split at h
      · omega
      · split at h
        · omega
        · rename_i q1 q2
          have := ih (n * b + d) w (by rw [← h]; push_cast; rfl)
          have hdb : d + 1 ≤ b := by omega
          refine ⟨Nat.lt_of_lt_of_le this.1 ?_, Nat.le_trans ?_ this.2⟩
          · rw [List.length_cons, Nat.pow_succ, Nat.mul_comm (b ^ l.length) b, ← Nat.mul_assoc]
            exact Nat.mul_le_mul_right _ (by rw [Nat.add_mul, Nat.one_mul]; omega)
          · rw [List.length_cons, Nat.pow_succ, Nat.mul_comm (b ^ l.length) b, ← Nat.mul_assoc]
            exact Nat.mul_le_mul_right _ (by omega)
  induction l with
  | nil => exact absurd rfl hne
  | cons c l ih =>
    by_cases hc : c = 48 ∧ l ≠ []
    · obtain ⟨rfl, hl⟩ := hc
      have hz : dg ((48 : UInt8).toNat : Int) = 0 := by decide
      have e : vRun b (48 :: l) 0 = vRun b l 0 := by
        rw [vRun_cons (by rw [hz]; omega) (by rw [hz]; omega), hz]; simp
      rw [e] at hv
      obtain ⟨k, h1, h3, h4⟩ := ih hl hv
      refine ⟨k + 1, by rw [List.length_cons, h1]; omega, fun i hi => ?_, h4⟩
      cases i with
      | zero => rfl
      | succ i => exact h3 i (by omega)
    · refine ⟨0, ?_, fun i hi => by omega, hv⟩
      rw [Nat.zero_add]
      refine Eq.symm ?_
      have d0 := dg_ge (c.toNat : Int)
      obtain ⟨d, hd⟩ := Int.eq_ofNat_of_zero_le d0
      have hv0 := hv
      unfold vRun at hv
      rw [hd] at hv
      split at hv
      · omega
      · split at hv
        · omega
        · rename_i q1 q2
          have hr := hrun l d v (by rw [← hv]; simp)
          have hdb : d + 1 ≤ b := by omega
          refine digs_length h2 l.length v ?_ ?_
          · exact Nat.lt_of_lt_of_le hr.1 (by rw [Nat.pow_succ, Nat.mul_comm (b ^ l.length) b]; exact Nat.mul_le_mul_right _ hdb)
          · by_cases hl : l = []
            · left; simp [hl]
            · right
              have hc48 : c ≠ 48 := fun e => hc ⟨e, hl⟩
              have hd1 : 1 ≤ d := by
                rcases Nat.eq_zero_or_pos d with h | h
                · subst h
                  exfalso
                  apply hc48
                  have : dg (c.toNat : Int) = 0 := by simpa using hd
                  unfold dg at this
                  have hlt := c.toNat_lt
                  split at this
                  · have h48 : c.toNat = 48 := by omega
                    exact UInt8.toNat_inj.1 h48
                  · split at this
                    · omega
                    · split at this <;> omega
                · exact h
              exact Nat.le_trans (Nat.le_mul_of_pos_left _ hd1) hr.2
theorem decDigits_digs : ∀ (k n : Nat), n ≤ k → Lib.decDigits n = digs false 10 n := by
  intro k
  induction k with
  | zero =>
    intro n h
    obtain rfl : n = 0 := by omega
    rw [digs_lt (by omega), Lib.decDigits, dif_pos (by omega), dch, if_pos (by omega)]
  | succ k ih =>
    intro n h
    by_cases hn : n < 10
    · rw [digs_lt hn, Lib.decDigits, dif_pos hn, dch, if_pos hn]
    · rw [digs_ge (by omega) (by omega), Lib.decDigits, dif_neg hn, ih (n / 10) (by omega), dch, if_pos (by omega)]
end Go.Proofs.YtebheehjhnaklaaGreatDoor
