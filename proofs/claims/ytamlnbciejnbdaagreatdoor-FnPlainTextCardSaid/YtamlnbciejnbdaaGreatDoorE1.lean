import Derived.Test.YtamlnbciejnbdaaGreatDoorN5
import Derived.Test.YtamlnbciejnbdaaGreatDoorC5
import Derived.Test.YtamlnbciejnbdaaGreatDoorS5
import Derived.Test.YtamlnbciejnbdaaGreatDoorY12
import Derived.Test.YtamlnbciejnbdaaGreatDoorT3
import Derived.Test.YtamlnbciejnbdaaGreatDoorZ2
import Derived.Test.YtamlnbciejnbdaaGreatDoorC3T
import Derived.Lib.ItoaMem
import Derived.Lib.AppendIntMem
import Derived.Handy
namespace Go.Proofs.YtamlnbciejnbdaaGreatDoor
open Go.RowKit
/-- the table that numbers are written by -/
abbrev PT (w : World) : Prop := Lib.TabIs Tryz.prog w "internal/strconv.uint64pow10" .u64 Lib.pow10Tab
theorem PT.on {w w1 : World} (h : PT w) (hb : Below w.heap.size w w1) : PT w1 := Lib.tabBelow_of_tabIs h w1 hb
theorem Itoa_nat (n : Nat) (hn : n ≤ 999999999999) (w : World) (hT : PT w) :
    Calls Tryz.prog 90 #[.int .i64 n] w fun r w' => r = .returned (.string ⟨(digs false 10 n).toArray⟩) ∧ Below w.heap.size w w' := by
  have h := Tryz.strconv_Itoa (n : Int) (by omega) (by omega) w hT
  rw [Lib.itoa_nonneg, decDigits_digs n n (Nat.le_refl _)] at h
  exact h.mono (by rintro r w1 ⟨rfl, k, os, rfl⟩; exact ⟨rfl, Lib.below_grow _ _ (Nat.le_refl _) _ _⟩)
theorem numberS_one (k : Nat) (h : k < 10) (w : World) : Calls Tryz.prog 94 #[.int .i64 k] w fun r w' => r = .returned (.string ⟨#[dch false k]⟩) ∧ w = w' := by
  have hk : k = 0 ∨ k = 1 ∨ k = 2 ∨ k = 3 ∨ k = 4 ∨ k = 5 ∨ k = 6 ∨ k = 7 ∨ k = 8 ∨ k = 9 := by omega
  rcases hk with rfl | rfl | rfl | rfl | rfl | rfl | rfl | rfl | rfl | rfl
  all_goals (
    go_enter Tryz.func94, Tryz.ntmps94
    go_wp2
    go_ret
    exact ⟨rfl, rfl⟩)
set_option maxRecDepth 100000 in
set_option maxHeartbeats 4000000 in
theorem numberS_any : ∀ (k n : Nat), n ≤ k → n ≤ 999999999999 → ∀ w : World,
    Calls Tryz.prog 94 #[.int .i64 n] w fun r w' => r = .returned (.string ⟨(digs false 10 n).toArray⟩) ∧ Below w.heap.size w w' := by
  intro k
  induction k with
  | zero =>
    intro n hk hm w
    obtain rfl : n = 0 := by omega
    rw [digs_lt (by omega)]
    exact mBn (numberS_one 0 (by omega) w)
  | succ k ih =>
    intro n hk hm w
    by_cases h : n < 10
    · rw [digs_lt h]
      exact mBn (numberS_one n h w)
    · have hd := div_lt_of (b := 10) (n := n) (by omega) (by omega)
      have hr := Nat.mod_lt n (show 0 < 10 by omega)
      have k1 := fun W => ih (n / 10) (by omega) (by omega) W
      have k2 := fun W => mBn (numberS_one (n % 10) (by omega) W)
      have l1 := digs_40 (up := false) (b := 10) (n := n / 10) (by omega) (by omega)
      have i1 : ¬ (n : Int) < 10 := by omega
      have e1 := tdivN n 10
      have e2 := tmodN n 10
      have e3 : (n : Int) / 10 = ((n / 10 : Nat) : Int) := by omega
      have e4 : (n : Int) % 10 = ((n % 10 : Nat) : Int) := by omega
      rw [digs_ge (by omega) (by omega)]
      have e : (⟨#[dch false (n % 10)]⟩ : ByteArray) = ⟨[dch false (n % 10)].toArray⟩ := rfl
      rw [e] at k2
      clear e ih
      have l2 : [dch false (n % 10)].length = 1 := rfl
      generalize [dch false (n % 10)] = D at *
      generalize digs false 10 (n / 10) = E at *
      generalize n / 10 = q at *
      generalize n % 10 = m at *
      have w1 : IntKind.i64.wrap (q : Int) = q := by rw [IntKind.wrap_i64]; omega
      have w2 : IntKind.i64.wrap (m : Int) = m := by rw [IntKind.wrap_i64]; omega
      have hlen : ¬ (9223372036854775807 < E.length + 1) := by omega
      have K1 := Lib.hid k1; have K2 := Lib.hid k2
      clear k1 k2
      have hB := Below.refl w.heap.size w
      go_enter Tryz.func94, Tryz.ntmps94
      go_wp2_with (first | (go_at_call 94; (with_reducible refine Calls.mono (K1.out _) ?_); rintro r w1 ⟨rfl, hb⟩; replace hB := hB.trans (hb.mono hB.size)) | (go_at_call 94; (with_reducible refine Calls.mono (K2.out _) ?_); rintro r w1 ⟨rfl, hb⟩; replace hB := hB.trans (hb.mono hB.size)))
      go_ret
      exact ⟨ret_strN (cat_lN _ _), hB⟩
theorem zeros_rep (m : Nat) : zeros m = rep 48 m := rfl
theorem zerosS_any (m : Nat) (hm : m ≤ 100) (w : World) : Calls Tryz.prog 95 #[.int .i64 m] w fun r w' => r = .returned (.string ⟨(zeros m).toArray⟩) ∧ w = w' := by
  have k1 := fun W => repeatS_any 48 m hm W
  rw [← zeros_rep] at k1
  have K1 := Lib.hid k1
  clear k1
  go_enter Tryz.func95, Tryz.ntmps95
  go_wp2_with (go_at_call 143; (with_reducible refine Calls.mono (K1.out _) ?_); rintro r w1 ⟨rfl, rfl⟩)
  all_goals go_ret
  all_goals exact ⟨rfl, rfl⟩
/-- the coefficient rounded at p places -/
def fxC (c e p : Int) : Nat := (Fd.dropI ⟨false, c, e⟩ (-p - e)).c.toNat
/-- its digits, with the zeros that its exponent asks -/
def fxD (c e p : Int) : List UInt8 := if fxC c e p = 0 then [] else digs false 10 (fxC c e p) ++ zeros (e + p).toNat
/-- all digits with p places, one ahead of them at least -/
def fxL (c e : Int) (p : Nat) : List UInt8 := widL (fxD c e p) (p + 1) 9 []
theorem drop_c (n : Bool) (c e k : Int) : (Fd.dropI ⟨n, c, e⟩ k).c = (Fd.dropI ⟨false, c, e⟩ k).c ∧ (Fd.dropI ⟨n, c, e⟩ k).e = (Fd.dropI ⟨false, c, e⟩ k).e := by
  unfold Fd.dropI
  split
  · exact ⟨rfl, rfl⟩
  · split <;> exact ⟨rfl, rfl⟩
structure FxF (n : Bool) (c e : Int) (p : Nat) : Prop where
  c0 : (Fd.dropI ⟨n, c, e⟩ (-p - e)).c = (fxC c e p : Int)
  cb : fxC c e p ≤ 999999999
  ez : ∃ z : Nat, (Fd.dropI ⟨n, c, e⟩ (-p - e)).e + p = (z : Int) ∧ z ≤ 45 ∧ (fxC c e p ≠ 0 → z = (e + p).toNat)
  eb : -60 ≤ (Fd.dropI ⟨n, c, e⟩ (-p - e)).e ∧ (Fd.dropI ⟨n, c, e⟩ (-p - e)).e ≤ 60
theorem fx_facts (n : Bool) {c e : Int} {p : Nat} (h0 : 0 ≤ c) (h1 : c ≤ 999999999) (h2 : -24 ≤ e) (h3 : e ≤ 24) (h4 : e + p ≤ 40) (h5 : p ≤ 29) : FxF n c e p := by
  obtain ⟨d1, d2⟩ := drop_c n c e (-p - e)
  have hq : ∀ k : Int, 0 < k → 0 ≤ Fd.rq c k ∧ Fd.rq c k ≤ 999999999 := by
    intro k hk
    have hP := Fd.p10_pos k
    have h10 : 10 ≤ Fd.p10 k := by
      have := Fd.p10_mono (j := 1) (k := k) (by omega) (by omega)
      rw [show Fd.p10 1 = 10 from rfl] at this
      exact this
    have hd0 : 0 ≤ c / Fd.p10 k := Int.ediv_nonneg h0 (by omega)
    have hd1 : c / Fd.p10 k ≤ c / 10 := by
      have hm := Int.mul_ediv_self_le (x := c) (k := Fd.p10 k) (by omega)
      have hle : 10 * (c / Fd.p10 k) ≤ Fd.p10 k * (c / Fd.p10 k) := Int.mul_le_mul_of_nonneg_right h10 hd0
      omega
    unfold Fd.rq
    split <;> omega
  have hc0 : 0 ≤ (Fd.dropI ⟨false, c, e⟩ (-p - e)).c ∧ (Fd.dropI ⟨false, c, e⟩ (-p - e)).c ≤ 999999999 := by
    unfold Fd.dropI
    split
    · exact ⟨h0, h1⟩
    · split
      · exact ⟨by decide, by decide⟩
      · exact hq _ (by omega)
  refine ⟨by rw [d1]; unfold fxC; omega, by unfold fxC; omega, ?_, ?_⟩
  · rw [d2]
    by_cases hk : -(p : Int) - e ≤ 0
    · refine ⟨(e + p).toNat, ?_, by omega, fun _ => rfl⟩
      unfold Fd.dropI
      rw [if_pos hk]
      show e + (p : Int) = _
      omega
    · by_cases hk9 : 9 < -(p : Int) - e
      · refine ⟨p, ?_, by omega, fun hne => ?_⟩
        · unfold Fd.dropI
          rw [if_neg hk, if_pos hk9]
          show (0 : Int) + p = p
          omega
        · exfalso
          apply hne
          unfold fxC Fd.dropI
          rw [if_neg hk, if_pos hk9]
          rfl
      · refine ⟨0, ?_, by omega, fun _ => by omega⟩
        unfold Fd.dropI
        rw [if_neg hk, if_neg hk9]
        show e + (-(p : Int) - e) + p = 0
        omega
  · rw [d2]
    unfold Fd.dropI
    split
    · exact ⟨by show -60 ≤ e; omega, by show e ≤ 60; omega⟩
    · split
      · exact ⟨by decide, by decide⟩
      · exact ⟨by show -60 ≤ e + (-(p : Int) - e); omega, by show e + (-(p : Int) - e) ≤ 60; omega⟩
theorem trL_zeros (m : Nat) : trL 48 (zeros m) = [] := by
  induction m with
  | zero => rfl
  | succ m ih =>
    show trL 48 (48 :: zeros m) = []
    unfold trL at *
    rw [List.dropWhile_cons_of_pos (by decide)]
    exact ih
theorem trL_fx (C : Nat) (z : Nat) : trL 48 (digs false 10 C ++ zeros z) = if C = 0 then [] else digs false 10 C ++ zeros z := by
  by_cases h : C = 0
  · subst h
    rw [if_pos rfl, digs_lt (by omega)]
    exact trL_zeros (z + 1)
  · rw [if_neg h]
    obtain ⟨c, r, e, hc⟩ := digs_head (up := false) (b := 10) (by omega) (by omega) C C (Nat.le_refl _) (by omega)
    rw [e]
    unfold trL
    rw [List.cons_append, List.dropWhile_cons_of_neg (by simpa using hc)]
theorem digs_30 {C : Nat} (h : C ≤ 999999999) : (digs false 10 C).length ≤ 30 := digs_short (by omega) 29 C (Nat.lt_of_le_of_lt h (by decide))
theorem fxD_len {c e : Int} {p : Nat} (h : fxC c e p ≤ 999999999) (h4 : e + p ≤ 40) : (fxD c e p).length ≤ 70 := by
  unfold fxD
  split
  · simp
  · rw [List.length_append, zeros_len]
    have := digs_30 h
    omega
theorem widL_none (l : List UInt8) (wd n : Nat) : widL l wd n [] = zeros (max wd l.length - l.length) ++ l := if_pos rfl
theorem fxL_len {c e : Int} {p : Nat} (h : fxC c e p ≤ 999999999) (h4 : e + p ≤ 40) (h5 : p ≤ 29) : p + 1 ≤ (fxL c e p).length ∧ (fxL c e p).length ≤ 70 := by
  have := fxD_len h h4
  unfold fxL
  rw [widL_none, List.length_append, zeros_len]
  omega
/-- what is ahead of the point, and behind it -/
def fxA (c e : Int) (p : Nat) : List UInt8 := (fxL c e p).take ((fxL c e p).length - p)
def fxB (c e : Int) (p : Nat) : List UInt8 := (fxL c e p).drop ((fxL c e p).length - p)
end Go.Proofs.YtamlnbciejnbdaaGreatDoor
