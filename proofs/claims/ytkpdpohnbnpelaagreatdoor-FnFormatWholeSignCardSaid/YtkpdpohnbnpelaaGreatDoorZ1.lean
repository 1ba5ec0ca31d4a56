import Derived.Test.YtkpdpohnbnpelaaGreatDoorX1
import Derived.Test.YtkpdpohnbnpelaaGreatDoorV9
namespace Go.Proofs.YtkpdpohnbnpelaaGreatDoor
open Go.RowKit
theorem ext_take (k : Nat) (l : List UInt8) : (⟨l.toArray⟩ : ByteArray).extract 0 k = ⟨(l.take k).toArray⟩ := by
  apply ByteArray.ext
  rw [ByteArray.data_extract]
  apply Array.ext'
  rw [Array.toList_extract]
  simp [List.extract_eq_take_drop]
theorem ext_drop (k : Nat) (l : List UInt8) : (⟨l.toArray⟩ : ByteArray).extract k l.length = ⟨(l.drop k).toArray⟩ := by
  apply ByteArray.ext
  rw [ByteArray.data_extract]
  apply Array.ext'
  rw [Array.toList_extract]
  simp only [List.extract_eq_take_drop, List.toList_toArray]
  exact List.take_of_length_le (by rw [List.length_drop]; exact Nat.le_refl _)
def rep (c : UInt8) (n : Nat) : List UInt8 := List.replicate n c
theorem rep_len (c : UInt8) (n : Nat) : (rep c n).length = n := by simp [rep]
theorem repeat_rep (c : UInt8) : ∀ m : Nat, Lib.repeatL [c] m = rep c m
  | 0 => rfl
  | m + 1 => by
    have h := repeat_rep c m
    simp [Lib.repeatL, rep, List.replicate_succ] at h ⊢
    try exact h
theorem Repeat_rep (c : UInt8) (m : Nat) (hm : m ≤ 1000) (w : World) : Calls Tryz.prog 60 #[.string ⟨#[c]⟩, .int .i64 m] w fun r w' => r = .returned (.string ⟨(rep c m).toArray⟩) ∧ Below w.heap.size w w' := by
  have h := Tryz.strings_Repeat ⟨#[c]⟩ m w (by omega) (by show 1 * m ≤ _; omega)
  rw [show (⟨#[c]⟩ : ByteArray).data.toList = [c] from rfl, repeat_rep] at h
  exact h
/-- a text with a fill to a width -/
def padL (H B : List UInt8) (wi : Nat) (c : UInt8) (al : Int) : List UInt8 :=
  if al = 1 then H ++ (B ++ rep c (wi - H.length - B.length)) else if al = 3 then rep c ((wi - H.length - B.length) / 2) ++ (H ++ (B ++ rep c (wi - H.length - B.length - (wi - H.length - B.length) / 2)))
  else if al = 4 then H ++ (rep c (wi - H.length - B.length) ++ B) else rep c (wi - H.length - B.length) ++ (H ++ B)
theorem greater_pos (a : Int) (ha : a ≤ 1000) (w : World) : Calls Tryz.prog 59 #[.int .i64 a, .int .i64 0] w fun r w' => r = .returned (.int .i64 ((a.toNat : Nat) : Int)) ∧ w = w' := by
  by_cases h : a < 0
  · go_enter Tryz.func59, Tryz.ntmps59
    go_wp2
    all_goals go_ret
    all_goals exact ⟨ret_int (by omega), rfl⟩
  · have i1 : ¬ a < 0 := h
    go_enter Tryz.func59, Tryz.ntmps59
    go_wp2
    all_goals go_ret
    all_goals exact ⟨ret_int (by omega), rfl⟩
theorem greater_abs (a : Int) (ha : -1000000000000 ≤ a ∧ a ≤ 1000000000000) (w : World) : Calls Tryz.prog 59 #[.int .i64 a, .int .i64 (-a)] w fun r w' => r = .returned (.int .i64 ((a.natAbs : Nat) : Int)) ∧ w = w' := by
  by_cases h : a < -a
  · go_enter Tryz.func59, Tryz.ntmps59
    go_wp2
    all_goals go_ret
    all_goals exact ⟨ret_int (by omega), rfl⟩
  · have i1 : ¬ a < -a := h
    go_enter Tryz.func59, Tryz.ntmps59
    go_wp2
    all_goals go_ret
    all_goals exact ⟨ret_int (by omega), rfl⟩
/-- the sign ahead -/
def sgnL (si : Int) (neg : Bool) : List UInt8 := if neg then [45] else if si = 2 then [43] else if si = 3 then [32] else []
theorem sgn_len (si : Int) (neg : Bool) : (sgnL si neg).length ≤ 1 := by
  unfold sgnL
  split
  · simp
  · split
    · simp
    · split <;> simp
theorem signFor_any (si : Int) (neg : Bool) (w : World) : Calls Tryz.prog 21 #[.int .i64 si, .bool neg] w fun r w' => r = .returned (.string ⟨(sgnL si neg).toArray⟩) ∧ w = w' := by
  cases neg
  · by_cases h2 : si = 2
    · subst h2
      go_enter Tryz.func21, Tryz.ntmps21
      go_wp2
      go_ret
      exact ⟨rfl, rfl⟩
    · by_cases h3 : si = 3
      · subst h3
        go_enter Tryz.func21, Tryz.ntmps21
        go_wp2
        go_ret
        exact ⟨rfl, rfl⟩
      · rw [show sgnL si false = [] by simp [sgnL, h2, h3]]
        have e2 : (si == 2) = false := by simpa using h2
        have e3 : (si == 3) = false := by simpa using h3
        go_enter Tryz.func21, Tryz.ntmps21
        go_wp2
        all_goals go_ret
        all_goals exact ⟨rfl, rfl⟩
  · go_enter Tryz.func21, Tryz.ntmps21
    go_wp2
    go_ret
    exact ⟨rfl, rfl⟩
theorem signTextS_any (si : Int) (neg : Bool) (w : World) : Calls Tryz.prog 50 #[.bool neg, .int .i64 si] w fun r w' => r = .returned (.string ⟨(sgnL si neg).toArray⟩) ∧ w = w' := by
  cases neg
  · by_cases h2 : si = 2
    · subst h2
      go_enter Tryz.func50, Tryz.ntmps50
      go_wp2
      go_ret
      exact ⟨rfl, rfl⟩
    · by_cases h3 : si = 3
      · subst h3
        go_enter Tryz.func50, Tryz.ntmps50
        go_wp2
        go_ret
        exact ⟨rfl, rfl⟩
      · rw [show sgnL si false = [] by simp [sgnL, h2, h3]]
        have e2 : (si == 2) = false := by simpa using h2
        have e3 : (si == 3) = false := by simpa using h3
        go_enter Tryz.func50, Tryz.ntmps50
        go_wp2
        all_goals go_ret
        all_goals exact ⟨rfl, rfl⟩
  · go_enter Tryz.func50, Tryz.ntmps50
    go_wp2
    go_ret
    exact ⟨rfl, rfl⟩
theorem digitOfS_up (k : Nat) (h : k < 16) (w : World) : Calls Tryz.prog 81 #[.int .i64 k, .bool true] w fun r w' => r = .returned (.string ⟨#[dch true k]⟩) ∧ w = w' := by
  have hk : k = 0 ∨ k = 1 ∨ k = 2 ∨ k = 3 ∨ k = 4 ∨ k = 5 ∨ k = 6 ∨ k = 7 ∨ k = 8 ∨ k = 9 ∨ k = 10 ∨ k = 11 ∨ k = 12 ∨ k = 13 ∨ k = 14 ∨ k = 15 := by omega
  rcases hk with rfl | rfl | rfl | rfl | rfl | rfl | rfl | rfl | rfl | rfl | rfl | rfl | rfl | rfl | rfl | rfl
  all_goals (
    go_enter Tryz.func81, Tryz.ntmps81
    go_wp2
    go_ret
    exact ⟨rfl, rfl⟩)
set_option maxRecDepth 100000 in
set_option maxHeartbeats 4000000 in
theorem inBaseS_up (b : Nat) (h2 : 2 ≤ b) (h16 : b ≤ 16) : ∀ (k n : Nat), n ≤ k → n ≤ 999999999999 → ∀ w : World,
    Calls Tryz.prog 53 #[.int .i64 n, .int .i64 b, .bool true] w fun r w' => r = .returned (.string ⟨(digs true b n).toArray⟩) ∧ Below w.heap.size w w' := by
  intro k
  induction k with
  | zero =>
    intro n hk hm w
    obtain rfl : n = 0 := by omega
    have kd := fun W => digitOfS_up 0 (by omega) W
    rw [digs_lt (by omega)]
    have i1 : (0 : Int) < b := by omega
    have e : (⟨#[dch true 0]⟩ : ByteArray) = ⟨[dch true 0].toArray⟩ := rfl
    rw [e] at kd
    clear e
    generalize [dch true 0] = D at *
    have KD := Lib.hid kd
    clear kd
    go_enter Tryz.func53, Tryz.ntmps53
    go_wp2_with (go_at_call 81; (with_reducible refine Calls.mono (KD.out _) ?_); rintro r w1 ⟨rfl, rfl⟩)
    go_ret
    exact ⟨rfl, Below.refl _ _⟩
  | succ k ih =>
    intro n hk hm w
    by_cases h : n < b
    · have kd := fun W => digitOfS_up n (by omega) W
      rw [digs_lt h]
      have i1 : (n : Int) < b := by omega
      have e : (⟨#[dch true n]⟩ : ByteArray) = ⟨[dch true n].toArray⟩ := rfl
      rw [e] at kd
      clear e
      generalize [dch true n] = D at *
      have KD := Lib.hid kd
      clear kd
      clear ih
      go_enter Tryz.func53, Tryz.ntmps53
      go_wp2_with (go_at_call 81; (with_reducible refine Calls.mono (KD.out _) ?_); rintro r w1 ⟨rfl, rfl⟩)
      go_ret
      exact ⟨rfl, Below.refl _ _⟩
    · have hd := div_lt_of h2 (show b ≤ n by omega)
      have hr := Nat.mod_lt n (show 0 < b by omega)
      have k1 := fun W => ih (n / b) (by omega) (by omega) W
      have k2 := fun W => mBn (digitOfS_up (n % b) (by omega) W)
      have l1 := digs_40 (up := true) h2 (show n / b ≤ 999999999999 by omega)
      have i1 : ¬ (n : Int) < b := by omega
      have e1 := tdivN n b
      have e2 := tmodN n b
      rw [digs_ge h2 (by omega)]
      have e : (⟨#[dch true (n % b)]⟩ : ByteArray) = ⟨[dch true (n % b)].toArray⟩ := rfl
      rw [e] at k2
      clear e ih
      have l2 : [dch true (n % b)].length = 1 := rfl
      have hb0 : ¬ b = 0 := by omega
      generalize [dch true (n % b)] = D at *
      generalize digs true b (n / b) = E at *
      generalize n / b = q at *
      generalize n % b = m at *
      have w1 : IntKind.i64.wrap (q : Int) = q := by rw [IntKind.wrap_i64]; omega
      have w2 : IntKind.i64.wrap (m : Int) = m := by rw [IntKind.wrap_i64]; omega
      have hlen : ¬ (9223372036854775807 < E.length + 1) := by omega
      have K1 := Lib.hid k1; have K2 := Lib.hid k2
      clear k1 k2
      have hB := Below.refl w.heap.size w
      go_enter Tryz.func53, Tryz.ntmps53
      go_wp2
      refine wp_region_since (by kernel_rfl) (by kernel_rfl) ?_
      repeat (quiet_step (first | (go_at_call 53; with_reducible exact Calls.since_of (K1.out _)) | (go_at_call 81; with_reducible exact Calls.since_of (K2.out _))))
      refine wpQuiet_nil ?_
      intro w_ hw_
      obtain ⟨⟨w1, hb⟩, hw2⟩ := hw_
      have hw3 : w1 = w_ := hw2.symm
      clear hw2
      subst hw3
      replace hB := hB.trans (hb.mono hB.size)
      have hz := hb.size
      go_wp2
      go_ret
      exact ⟨ret_strN (cat_lN _ _), hB⟩
end Go.Proofs.YtkpdpohnbnpelaaGreatDoor
