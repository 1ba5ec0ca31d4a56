import Derived.Test.YtkpdpohnbnpelaaGreatDoorN3
namespace Go.Proofs.YtkpdpohnbnpelaaGreatDoor
open Go.RowKit
theorem mBn {fn : FuncId} {args : Array Value} {v : Value} {w : World} (h : Calls Tryz.prog fn args w fun r w' => r = .returned v ∧ w = w') : Calls Tryz.prog fn args w fun r w' => r = .returned v ∧ Below w.heap.size w w' := h.mono (by rintro r w1 ⟨rfl, rfl⟩; exact ⟨rfl, Below.refl _ _⟩)
theorem ret_strN {a b : ByteArray} (h : a = b) : Ending.returned (.string a) = .returned (.string b) := by rw [h]
theorem cat_lN (a b : List UInt8) : (⟨a.toArray⟩ : ByteArray) ++ ⟨b.toArray⟩ = ⟨(a ++ b).toArray⟩ := by
  apply ByteArray.ext
  rw [ByteArray.data_append]
  simp
theorem tdivN (a b : Nat) : ((a : Int)).tdiv b = ((a / b : Nat) : Int) := by rw [Int.tdiv_eq_ediv_of_nonneg (by omega)]; rfl
theorem tmodN (a b : Nat) : ((a : Int)).tmod b = ((a % b : Nat) : Int) := by rw [Int.tmod_eq_emod_of_nonneg (by omega)]; rfl
set_option maxRecDepth 100000 in
set_option maxHeartbeats 4000000 in
theorem inBaseS_low (b : Nat) (h2 : 2 ≤ b) (h16 : b ≤ 16) : ∀ (k n : Nat), n ≤ k → n ≤ 999999999999 → ∀ w : World,
    Calls Tryz.prog 53 #[.int .i64 n, .int .i64 b, .bool false] w fun r w' => r = .returned (.string ⟨(digs false b n).toArray⟩) ∧ Below w.heap.size w w' := by
  intro k
  induction k with
  | zero =>
    intro n hk hm w
    obtain rfl : n = 0 := by omega
    have kd := fun W => digitOfS_low 0 (by omega) W
    rw [digs_lt (by omega)]
    have i1 : (0 : Int) < b := by omega
    have e : (⟨#[dch false 0]⟩ : ByteArray) = ⟨[dch false 0].toArray⟩ := rfl
    rw [e] at kd
    clear e
    generalize [dch false 0] = D at *
    have KD := Lib.hid kd
    clear kd
    go_enter Tryz.func53, Tryz.ntmps53
    go_wp2_with (go_at_call 81; (with_reducible refine Calls.mono (KD.out _) ?_); rintro r w1 ⟨rfl, rfl⟩)
    go_ret
    exact ⟨rfl, Below.refl _ _⟩
  | succ k ih =>
    intro n hk hm w
    by_cases h : n < b
    · have kd := fun W => digitOfS_low n (by omega) W
      rw [digs_lt h]
      have i1 : (n : Int) < b := by omega
      have e : (⟨#[dch false n]⟩ : ByteArray) = ⟨[dch false n].toArray⟩ := rfl
      rw [e] at kd
      clear e
      generalize [dch false n] = D at *
      have KD := Lib.hid kd
      clear kd
      clear ih
      go_enter Tryz.func53, Tryz.ntmps53
      go_wp2_with (go_at_call 81; (with_reducible refine Calls.mono (KD.out _) ?_); rintro r w1 ⟨rfl, rfl⟩)
      go_ret
      exact ⟨rfl, Below.refl _ _⟩
    · have hd := div_lt_of h2 (show b ≤ n by omega)
      have hr := Nat.mod_lt n (show 0 < b by omega)
      have k1 := fun W => ih (n / b) (by omega) (by omega) W
      have k2 := fun W => mBn (digitOfS_low (n % b) (by omega) W)
      have l1 := digs_40 (up := false) h2 (show n / b ≤ 999999999999 by omega)
      have i1 : ¬ (n : Int) < b := by omega
      have e1 := tdivN n b
      have e2 := tmodN n b
      rw [digs_ge h2 (by omega)]
      have e : (⟨#[dch false (n % b)]⟩ : ByteArray) = ⟨[dch false (n % b)].toArray⟩ := rfl
      rw [e] at k2
      clear e ih
      have l2 : [dch false (n % b)].length = 1 := rfl
      have hb0 : ¬ b = 0 := by omega
      generalize [dch false (n % b)] = D at *
      generalize digs false b (n / b) = E at *
      generalize n / b = q at *
      generalize n % b = m at *
      have w1 : IntKind.i64.wrap (q : Int) = q := by rw [IntKind.wrap_i64]; omega
      have w2 : IntKind.i64.wrap (m : Int) = m := by rw [IntKind.wrap_i64]; omega
      have hlen : ¬ (9223372036854775807 < E.length + 1) := by omega
      have K1 := Lib.hid k1; have K2 := Lib.hid k2
      clear k1 k2
      have hB := Below.refl w.heap.size w
      go_enter Tryz.func53, Tryz.ntmps53
      go_wp2
      refine wp_region_since (by kernel_rfl) (by kernel_rfl) ?_
      repeat (quiet_step (first | (go_at_call 53; with_reducible exact Calls.since_of (K1.out _)) | (go_at_call 81; with_reducible exact Calls.since_of (K2.out _))))
      refine wpQuiet_nil ?_
      intro w_ hw_
      obtain ⟨⟨w1, hb⟩, hw2⟩ := hw_
      have hw3 : w1 = w_ := hw2.symm
      clear hw2
      subst hw3
      replace hB := hB.trans (hb.mono hB.size)
      have hz := hb.size
      go_wp2
      go_ret
      exact ⟨ret_strN (cat_lN _ _), hB⟩
end Go.Proofs.YtkpdpohnbnpelaaGreatDoor
