import Derived.Test.YtebheehjhnaklaaGreatDoorY2
import Derived.Test.YtebheehjhnaklaaGreatDoorC3T
namespace Go.Proofs.YtebheehjhnaklaaGreatDoor
open Go.RowKit
def lowD : List UInt8 := [48, 49, 50, 51, 52, 53, 54, 55, 56, 57, 97, 98, 99, 100, 101, 102]
def upD : List UInt8 := [48, 49, 50, 51, 52, 53, 54, 55, 56, 57, 65, 66, 67, 68, 69, 70]
theorem dg_parts (b : UInt8) : (0 ≤ Lib.indexByte lowD b ∧ Lib.indexByte lowD b = dg b.toNat) ∨ (Lib.indexByte lowD b = -1 ∧ 0 ≤ Lib.indexByte upD b ∧ Lib.indexByte upD b = dg b.toNat) ∨ (Lib.indexByte lowD b = -1 ∧ Lib.indexByte upD b = -1 ∧ dg b.toNat = 16) := by
  have h := all_bytes (fun b => (decide (0 ≤ Lib.indexByte lowD b) && (Lib.indexByte lowD b == dg b.toNat)) || ((Lib.indexByte lowD b == -1) && decide (0 ≤ Lib.indexByte upD b) && (Lib.indexByte upD b == dg b.toNat)) || ((Lib.indexByte lowD b == -1) && (Lib.indexByte upD b == -1) && (dg b.toNat == 16))) (by kernel_rfl) b
  simp only [Bool.or_eq_true, Bool.and_eq_true, decide_eq_true_eq, beq_iff_eq] at h
  rcases h with (h | ⟨⟨a, b⟩, c⟩) | ⟨⟨a, b⟩, c⟩
  · exact .inl h
  · exact .inr (.inl ⟨a, b, c⟩)
  · exact .inr (.inr ⟨a, b, c⟩)
theorem valRun_step {base n : Int} {s : ByteArray} {k : Nat} (h : k < s.size) : vRun base (s.data.toList.drop k) n = if dg (s[k].toNat) ≥ base then -1 else if n * base + dg (s[k].toNat) > 999999999999 then -1 else vRun base (s.data.toList.drop (k + 1)) (n * base + dg (s[k].toNat)) := by
  rw [drop_at h]; rfl
set_option maxHeartbeats 2000000 in
set_option maxRecDepth 100000 in
theorem ValueIn_any (s : ByteArray) (base : Int) (hs : s.size ≤ 9223372036854775807) (w : World) :
    Calls Tryz.prog 57 #[.string s, .int .i64 base] w fun r w' => r = .returned (.int .i64 (valW s base)) ∧ w = w' := by
  by_cases h0 : s.size = 0
  · have hn : s = ⟨#[]⟩ := by
      rcases bytes_cases s with h | ⟨b, rfl⟩ | h
      · exact h
      · exact absurd h0 (by simp [ByteArray.size])
      · omega
    subst hn
    go_enter Tryz.func57, Tryz.ntmps57
    go_wp2
    go_ret
    exact ⟨rfl, rfl⟩
  have hne : s.toList.isEmpty = false := nonempty_list (by omega)
  by_cases hb : 2 ≤ base ∧ base ≤ 16
  · have k1 := fun W => within_any base 2 16 W
    rw [show inr base 2 16 = true by simp [inr]; omega] at k1
    have hv : valW s base = vRun base s.data.toList 0 := by unfold valW; rw [if_neg h0, if_neg (by omega), if_neg (by omega)]
    rw [hv]
    have K1 := Lib.hid k1
    clear k1 hv
    go_enter Tryz.func57, Tryz.ntmps57
    go_wp2_with (go_at_call 44; (with_reducible refine Calls.mono (K1.out _) ?_); rintro r w1 ⟨rfl, rfl⟩)
    go_loopg [5, 17] s.size (fun g s4 s17 wr => ∃ (k : Nat) (n : Int), wr = w ∧ s4 = .int .i64 n ∧ s17 = .int .i64 k ∧ k ≤ s.size ∧ 0 ≤ n ∧ n ≤ 999999999999 ∧ Aside (g = s.size - k) ∧ Aside (vRun base (s.data.toList.drop k) n = vRun base s.data.toList 0))
    case atStart => exact ⟨0, 0, rfl, rfl, rfl, by omega, by omega, by omega, by show _ = _; omega, by show _ = _; simp⟩
    case round =>
      obtain ⟨k, n, rfl, rfl, rfl, hk, hn0, hn1, hg, hv⟩ := hrel
      have hg' := hg.out
      have hv' := hv.out
      clear hg hv
      by_cases hlt : k < s.size
      · have hlt1 : (k : Int) < s.size := by omega
        rw [valRun_step hlt] at hv'
        have p0 : 0 ≤ n * base := Int.mul_nonneg hn0 (by omega)
        have p1 : n * base ≤ 999999999999 * 16 := Int.mul_le_mul hn1 hb.2 (by omega) (by omega)
        generalize eP : n * base = P at *
        have u0 : (0 : Int) ≤ s[k].toNat := by omega
        have u1 : (s[k].toNat : Int) < 256 := by have := s[k].toNat_lt; omega
        have kd := digitValue_any (s[k].toNat) u0 u1
        have d0 := dg_ge (s[k].toNat)
        have d1 := dg_le (s[k].toNat)
        generalize dg (s[k].toNat) = D at *
        have HV := Lib.hid hv'
        clear hv'
        have KD := Lib.hid kd
        clear kd
        go_wp2_with (go_at_call 109; (with_reducible refine Calls.mono (KD.out _) ?_); rintro r w1 ⟨rfl, rfl⟩)
        · rename_i q
          go_ret
          exact ⟨ret_int (by have := HV.out; rw [if_pos (by omega)] at this; exact this), rfl⟩
        · rename_i q1 q2
          go_ret
          exact ⟨ret_int (by have := HV.out; rw [if_neg (by omega), if_pos (by omega)] at this; exact this), rfl⟩
        · rename_i q1 q2
          have hv2 := HV.out
          rw [if_neg (by omega), if_neg (by omega)] at hv2
          go_roundg (s.size - (k + 1))
          case measure => omega
          case rel => exact ⟨k + 1, P + D, rfl, rfl, by go_num, by omega, by omega, by omega, by show _ = _; rfl, hv2⟩
      · have hlt1 : ¬ (k : Int) < s.size := by omega
        rw [drop_end (by omega)] at hv'
        go_wp2
        go_ret
        exact ⟨ret_int hv', rfl⟩
  · have k1 := fun W => within_any base 2 16 W
    rw [show inr base 2 16 = false by simp [inr]; omega] at k1
    have hv : valW s base = -1 := by unfold valW; rw [if_neg h0]; by_cases h : base < 2; · rw [if_pos h]
                                     rw [if_neg h, if_pos (by omega)]
    rw [hv]
    have K1 := Lib.hid k1
    clear k1 hv
    go_enter Tryz.func57, Tryz.ntmps57
    go_wp2_with (go_at_call 44; (with_reducible refine Calls.mono (K1.out _) ?_); rintro r w1 ⟨rfl, rfl⟩)
    all_goals go_ret
    all_goals exact ⟨rfl, rfl⟩
def sRun (base : Int) (l : List UInt8) (n : Int) : Int := if n > 999999999999 then -1 else vRun base l n
theorem sRun_bad {base n : Int} {s : ByteArray} {k : Nat} (h : k < s.size) (hd : dg s[k].toNat ≥ base ∨ n > 999999999999) : sRun base (s.data.toList.drop k) n = -1 := by
  unfold sRun
  by_cases hm : n > 999999999999
  · rw [if_pos hm]
  · rw [if_neg hm, valRun_step h, if_pos (by omega)]
theorem sRun_good {base n : Int} {s : ByteArray} {k : Nat} (h : k < s.size) (hd : ¬ dg s[k].toNat ≥ base) (hm : ¬ n > 999999999999) : sRun base (s.data.toList.drop k) n = sRun base (s.data.toList.drop (k + 1)) (n * base + dg s[k].toNat) := by
  conv => lhs; unfold sRun
  rw [if_neg hm, valRun_step h, if_neg hd]
  rfl
set_option maxRecDepth 100000 in
set_option maxHeartbeats 2000000 in
theorem valueInS_any (s : ByteArray) (base : Int) (hs : s.size ≤ 9223372036854775807) (hb : 2 ≤ base ∧ base ≤ 16) (w : World) :
    Calls Tryz.prog 185 #[.string s, .int .i64 base] w fun r w' => r = .returned (.int .i64 (valW s base)) ∧ w = w' := by
  by_cases h0 : s.size = 0
  · have hn : s = ⟨#[]⟩ := by
      rcases bytes_cases s with h | ⟨b, rfl⟩ | h
      · exact h
      · exact absurd h0 (by simp [ByteArray.size])
      · omega
    subst hn
    go_enter Tryz.func185, Tryz.ntmps185
    go_wp2
    refine wp_loop_rounds 1 ?_
    rw [rounds_succ]
    go_wp2
    go_ret
    exact ⟨rfl, rfl⟩
  have hne : s.toList.isEmpty = false := nonempty_list (by omega)
  have hv0 : valW s base = sRun base s.data.toList 0 := by unfold valW sRun; rw [if_neg h0, if_neg (show ¬ base < 2 by omega), if_neg (show ¬ 16 < base by omega)]; rfl
  rw [hv0]
  clear hv0
  go_enter Tryz.func185, Tryz.ntmps185
  go_wp2
  go_loopg [5, 6] s.size (fun g s4 s5 wr => ∃ (k : Nat) (n : Int), wr = w ∧ s4 = .int .i64 n ∧ s5 = .int .i64 k ∧ k ≤ s.size ∧ 0 ≤ n ∧ n ≤ 16999999999999 ∧ Aside (g = s.size - k) ∧ Aside (sRun base (s.data.toList.drop k) n = sRun base s.data.toList 0))
  case atStart => exact ⟨0, 0, rfl, rfl, rfl, by omega, by omega, by omega, by show _ = _; omega, by show _ = _; simp⟩
  case round =>
    obtain ⟨k, n, rfl, rfl, rfl, hk, hn0, hn1, hg, hv⟩ := hrel
    have hg' := hg.out
    have hv' := hv.out
    clear hg hv
    by_cases hlt : k < s.size
    · have hlt1 : (k : Int) < s.size := by omega
      have g1 := fun h => sRun_bad (base := base) (n := n) hlt h
      have g2 := fun h h2 => sRun_good (base := base) (n := n) hlt h h2
      have kl := indexOfS_any ⟨#[48, 49, 50, 51, 52, 53, 54, 55, 56, 57, 97, 98, 99, 100, 101, 102]⟩ s[k] (by decide)
      have ku := indexOfS_any ⟨#[48, 49, 50, 51, 52, 53, 54, 55, 56, 57, 65, 66, 67, 68, 69, 70]⟩ s[k] (by decide)
      have hd := dg_parts s[k]
      have d1 := dg_le (s[k].toNat)
      change ∀ w, Calls _ _ _ w fun r w' => r = .returned (.int .i64 (Lib.indexByte lowD s[k])) ∧ w = w' at kl
      change ∀ w, Calls _ _ _ w fun r w' => r = .returned (.int .i64 (Lib.indexByte upD s[k])) ∧ w = w' at ku
      generalize Lib.indexByte lowD s[k] = LO at *
      generalize Lib.indexByte upD s[k] = UP at *
      have G1 := Lib.hid g1; have G2 := Lib.hid g2; have HV := Lib.hid hv'
      clear g1 g2 hv'
      generalize dg (s[k].toNat) = D at *
      have KL := Lib.hid kl; have KU := Lib.hid ku
      clear kl ku
      by_cases hm : n ≤ 999999999999
      · have p0 : 0 ≤ n * base := Int.mul_nonneg hn0 (by omega)
        have p1 : n * base ≤ 999999999999 * 16 := Int.mul_le_mul hm hb.2 (by omega) (by omega)
        generalize eP : n * base = P at *
        go_wp2_with (first | (go_at_call 117; (with_reducible refine Calls.mono (KL.out _) ?_); rintro r w1 ⟨rfl, rfl⟩) | (go_at_call 117; (with_reducible refine Calls.mono (KU.out _) ?_); rintro r w1 ⟨rfl, rfl⟩))
        · rename_i q1 q2 q3 q4
          have e := G2.out (by omega) (by omega)
          rw [HV.out, show D = UP by omega] at e
          go_roundg (s.size - (k + 1))
          case measure => omega
          case rel => exact ⟨k + 1, P + UP, rfl, by go_num, by go_num, by omega, by omega, by omega, by show _ = _; rfl, e.symm⟩
        · rename_i q1 q2 q3
          go_ret
          exact ⟨ret_int (by rw [← HV.out]; exact (G1.out (.inl (by omega))).symm), rfl⟩
        · rename_i q1 q2
          go_ret
          exact ⟨ret_int (by rw [← HV.out]; exact (G1.out (.inl (by omega))).symm), rfl⟩
        · rename_i q1 q2 q3
          have e := G2.out (by omega) (by omega)
          rw [HV.out, show D = LO by omega] at e
          go_roundg (s.size - (k + 1))
          case measure => omega
          case rel => exact ⟨k + 1, P + LO, rfl, by go_num, by go_num, by omega, by omega, by omega, by show _ = _; rfl, e.symm⟩
        · rename_i q1 q2
          go_ret
          exact ⟨ret_int (by rw [← HV.out]; exact (G1.out (.inl (by omega))).symm), rfl⟩
      · go_wp2_with (first | (go_at_call 117; (with_reducible refine Calls.mono (KL.out _) ?_); rintro r w1 ⟨rfl, rfl⟩) | (go_at_call 117; (with_reducible refine Calls.mono (KU.out _) ?_); rintro r w1 ⟨rfl, rfl⟩))
        all_goals go_ret
        all_goals exact ⟨ret_int (by rw [← HV.out]; exact (G1.out (.inr (by omega))).symm), rfl⟩
    · have hlt1 : ¬ (k : Int) < s.size := by omega
      rw [drop_end (by omega)] at hv'
      by_cases hm : n ≤ 999999999999
      · unfold sRun at hv'
        rw [if_neg (by omega)] at hv'
        have HV := Lib.hid hv'
        clear hv'
        go_wp2
        all_goals go_ret
        all_goals exact ⟨ret_int HV.out, rfl⟩
      · unfold sRun at hv'
        rw [if_pos (by omega)] at hv'
        have HV := Lib.hid hv'
        clear hv'
        go_wp2
        all_goals go_ret
        all_goals exact ⟨ret_int HV.out, rfl⟩
end Go.Proofs.YtebheehjhnaklaaGreatDoor
