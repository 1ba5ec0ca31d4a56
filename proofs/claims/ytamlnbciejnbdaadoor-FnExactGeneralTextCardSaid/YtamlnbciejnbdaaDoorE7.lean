import Derived.Test.YtamlnbciejnbdaaDoorE6
namespace Go.Proofs.YtamlnbciejnbdaaDoor
open Go.RowKit
theorem greater_abs (a : Int) (ha : -1000000000000 ≤ a ∧ a ≤ 1000000000000) (w : World) : Calls Tryd.prog 111 #[.int .i64 a, .int .i64 (-a)] w fun r w' => r = .returned (.int .i64 ((a.natAbs : Nat) : Int)) ∧ w = w' := by
  by_cases h : a < -a
  · go_enter Tryd.func111, Tryd.ntmps111
    go_wp2
    all_goals go_ret
    all_goals exact ⟨ret_int (by omega), rfl⟩
  · have i1 : ¬ a < -a := h
    go_enter Tryd.func111, Tryd.ntmps111
    go_wp2
    all_goals go_ret
    all_goals exact ⟨ret_int (by omega), rfl⟩
set_option maxRecDepth 100000 in
set_option maxHeartbeats 2000000 in
theorem DigitsIn_10 (m : Nat) (hm : m ≤ 99) (w : World) (hT : PT w) :
    Calls Tryd.prog 121 #[.int .i64 m, .int .i64 10] w fun r w' => r = .returned (.string ⟨(digs false 10 m).toArray⟩) ∧ Below w.heap.size w w' := by
  have k1 := fun W => mBn (within_any m 0 999999999999 W)
  have k2 := fun W => mBn (within_any 10 2 16 W)
  rw [show inr (m : Int) 0 999999999999 = true by simp [inr]; omega] at k1
  rw [show inr (10 : Int) 2 16 = true by decide] at k2
  have k3 : ∀ W, PT W → Calls Tryd.prog 143 #[.int .i64 m, .int .i64 10] W fun r w' => r = .returned (.string ⟨(digs false 10 m).toArray⟩) ∧ Below W.heap.size W w' := fun W h => by
    have h := Tryd.strconv_FormatInt_10 (m : Int) (by omega) (by omega) W h
    rw [Lib.itoa_nonneg, decDigits_digs m m (Nat.le_refl _)] at h
    exact h.mono (by rintro r w1 ⟨rfl, k, os, rfl⟩; exact ⟨rfl, Lib.below_grow _ _ (Nat.le_refl _) _ _⟩)
  have hB := Below.refl w.heap.size w
  have K1 := Lib.hid k1; have K2 := Lib.hid k2; have K3 := Lib.hid k3
  clear k1 k2 k3
  go_enter Tryd.func121, Tryd.ntmps121
  go_wp2_with (first | (go_at_call 36; (with_reducible refine Calls.mono (K1.out _) ?_); rintro r w1 ⟨rfl, hb⟩; replace hB := hB.trans (hb.mono hB.size)) | (go_at_call 36; (with_reducible refine Calls.mono (K2.out _) ?_); rintro r w1 ⟨rfl, hb⟩; replace hB := hB.trans (hb.mono hB.size)) | (go_at_call 143; (with_reducible refine Calls.mono (K3.out _ (hT.on hB)) ?_); rintro r w1 ⟨rfl, hb⟩; replace hB := hB.trans (hb.mono hB.size)))
  all_goals go_ret
  all_goals exact ⟨rfl, hB⟩
/-- a power's digits: two at least -/
def pdL (m : Nat) : List UInt8 := (if m < 10 then [48] else []) ++ digs false 10 m
def sgn1 (pw : Int) : List UInt8 := if pw < 0 then [45] else [43]
/-- the text of a power of 10, behind the letter u -/
def powL (u : UInt8) (pw : Int) : List UInt8 := [u] ++ (sgn1 pw ++ pdL pw.natAbs)
theorem pd_wid {m : Nat} (h : m ≤ 99) : widL (digs false 10 m) 2 9 [] = pdL m ∧ (digs false 10 m).length ≤ 2 := by
  unfold pdL
  rw [widL_none]
  by_cases hm : m < 10
  · rw [if_pos hm, digs_lt hm]
    exact ⟨rfl, by simp⟩
  · rw [if_neg hm, digs_ge (by omega) (show 10 ≤ m by omega), digs_lt (show m / 10 < 10 by omega)]
    exact ⟨rfl, by simp⟩
theorem pd_len {m : Nat} (h : m ≤ 99) : (pdL m).length ≤ 3 := by
  have := (pd_wid h).2
  unfold pdL
  rw [List.length_append]
  split <;> simp <;> omega
theorem powL_len {u : UInt8} {pw : Int} (h : -99 ≤ pw ∧ pw ≤ 99) : (powL u pw).length ≤ 5 := by
  have := pd_len (m := pw.natAbs) (by omega)
  unfold powL sgn1
  split <;> simp <;> omega
set_option maxRecDepth 100000 in
set_option maxHeartbeats 4000000 in
theorem powerText_any (pw : Int) (hp : -99 ≤ pw ∧ pw ≤ 99) (w : World) (hT : PT w) :
    Calls Tryd.prog 76 #[.int .i64 pw] w fun r w' => r = .returned (.string ⟨(powL 101 pw).toArray⟩) ∧ Below w.heap.size w w' := by
  have kg := fun W => mBn (greater_abs pw (by omega) W)
  have kd := fun W (h : PT W) => DigitsIn_10 pw.natAbs (by omega) W h
  obtain ⟨e1, e2⟩ := pd_wid (m := pw.natAbs) (by omega)
  have kw := fun W => WidenDigits_any ⟨(digs false 10 pw.natAbs).toArray⟩ 2 9 ⟨#[]⟩ W (by show (digs false 10 pw.natAbs).length ≤ _; omega) (by decide)
  have ew : widW ⟨(digs false 10 pw.natAbs).toArray⟩ 2 9 ⟨#[]⟩ = ⟨(pdL pw.natAbs).toArray⟩ := by
    have := widW_yes (s := ⟨(digs false 10 pw.natAbs).toArray⟩) (wd := 2) (n := 9) (sep := ⟨#[]⟩) (by show (digs false 10 pw.natAbs).length ≤ 80; omega) (by omega) (by omega) (by omega) (by decide)
    rw [← e1]
    exact this
  rw [ew] at kw
  have hl := pd_len (m := pw.natAbs) (by omega)
  have c1 := cat_lN [101, 45] (pdL pw.natAbs)
  have c2 := cat_lN [101, 43] (pdL pw.natAbs)
  unfold powL sgn1
  clear e1 e2 ew
  generalize digs false 10 pw.natAbs = D at *
  generalize pdL pw.natAbs = PD at *
  have wn : IntKind.i64.wrap (-pw) = -pw := IntWalk.i64_in _ (by omega)
  have q1 : ¬ (9223372036854775807 < 2 + PD.length) := by omega
  have q2 : ¬ (9223372036854775807 < PD.length + 2) := by omega
  have hB := Below.refl w.heap.size w
  have KG := Lib.hid kg; have KD := Lib.hid kd; have KW := Lib.hid kw
  clear kg kd kw
  by_cases h : pw < 0
  · rw [if_pos h]
    go_enter Tryd.func76, Tryd.ntmps76
    go_wp2_with (first | (go_at_call 111; (with_reducible refine Calls.mono (KG.out _) ?_); rintro r w1 ⟨rfl, hb⟩; replace hB := hB.trans (hb.mono hB.size)) | (go_at_call 121; (with_reducible refine Calls.mono (KD.out _ (hT.on hB)) ?_); rintro r w1 ⟨rfl, hb⟩; replace hB := hB.trans (hb.mono hB.size)) | (go_at_call 70; (with_reducible refine Calls.mono (KW.out _) ?_); rintro r w1 ⟨rfl, hb⟩; replace hB := hB.trans (hb.mono hB.size)))
    all_goals go_ret
    all_goals exact ⟨ret_strN (by first | rfl | exact c1), hB⟩
  · rw [if_neg h]
    go_enter Tryd.func76, Tryd.ntmps76
    go_wp2_with (first | (go_at_call 111; (with_reducible refine Calls.mono (KG.out _) ?_); rintro r w1 ⟨rfl, hb⟩; replace hB := hB.trans (hb.mono hB.size)) | (go_at_call 121; (with_reducible refine Calls.mono (KD.out _ (hT.on hB)) ?_); rintro r w1 ⟨rfl, hb⟩; replace hB := hB.trans (hb.mono hB.size)) | (go_at_call 70; (with_reducible refine Calls.mono (KW.out _) ?_); rintro r w1 ⟨rfl, hb⟩; replace hB := hB.trans (hb.mono hB.size)))
    all_goals go_ret
    all_goals exact ⟨ret_strN (by first | rfl | exact c2), hB⟩
set_option maxRecDepth 100000 in
set_option maxHeartbeats 4000000 in
theorem expTextS_any (u : UInt8) (pw : Int) (hp : -99 ≤ pw ∧ pw ≤ 99) (w : World) :
    Calls Tryd.prog 40 #[.string ⟨#[u]⟩, .int .i64 pw] w fun r w' => r = .returned (.string ⟨(powL u pw).toArray⟩) ∧ Below w.heap.size w w' := by
  have kn := fun W => numberS_any pw.natAbs pw.natAbs (Nat.le_refl _) (by omega) W
  have hl := (pd_wid (m := pw.natAbs) (by omega)).2
  unfold powL sgn1 pdL
  generalize digs false 10 pw.natAbs = D at *
  have c0 := cat_lN [u] [45]
  have c1 := cat_lN [u] [43]
  have c2 := cat_lN [u, 45] [48]
  have c3 := cat_lN [u, 43] [48]
  have c4 := cat_lN [u, 45, 48] D
  have c5 := cat_lN [u, 43, 48] D
  have c6 := cat_lN [u, 45] D
  have c7 := cat_lN [u, 43] D
  have q1 : ¬ (9223372036854775807 < 3 + D.length) := by omega
  have q2 : ¬ (9223372036854775807 < 2 + D.length) := by omega
  have hB := Below.refl w.heap.size w
  by_cases h : pw < 0
  · have hneg : 0 - pw = (pw.natAbs : Int) := by omega
    have hneg2 : -pw = (pw.natAbs : Int) := by omega
    rw [if_pos h]
    have wm : IntKind.i64.wrap (pw.natAbs : Int) = pw.natAbs := IntWalk.i64_in _ (by omega)
    generalize pw.natAbs = m at *
    by_cases hm : m < 10
    · rw [if_pos hm]
      have i1 : (m : Int) < 10 := by omega
      have KN := Lib.hid kn
      clear kn
      go_enter Tryd.func40, Tryd.ntmps40
      go_wp2_with ((go_at_call 65; (with_reducible refine Calls.mono (KN.out _) ?_); rintro r w1 ⟨rfl, hb⟩; replace hB := hB.trans (hb.mono hB.size)))
      all_goals go_ret
      all_goals exact ⟨ret_strN (by first | rfl | (simp [cat_lN]; done) | (rw [c0, c2, c4]; rfl)), hB⟩
    · rw [if_neg hm]
      have i1 : ¬ (m : Int) < 10 := by omega
      have KN := Lib.hid kn
      clear kn
      go_enter Tryd.func40, Tryd.ntmps40
      go_wp2_with ((go_at_call 65; (with_reducible refine Calls.mono (KN.out _) ?_); rintro r w1 ⟨rfl, hb⟩; replace hB := hB.trans (hb.mono hB.size)))
      all_goals go_ret
      all_goals exact ⟨ret_strN (by first | rfl | (simp [cat_lN]; done) | (rw [c0, c6]; rfl)), hB⟩
  · obtain ⟨m, rfl⟩ := Int.eq_ofNat_of_zero_le (show 0 ≤ pw by omega)
    rw [if_neg h]
    rw [show ((m : Nat) : Int).natAbs = m from rfl] at kn ⊢
    by_cases hm : m < 10
    · rw [if_pos hm]
      have i1 : (m : Int) < 10 := by omega
      have KN := Lib.hid kn
      clear kn
      go_enter Tryd.func40, Tryd.ntmps40
      go_wp2_with ((go_at_call 65; (with_reducible refine Calls.mono (KN.out _) ?_); rintro r w1 ⟨rfl, hb⟩; replace hB := hB.trans (hb.mono hB.size)))
      all_goals go_ret
      all_goals exact ⟨ret_strN (by first | rfl | (simp [cat_lN]; done) | (rw [c1, c3, c5]; rfl)), hB⟩
    · rw [if_neg hm]
      have i1 : ¬ (m : Int) < 10 := by omega
      have KN := Lib.hid kn
      clear kn
      go_enter Tryd.func40, Tryd.ntmps40
      go_wp2_with ((go_at_call 65; (with_reducible refine Calls.mono (KN.out _) ?_); rintro r w1 ⟨rfl, hb⟩; replace hB := hB.trans (hb.mono hB.size)))
      all_goals go_ret
      all_goals exact ⟨ret_strN (by first | rfl | (simp [cat_lN]; done) | (rw [c1, c7]; rfl)), hB⟩
end Go.Proofs.YtamlnbciejnbdaaDoor
