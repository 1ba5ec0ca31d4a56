import Derived.Test.YtamlnbciejnbdaaGreatDoorE2
namespace Go.Proofs.YtamlnbciejnbdaaGreatDoor
open Go.RowKit
structure RnF (n : Bool) (c e : Int) (p : Nat) : Prop where
  c0 : (Fd.roundedS ⟨n, c, e⟩ (0 - p)).c = (fxC c e p : Int)
  ez : fxC c e p ≠ 0 → max 0 ((Fd.roundedS ⟨n, c, e⟩ (0 - p)).e + p) = (((e + p).toNat : Nat) : Int)
  eb : -60 ≤ (Fd.roundedS ⟨n, c, e⟩ (0 - p)).e ∧ (Fd.roundedS ⟨n, c, e⟩ (0 - p)).e ≤ 60
theorem rq_zero (k : Int) : Fd.rq 0 k = 0 := by
  have hP := Fd.p10_pos k
  unfold Fd.rq
  rw [Int.zero_ediv, Int.zero_emod]
  split <;> omega
theorem rn_facts (n : Bool) {c e : Int} {p : Nat} (h0 : 0 ≤ c) (h1 : c ≤ 999999999) (h2 : -24 ≤ e) (h3 : e ≤ 24) (h4 : e + p ≤ 40) (h5 : p ≤ 29) : RnF n c e p := by
  have F := fx_facts false (c := c) (e := e) (p := p) h0 h1 h2 h3 h4 h5
  have f1 := F.c0
  have hk : -(p : Int) - e = 0 - (p : Int) - e := by omega
  rw [hk] at f1
  by_cases ha : 0 - (p : Int) - e ≤ 0
  · have e1 : Fd.roundedS ⟨n, c, e⟩ (0 - p) = ⟨n, c, e⟩ := by unfold Fd.roundedS; rw [if_pos (.inl ha)]
    have e2 : Fd.dropI ⟨false, c, e⟩ (0 - (p : Int) - e) = ⟨false, c, e⟩ := by unfold Fd.dropI; rw [if_pos ha]
    rw [e2] at f1
    refine ⟨by rw [e1]; exact f1, fun _ => ?_, by rw [e1]; exact ⟨by show -60 ≤ e; omega, by show e ≤ 60; omega⟩⟩
    rw [e1]
    show max 0 (e + (p : Int)) = _
    omega
  · by_cases hz : c = 0
    · subst hz
      have e1 : Fd.roundedS ⟨n, 0, e⟩ (0 - p) = ⟨n, 0, e⟩ := by unfold Fd.roundedS; rw [if_pos (.inr rfl)]
      have hC : (fxC 0 e p : Int) = 0 := by
        rw [← f1]
        unfold Fd.dropI
        rw [if_neg ha]
        split
        · rfl
        · exact rq_zero _
      refine ⟨by rw [e1, hC], fun h => absurd (by omega) h, by rw [e1]; exact ⟨by show -60 ≤ e; omega, by show e ≤ 60; omega⟩⟩
    · have hF : ¬ (0 - (p : Int) - e ≤ 0 ∨ c = 0) := by omega
      by_cases h9 : 9 < 0 - (p : Int) - e
      · have e1 : Fd.roundedS ⟨n, c, e⟩ (0 - p) = Fd.D.z := by unfold Fd.roundedS; rw [if_neg hF, if_pos h9]
        have e2 : Fd.dropI ⟨false, c, e⟩ (0 - (p : Int) - e) = Fd.D.z := by unfold Fd.dropI; rw [if_neg ha, if_pos h9]
        rw [e2] at f1
        have hC : (fxC c e p : Int) = 0 := f1.symm
        exact ⟨by rw [e1]; exact f1, fun h => absurd (by omega) h, by rw [e1]; exact ⟨by decide, by decide⟩⟩
      · have e1 : Fd.roundedS ⟨n, c, e⟩ (0 - p) = ⟨n && decide (0 < Fd.rq c (0 - p - e)), Fd.rq c (0 - p - e), 0 - p⟩ := by unfold Fd.roundedS; rw [if_neg hF, if_neg h9]
        have e2 : Fd.dropI ⟨false, c, e⟩ (0 - (p : Int) - e) = ⟨false, Fd.rq c (0 - p - e), e + (0 - p - e)⟩ := by unfold Fd.dropI; rw [if_neg ha, if_neg h9]
        rw [e2] at f1
        refine ⟨by rw [e1]; exact f1, fun _ => ?_, by rw [e1]; exact ⟨by show -60 ≤ 0 - (p : Int); omega, by show 0 - (p : Int) ≤ 60; omega⟩⟩
        rw [e1]
        show max 0 (0 - (p : Int) + p) = _
        omega
theorem fx_zero {c e : Int} {p : Nat} (h : fxC c e p = 0) : fxA c e p = [48] ∧ fxB c e p = zeros p := by
  have hL : fxL c e p = 48 :: zeros p := by
    unfold fxL fxD
    rw [if_pos h, widL_none]
    show zeros (max (p + 1) 0 - 0) ++ [] = _
    rw [show max (p + 1) 0 - 0 = p + 1 by omega, List.append_nil]
    rfl
  unfold fxA fxB
  rw [hL, show (48 :: zeros p).length - p = 1 by rw [List.length_cons, zeros_len]; omega]
  exact ⟨rfl, rfl⟩
set_option maxRecDepth 100000 in
set_option maxHeartbeats 8000000 in
theorem fixedPartsS_any (n : Bool) (c e : Int) (p : Nat) (w : World) (h0 : 0 ≤ c) (h1 : c ≤ 999999999) (h2 : -24 ≤ e) (h3 : e ≤ 24) (h4 : e + p ≤ 40) (h5 : p ≤ 29) :
    Calls Tryz.prog 47 #[.agg #[.bool n, .int .i64 c, .int .i64 e], .int .i64 p] w fun r w' => r = .returned (.tuple #[.string ⟨(fxA c e p).toArray⟩, .string ⟨(fxB c e p).toArray⟩]) ∧ Below w.heap.size w w' := by
  obtain ⟨r1, r2, r3⟩ := rn_facts n (c := c) (e := e) (p := p) h0 h1 h2 h3 h4 h5
  rw [show (0 : Int) - p = -(p : Int) by omega] at r1 r2 r3
  have F := fx_facts n (c := c) (e := e) (p := p) h0 h1 h2 h3 h4 h5
  have f2 := F.cb
  have hDl := fxD_len f2 h4
  have hFl := fxL_len f2 h4 h5
  have h30 := digs_30 f2
  have kd := fun W => roundedS_any n c e (-(p : Int)) W h0 h1 h2 h3 (by omega) (by omega)
  rw [r1] at kd
  have kn := fun W => numberS_any (fxC c e p) (fxC c e p) (Nat.le_refl _) (by omega) W
  have wn : IntKind.i64.wrap (0 - (p : Int)) = 0 - (p : Int) := IntWalk.i64_in _ (by omega)
  have wn2 : IntKind.i64.wrap (-(p : Int)) = -(p : Int) := IntWalk.i64_in _ (by omega)
  have kz0 := fun W => mBn (zerosS_any p (by omega) W)
  have zb := C3.new w (.bool n) (.int .i64 c) (.int .i64 e) 24
  have hB : Below w.heap.size w (w.alloc (.cells #[.bool n, .int .i64 c, .int .i64 e] 24)) := Below.alloc (Below.refl _ _) (Nat.le_refl _) _
  have zz := zb
  obtain ⟨x0, x1, x2, x3, x4, x5, x6⟩ := zz
  by_cases hC : fxC c e p = 0
  · obtain ⟨q1, q2⟩ := fx_zero hC
    rw [q1, q2]
    rw [hC] at kd kn
    rw [digs_lt (by omega)] at kn
    generalize (Fd.roundedS ⟨n, c, e⟩ (-(p : Int))).e = E2 at *
    generalize (Fd.roundedS ⟨n, c, e⟩ (-(p : Int))).n = nb at *
    have KD := Lib.hid kd; have KN := Lib.hid kn; have KZ0 := Lib.hid kz0
    clear kd kn kz0
    clear r1 r2 r3 F f2 hDl hFl h30 q1 q2 hC
    go_enter Tryz.func47, Tryz.ntmps47
    go_wp2_with ((go_at_call 93; (with_reducible refine Calls.mono (KD.out _) ?_); rintro r w1 ⟨rfl, hb⟩; replace hB := hB.trans (hb.mono hB.size); have hz := hB.size; replace zb := C3.carry zb hb; have zz := zb; obtain ⟨x0, x1, x2, x3, x4, x5, x6⟩ := zz))
    have za := C3.new w1 (.bool nb) (.int .i64 0) (.int .i64 E2) 24
    replace hB : Below w.heap.size w (w1.alloc (.cells #[.bool nb, .int .i64 0, .int .i64 E2] 24)) := hB.alloc (by omega) _
    have zz := za
    obtain ⟨x0, x1, x2, x3, x4, x5, x6⟩ := zz
    go_wp2_with (first | (go_at_call 94; (with_reducible refine Calls.mono (KN.out _) ?_); rintro r w1 ⟨rfl, hb⟩; replace hB := hB.trans (hb.mono hB.size); have hz := hB.size; replace za := C3.carry za hb; have zz := za; obtain ⟨x0, x1, x2, x3, x4, x5, x6⟩ := zz) | (go_at_call 95; (with_reducible refine Calls.mono (KZ0.out _) ?_); rintro r w1 ⟨rfl, hb⟩; replace hB := hB.trans (hb.mono hB.size); have hz := hB.size; replace za := C3.carry za hb; have zz := za; obtain ⟨x0, x1, x2, x3, x4, x5, x6⟩ := zz))
    all_goals go_ret2
    all_goals exact ⟨rfl, hB⟩
  · have hz := r2 hC
    have ez0 : ((fxC c e p : Int) == 0) = false := by simp; omega
    have hD : fxD c e p = digs false 10 (fxC c e p) ++ zeros (e + p).toNat := if_neg hC
    have hL : fxL c e p = zeros (max (p + 1) (fxD c e p).length - (fxD c e p).length) ++ fxD c e p := widL_none _ _ _
    have kz := fun W => mBn (zerosS_any (e + p).toNat (by omega) W)
    have hcat := cat_lN (digs false 10 (fxC c e p)) (zeros (e + p).toNat)
    rw [← hD] at hcat
    have hll : (fxD c e p).length = (digs false 10 (fxC c e p)).length + (e + p).toNat := by rw [hD, List.length_append, zeros_len]
    have hzl := zeros_len (e + p).toNat
    have ea : (⟨(fxL c e p).toArray⟩ : ByteArray).extract 0 ((fxL c e p).length - p) = ⟨(fxA c e p).toArray⟩ := ext_take _ _
    have eb : (⟨(fxL c e p).toArray⟩ : ByteArray).extract ((fxL c e p).length - p) (fxL c e p).length = ⟨(fxB c e p).toArray⟩ := ext_drop _ _
    have hq : ((fxL c e p).length : Int) - p = (((fxL c e p).length - p : Nat) : Int) := by omega
    have hq1 : (fxL c e p).length - p ≤ (fxL c e p).length := by omega
    have hFb := hFl.2
    have hZb : (e + p).toNat ≤ 40 := by omega
    clear r1 r2 F f2 hD hFl
    generalize (Fd.roundedS ⟨n, c, e⟩ (-(p : Int))).e = E2 at *
    generalize (Fd.roundedS ⟨n, c, e⟩ (-(p : Int))).n = nb at *
    generalize digs false 10 (fxC c e p) = D at *
    generalize zeros (e + p).toNat = Zs at *
    generalize (e + p).toNat = z at *
    generalize fxC c e p = C at *
    by_cases hlp : (fxD c e p).length ≤ p
    · have kz2 := fun W => mBn (zerosS_any (p + 1 - (fxD c e p).length) (by omega) W)
      rw [show max (p + 1) (fxD c e p).length - (fxD c e p).length = p + 1 - (fxD c e p).length by omega] at hL
      have hcat2 := cat_lN (zeros (p + 1 - (fxD c e p).length)) (fxD c e p)
      rw [← hL] at hcat2
      have hz2l := zeros_len (p + 1 - (fxD c e p).length)
      have hsub : (p : Int) + 1 - (fxD c e p).length = ((p + 1 - (fxD c e p).length : Nat) : Int) := by omega
      have hFl2 : (fxL c e p).length = p + 1 := by rw [hL, List.length_append, hz2l]; omega
      have i1 : ((fxD c e p).length : Int) ≤ p := by omega
      have hDb : (fxD c e p).length ≤ 70 := hDl
      clear hL hFl2 hll
      generalize zeros (p + 1 - (fxD c e p).length) = Z2 at *
      generalize p + 1 - (fxD c e p).length = z2 at *
      generalize fxD c e p = FD at *
      generalize fxA c e p = FA at *
      generalize fxB c e p = FB at *
      generalize fxL c e p = FL at *
      have hFz : (⟨FL.toArray⟩ : ByteArray).size = FL.length := rfl
      have hDz : (⟨FD.toArray⟩ : ByteArray).size = FD.length := rfl
      have wz2 : IntKind.i64.wrap (z2 : Int) = z2 := IntWalk.i64_in _ (by omega)
      have KD := Lib.hid kd; have KN := Lib.hid kn; have KZ := Lib.hid kz; have KZ2 := Lib.hid kz2
      clear kd kn kz kz2
      generalize hqq : FL.length - p = q at *
      clear hqq
      have b1 : ¬ (9223372036854775807 < D.length + z) := by omega
      have b1x : ¬ (9223372036854775807 < D.length + Zs.length) := by omega
      have b1y : ¬ (9223372036854775807 < Z2.length + FD.length) := by omega
      have b1z : ¬ (9223372036854775807 < z2 + FD.length) := by omega
      have b2 : ¬ (q : Int) < 0 := by omega
      have b3 : (q : Int) ≤ FL.length := by omega
      have wq : IntKind.i64.wrap (q : Int) = q := IntWalk.i64_in _ (by omega)
      go_enter Tryz.func47, Tryz.ntmps47
      go_wp2_with ((go_at_call 93; (with_reducible refine Calls.mono (KD.out _) ?_); rintro r w1 ⟨rfl, hb⟩; replace hB := hB.trans (hb.mono hB.size); have hz := hB.size; replace zb := C3.carry zb hb; have zz := zb; obtain ⟨x0, x1, x2, x3, x4, x5, x6⟩ := zz))
      have za := C3.new w1 (.bool nb) (.int .i64 C) (.int .i64 E2) 24
      replace hB : Below w.heap.size w (w1.alloc (.cells #[.bool nb, .int .i64 C, .int .i64 E2] 24)) := hB.alloc (by omega) _
      have zz := za
      obtain ⟨x0, x1, x2, x3, x4, x5, x6⟩ := zz
      go_wp2_with (first | (go_at_call 94; (with_reducible refine Calls.mono (KN.out _) ?_); rintro r w1 ⟨rfl, hb⟩; replace hB := hB.trans (hb.mono hB.size); have hz := hB.size; replace za := C3.carry za hb; have zz := za; obtain ⟨x0, x1, x2, x3, x4, x5, x6⟩ := zz) | (go_at_call 95; (with_reducible refine Calls.mono (KZ.out _) ?_); rintro r w1 ⟨rfl, hb⟩; replace hB := hB.trans (hb.mono hB.size); have hz := hB.size; replace za := C3.carry za hb; have zz := za; obtain ⟨x0, x1, x2, x3, x4, x5, x6⟩ := zz) | (go_at_call 95; (with_reducible refine Calls.mono (KZ2.out _) ?_); rintro r w1 ⟨rfl, hb⟩; replace hB := hB.trans (hb.mono hB.size); have hz := hB.size; replace za := C3.carry za hb; have zz := za; obtain ⟨x0, x1, x2, x3, x4, x5, x6⟩ := zz))
      go_quiet (fail)
      go_wp2
      all_goals go_ret2
      all_goals exact ⟨rfl, by repeat (first | exact hB | refine below_drewN ?_ _ | refine Below.drew ?_)⟩
    · have hfz : max (p + 1) (fxD c e p).length - (fxD c e p).length = 0 := by omega
      rw [hfz, show zeros 0 = [] from rfl, List.nil_append] at hL
      rw [hL] at ea eb hq hq1 hFb
      have i1 : ¬ ((fxD c e p).length : Int) ≤ p := by omega
      have hDb : (fxD c e p).length ≤ 70 := hDl
      clear hL hfz hll
      generalize fxD c e p = FD at *
      generalize fxA c e p = FA at *
      generalize fxB c e p = FB at *
      have hDz : (⟨FD.toArray⟩ : ByteArray).size = FD.length := rfl
      have kz2 := kz
      have KD := Lib.hid kd; have KN := Lib.hid kn; have KZ := Lib.hid kz; have KZ2 := Lib.hid kz2
      clear kd kn kz kz2
      generalize hqq : FD.length - p = q at *
      clear hqq
      have b1 : ¬ (9223372036854775807 < D.length + z) := by omega
      have b1x : ¬ (9223372036854775807 < D.length + Zs.length) := by omega
      have b2 : ¬ (q : Int) < 0 := by omega
      have b3 : (q : Int) ≤ FD.length := by omega
      have wq : IntKind.i64.wrap (q : Int) = q := IntWalk.i64_in _ (by omega)
      go_enter Tryz.func47, Tryz.ntmps47
      go_wp2_with ((go_at_call 93; (with_reducible refine Calls.mono (KD.out _) ?_); rintro r w1 ⟨rfl, hb⟩; replace hB := hB.trans (hb.mono hB.size); have hz := hB.size; replace zb := C3.carry zb hb; have zz := zb; obtain ⟨x0, x1, x2, x3, x4, x5, x6⟩ := zz))
      have za := C3.new w1 (.bool nb) (.int .i64 C) (.int .i64 E2) 24
      replace hB : Below w.heap.size w (w1.alloc (.cells #[.bool nb, .int .i64 C, .int .i64 E2] 24)) := hB.alloc (by omega) _
      have zz := za
      obtain ⟨x0, x1, x2, x3, x4, x5, x6⟩ := zz
      go_wp2_with (first | (go_at_call 94; (with_reducible refine Calls.mono (KN.out _) ?_); rintro r w1 ⟨rfl, hb⟩; replace hB := hB.trans (hb.mono hB.size); have hz := hB.size; replace za := C3.carry za hb; have zz := za; obtain ⟨x0, x1, x2, x3, x4, x5, x6⟩ := zz) | (go_at_call 95; (with_reducible refine Calls.mono (KZ.out _) ?_); rintro r w1 ⟨rfl, hb⟩; replace hB := hB.trans (hb.mono hB.size); have hz := hB.size; replace za := C3.carry za hb; have zz := za; obtain ⟨x0, x1, x2, x3, x4, x5, x6⟩ := zz))
      go_quiet (fail)
      go_wp2
      all_goals go_ret2
      all_goals exact ⟨rfl, by repeat (first | exact hB | refine below_drewN ?_ _ | refine Below.drew ?_)⟩
end Go.Proofs.YtamlnbciejnbdaaGreatDoor
