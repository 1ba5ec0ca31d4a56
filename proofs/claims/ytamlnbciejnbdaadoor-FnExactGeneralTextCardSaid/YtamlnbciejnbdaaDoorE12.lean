import Derived.Test.YtamlnbciejnbdaaDoorE11
namespace Go.Proofs.YtamlnbciejnbdaaDoor
open Go.RowKit
/-- a decimal rounded to p + 1 digits, and without zeros -/
def rfD (n : Bool) (c e : Int) (p : Nat) : Fd.D := if c = 0 then ⟨n, c, e⟩ else Fd.normal2 (Fd.roundedS ⟨n, c, e⟩ (Fd.size ⟨n, c, e⟩ - ((p : Int) + 1)))
structure RfF (n : Bool) (c e : Int) (p : Nat) (q : Nat) : Prop where
  c0 : 0 ≤ (rfD n c e p).c
  c9 : (rfD n c e p).c ≤ 999999999
  e0 : -24 ≤ (rfD n c e p).e
  e9 : (rfD n c e p).e ≤ 24
  eq : (rfD n c e p).e + q ≤ 40
  a : fxA (rfD n c e p).c (rfD n c e p).e q = fxA c e q
  b : fxB (rfD n c e p).c (rfD n c e p).e q = fxB c e q
theorem rf_facts {n : Bool} {c e : Int} {p q : Nat} (hv : Fd.vld ⟨n, c, e⟩ = true) (hp : p ≤ 8) (hq : (p : Int) - rlI n c e (p + 1) = q) (hq12 : q ≤ 12) : RfF n c e p q := by
  obtain ⟨b0, b1, b2, b3⟩ := vld_b hv
  by_cases hc : c = 0
  · have e1 : rfD n c e p = ⟨n, c, e⟩ := if_pos hc
    exact ⟨by rw [e1]; exact b0, by rw [e1]; exact b1, by rw [e1]; show -24 ≤ e; omega, by rw [e1]; show e ≤ 24; omega, by rw [e1]; show e + (q : Int) ≤ 40; omega, by rw [e1], by rw [e1]⟩
  · have e1 : rfD n c e p = Fd.normal2 (Fd.roundedS ⟨n, c, e⟩ (Fd.size ⟨n, c, e⟩ - ((p : Int) + 1))) := if_neg hc
    have hs := rl_show (n := n) (c := c) (e := e) (g := (p : Int) + 1) (by omega) b1 (by omega) (by omega)
    have hb := rl_bd (g := (p : Int) + 1) hv (by omega) (by omega)
    rw [← e1] at hs
    obtain ⟨r, hr⟩ : ∃ r, rfD n c e p = r := ⟨_, rfl⟩
    rw [hr] at hs
    have hre := hs.reb
    have hpw := hs.pws
    have hrd := hs.rd
    have hrc := hs.rc
    have hd1 := Fd.dc_one hrc
    have hfx : fxD r.c r.e q = fxD c e q := by
      rw [hs.fx e q (by omega)]
      have hC : fxC r.c r.e q = r.c.toNat := by rw [fxC_drop r.c r.e q _ rfl, if_pos (by omega)]
      unfold fxD gL
      rw [hC, if_neg (by omega)]
      congr 2
      omega
    have hL : fxL r.c r.e q = fxL c e q := by unfold fxL; rw [hfx]
    exact ⟨by rw [hr]; omega, by rw [hr]; exact hs.rb, by rw [hr]; omega, by rw [hr]; omega, by rw [hr]; omega, by rw [hr]; unfold fxA; rw [hL], by rw [hr]; unfold fxB; rw [hL]⟩
set_option maxRecDepth 100000 in
set_option maxHeartbeats 8000000 in
theorem roundedForS_any (n : Bool) (c e : Int) (p : Nat) (w : World) (hv : Fd.vld ⟨n, c, e⟩ = true) (hp : p ≤ 8) :
    Calls Tryd.prog 77 #[.agg #[.bool n, .int .i64 c, .int .i64 e], .int .i64 ((p : Int) + 1)] w fun r w' => r = .returned (.agg #[.bool (rfD n c e p).n, .int .i64 (rfD n c e p).c, .int .i64 (rfD n c e p).e]) ∧ Below w.heap.size w w' := by
  obtain ⟨b0, b1, b2, b3⟩ := vld_b hv
  have zb := C3.up (C3.new w (.bool n) (.int .i64 c) (.int .i64 e) 31) (.cells #[.bool false, .int .i64 0, .int .i64 0] 31)
  have zc : C3 ((w.alloc (.cells #[.bool n, .int .i64 c, .int .i64 e] 31)).alloc (.cells #[.bool false, .int .i64 0, .int .i64 0] 31)) (w.heap.size + 1) (.bool false) (.int .i64 0) (.int .i64 0) := by
    have h := C3.new (w.alloc (.cells #[.bool n, .int .i64 c, .int .i64 e] 31)) (.bool false) (.int .i64 0) (.int .i64 0) 31
    rw [show (w.alloc (.cells #[.bool n, .int .i64 c, .int .i64 e] 31)).heap.size = w.heap.size + 1 by simp] at h
    exact h
  have hB : Below w.heap.size w ((w.alloc (.cells #[.bool n, .int .i64 c, .int .i64 e] 31)).alloc (.cells #[.bool false, .int .i64 0, .int .i64 0] 31)) := (Below.alloc (Below.refl _ _) (Nat.le_refl _) _).alloc (by simp) _
  have zz := zb
  obtain ⟨x0, x1, x2, x3, x4, x5, x6⟩ := zz
  have zz := zc
  obtain ⟨x0, x1, x2, x3, x4, x5, x6⟩ := zz
  by_cases hc : c = 0
  · rw [show rfD n c e p = ⟨n, c, e⟩ from if_pos hc]
    subst hc
    clear hv
    go_enter Tryd.func77, Tryd.ntmps77
    go_wp2
    exact bodyPost_ret (v := .agg #[.bool n, .int .i64 0, .int .i64 e]) (by simp [results, Tryd.results77, go_sem, *]) rfl ⟨rfl, (by repeat (first | with_reducible exact Below.refl _ _ | with_reducible assumption | with_reducible refine Below.setCell ?_ (by first | omega | (simp; done) | (simp <;> omega)) _ | with_reducible refine below_drewN ?_ _ | with_reducible refine Below.drew ?_ | with_reducible refine Below.alloc ?_ (by first | omega | (simp; done) | (simp <;> omega)) _))⟩
  · have hc0 : (c == 0) = false := by simpa using hc
    have kr := fun W => roundedToS_any n c e ((p : Int) + 1) W b0 b1 b2 b3 (by omega) (by omega)
    rw [show rfD n c e p = Fd.normal2 (Fd.roundedS ⟨n, c, e⟩ (Fd.size ⟨n, c, e⟩ - ((p : Int) + 1))) from if_neg hc]
    generalize (Fd.normal2 (Fd.roundedS ⟨n, c, e⟩ (Fd.size ⟨n, c, e⟩ - ((p : Int) + 1)))).n = n2 at *
    generalize (Fd.normal2 (Fd.roundedS ⟨n, c, e⟩ (Fd.size ⟨n, c, e⟩ - ((p : Int) + 1)))).c = c2 at *
    generalize (Fd.normal2 (Fd.roundedS ⟨n, c, e⟩ (Fd.size ⟨n, c, e⟩ - ((p : Int) + 1)))).e = e2 at *
    have KR := Lib.hid kr
    clear kr
    clear hv hc
    go_enter Tryd.func77, Tryd.ntmps77
    go_wp2_with ((go_at_call 73; (with_reducible refine Calls.mono (KR.out _) ?_); rintro r w1 ⟨rfl, hb⟩; replace hB := hB.trans (hb.mono hB.size); have hz := hB.size; replace zb := C3.carry zb hb; have zz := zb; obtain ⟨x0, x1, x2, x3, x4, x5, x6⟩ := zz; replace zc := C3.carry zc hb; have zz := zc; obtain ⟨x0, x1, x2, x3, x4, x5, x6⟩ := zz))
    exact bodyPost_ret (v := .agg #[.bool n2, .int .i64 c2, .int .i64 e2]) (by simp [results, Tryd.results77, go_sem, *]) rfl ⟨rfl, (by repeat (first | with_reducible exact Below.refl _ _ | with_reducible assumption | with_reducible refine Below.setCell ?_ (by first | omega | (simp; done) | (simp <;> omega)) _ | with_reducible refine below_drewN ?_ _ | with_reducible refine Below.drew ?_ | with_reducible refine Below.alloc ?_ (by first | omega | (simp; done) | (simp <;> omega)) _))⟩
set_option maxRecDepth 100000 in
set_option maxHeartbeats 8000000 in
theorem generalPartsS_any (n : Bool) (c e : Int) (p : Nat) (w : World) (hv : Fd.vld ⟨n, c, e⟩ = true) (hp : p ≤ 8) :
    Calls Tryd.prog 42 #[.agg #[.bool n, .int .i64 c, .int .i64 e], .int .i64 ((p : Int) + 1), .bool false, .string ⟨#[101]⟩] w fun r w' => r = .returned (.tuple #[.string ⟨(gnA n c e p).toArray⟩, .string ⟨(trR 48 (gnB n c e p)).toArray⟩, .string ⟨(gnT n c e p).toArray⟩]) ∧ Below w.heap.size w w' := by
  obtain ⟨b0, b1, b2, b3⟩ := vld_b hv
  have hb := rl_bd (g := (p : Int) + 1) hv (by omega) (by omega)
  have hl := ex_len hv hp
  have kx := fun W => expPartsS_any n c e p W hv hp
  have hmx : max (1 : Int) ((p : Int) + 1) = (p : Int) + 1 := by omega
  have g1 : (p : Int) + 1 - 1 = p := by omega
  have zb := C3.new w (.bool n) (.int .i64 c) (.int .i64 e) 31
  have hB : Below w.heap.size w (w.alloc (.cells #[.bool n, .int .i64 c, .int .i64 e] 31)) := Below.alloc (Below.refl _ _) (Nat.le_refl _) _
  have zz := zb
  obtain ⟨x0, x1, x2, x3, x4, x5, x6⟩ := zz
  cases hS : sciB (rlI n c e (p + 1)) p
  · have hS' := hS
    simp only [sciB, Bool.or_eq_false_iff, decide_eq_false_iff_not] at hS'
    rw [show gnA n c e p = fxA c e (p - rlI n c e (p + 1)).toNat by unfold gnA; rw [hS]; rfl, show gnB n c e p = fxB c e (p - rlI n c e (p + 1)).toNat by unfold gnB; rw [hS]; rfl, show gnT n c e p = [] by unfold gnT; rw [hS]; rfl]
    obtain ⟨q, hq⟩ : ∃ q : Nat, (p : Int) - rlI n c e (p + 1) = q := ⟨(p - rlI n c e (p + 1)).toNat, by omega⟩
    rw [hq, show ((q : Nat) : Int).toNat = q from rfl]
    obtain ⟨r1, r2, r3, r4, r5, r6, r7⟩ := rf_facts hv hp hq (by omega)
    have F := fx_facts n (c := c) (e := e) (p := q) b0 b1 (by omega) (by omega) (by omega) (by omega)
    have hlq := fxAB_len F.cb (by omega) (by omega)
    have kf := fun W => roundedForS_any n c e p W hv hp
    have kp := fun W => fixedPartsS_any (rfD n c e p).n (rfD n c e p).c (rfD n c e p).e q W r1 r2 r3 r4 r5 (by omega)
    rw [r6, r7] at kp
    have kt := fun W => mBn (trimmedS_any ⟨(fxB c e q).toArray⟩ (by show (fxB c e q).length ≤ _; omega) W)
    rw [show trRB 48 ⟨(fxB c e q).toArray⟩ = ⟨(trR 48 (fxB c e q)).toArray⟩ from rfl] at kt
    clear r1 r2 r3 r4 r5 r6 r7 F hlq hl
    generalize trR 48 (fxB c e q) = B2 at *
    generalize fxA c e q = A at *
    generalize fxB c e q = B at *
    generalize fxA c (e - rlI n c e (p + 1)) p = A0 at *
    generalize fxB c (e - rlI n c e (p + 1)) p = B0 at *
    generalize (rfD n c e p).n = n2 at *
    generalize (rfD n c e p).c = c2 at *
    generalize (rfD n c e p).e = e2 at *
    generalize rlI n c e (p + 1) = pw at *
    obtain ⟨i1, i2⟩ := hS'
    have i3 : ¬ (p : Int) + 1 ≤ pw := i2
    have wq : IntKind.i64.wrap (q : Int) = q := IntWalk.i64_in _ (by omega)
    have KX := Lib.hid kx; have KF := Lib.hid kf; have KP := Lib.hid kp; have KT := Lib.hid kt
    clear kx kf kp kt
    clear hv hS
    go_enter Tryd.func42, Tryd.ntmps42
    go_wp2_with (first | (go_at_call 39; (with_reducible refine Calls.mono (KX.out _) ?_); rintro r w1 ⟨rfl, hb⟩; replace hB := hB.trans (hb.mono hB.size); have hz := hB.size; replace zb := C3.carry zb hb; have zz := zb; obtain ⟨x0, x1, x2, x3, x4, x5, x6⟩ := zz) | (go_at_call 77; (with_reducible refine Calls.mono (KF.out _) ?_); rintro r w1 ⟨rfl, hb⟩; replace hB := hB.trans (hb.mono hB.size); have hz := hB.size; replace zb := C3.carry zb hb; have zz := zb; obtain ⟨x0, x1, x2, x3, x4, x5, x6⟩ := zz) | (go_at_call 33; (with_reducible refine Calls.mono (KP.out _) ?_); rintro r w1 ⟨rfl, hb⟩; replace hB := hB.trans (hb.mono hB.size); have hz := hB.size; replace zb := C3.carry zb hb; have zz := zb; obtain ⟨x0, x1, x2, x3, x4, x5, x6⟩ := zz) | (go_at_call 78; (with_reducible refine Calls.mono (KT.out _) ?_); rintro r w1 ⟨rfl, hb⟩; replace hB := hB.trans (hb.mono hB.size); have hz := hB.size; replace zb := C3.carry zb hb; have zz := zb; obtain ⟨x0, x1, x2, x3, x4, x5, x6⟩ := zz))
    exact bodyPost_ret (v := .tuple #[.string ⟨A.toArray⟩, .string ⟨B2.toArray⟩, .string ⟨#[]⟩]) (by simp [results, Tryd.results42, go_sem, *]) rfl ⟨rfl, hB⟩
  · have hS' := hS
    simp only [sciB, Bool.or_eq_true, decide_eq_true_eq] at hS'
    rw [show gnA n c e p = fxA c (e - rlI n c e (p + 1)) p by unfold gnA; rw [hS]; rfl, show gnB n c e p = fxB c (e - rlI n c e (p + 1)) p by unfold gnB; rw [hS]; rfl, show gnT n c e p = powL 101 (rlI n c e (p + 1)) by unfold gnT; rw [hS]; rfl]
    have kp := fun W => expTextS_any 101 (rlI n c e (p + 1)) (by omega) W
    have kt := fun W => mBn (trimmedS_any ⟨(fxB c (e - rlI n c e (p + 1)) p).toArray⟩ (by show (fxB c (e - rlI n c e (p + 1)) p).length ≤ _; omega) W)
    rw [show trRB 48 ⟨(fxB c (e - rlI n c e (p + 1)) p).toArray⟩ = ⟨(trR 48 (fxB c (e - rlI n c e (p + 1)) p)).toArray⟩ from rfl] at kt
    clear hl
    generalize trR 48 (fxB c (e - rlI n c e (p + 1)) p) = B2 at *
    generalize fxA c (e - rlI n c e (p + 1)) p = A at *
    generalize fxB c (e - rlI n c e (p + 1)) p = B at *
    generalize powL 101 (rlI n c e (p + 1)) = T at *
    generalize rlI n c e (p + 1) = pw at *
    have KX := Lib.hid kx; have KP := Lib.hid kp; have KT := Lib.hid kt
    clear kx kp kt
    clear hv hS
    by_cases i1 : pw < -4
    · go_enter Tryd.func42, Tryd.ntmps42
      go_wp2_with (first | (go_at_call 39; (with_reducible refine Calls.mono (KX.out _) ?_); rintro r w1 ⟨rfl, hb⟩; replace hB := hB.trans (hb.mono hB.size); have hz := hB.size; replace zb := C3.carry zb hb; have zz := zb; obtain ⟨x0, x1, x2, x3, x4, x5, x6⟩ := zz) | (go_at_call 40; (with_reducible refine Calls.mono (KP.out _) ?_); rintro r w1 ⟨rfl, hb⟩; replace hB := hB.trans (hb.mono hB.size); have hz := hB.size; replace zb := C3.carry zb hb; have zz := zb; obtain ⟨x0, x1, x2, x3, x4, x5, x6⟩ := zz) | (go_at_call 78; (with_reducible refine Calls.mono (KT.out _) ?_); rintro r w1 ⟨rfl, hb⟩; replace hB := hB.trans (hb.mono hB.size); have hz := hB.size; replace zb := C3.carry zb hb; have zz := zb; obtain ⟨x0, x1, x2, x3, x4, x5, x6⟩ := zz))
      exact bodyPost_ret (v := .tuple #[.string ⟨A.toArray⟩, .string ⟨B2.toArray⟩, .string ⟨T.toArray⟩]) (by simp [results, Tryd.results42, go_sem, *]) rfl ⟨rfl, hB⟩
    · have i2 : (p : Int) + 1 ≤ pw := by omega
      go_enter Tryd.func42, Tryd.ntmps42
      go_wp2_with (first | (go_at_call 39; (with_reducible refine Calls.mono (KX.out _) ?_); rintro r w1 ⟨rfl, hb⟩; replace hB := hB.trans (hb.mono hB.size); have hz := hB.size; replace zb := C3.carry zb hb; have zz := zb; obtain ⟨x0, x1, x2, x3, x4, x5, x6⟩ := zz) | (go_at_call 40; (with_reducible refine Calls.mono (KP.out _) ?_); rintro r w1 ⟨rfl, hb⟩; replace hB := hB.trans (hb.mono hB.size); have hz := hB.size; replace zb := C3.carry zb hb; have zz := zb; obtain ⟨x0, x1, x2, x3, x4, x5, x6⟩ := zz) | (go_at_call 78; (with_reducible refine Calls.mono (KT.out _) ?_); rintro r w1 ⟨rfl, hb⟩; replace hB := hB.trans (hb.mono hB.size); have hz := hB.size; replace zb := C3.carry zb hb; have zz := zb; obtain ⟨x0, x1, x2, x3, x4, x5, x6⟩ := zz))
      exact bodyPost_ret (v := .tuple #[.string ⟨A.toArray⟩, .string ⟨B2.toArray⟩, .string ⟨T.toArray⟩]) (by simp [results, Tryd.results42, go_sem, *]) rfl ⟨rfl, hB⟩
end Go.Proofs.YtamlnbciejnbdaaDoor
