import Derived.Test.YtamlnbciejnbdaaGreatDoorE1
namespace Go.Proofs.YtamlnbciejnbdaaGreatDoor
open Go.RowKit
theorem fxD_trim {c e : Int} {p z : Nat} (hz : fxC c e p ≠ 0 → z = (e + p).toNat) : trL 48 (digs false 10 (fxC c e p) ++ zeros z) = fxD c e p := by
  rw [trL_fx]
  unfold fxD
  by_cases h : fxC c e p = 0
  · rw [if_pos h, if_pos h]
  · rw [if_neg h, if_neg h, hz h]
set_option maxRecDepth 100000 in
set_option maxHeartbeats 8000000 in
theorem fixed_any (n : Bool) (c e : Int) (p : Nat) (w : World) (h0 : 0 ≤ c) (h1 : c ≤ 999999999) (h2 : -24 ≤ e) (h3 : e ≤ 24) (h4 : e + p ≤ 40) (h5 : p ≤ 29) (hT : PT w) :
    Calls Tryz.prog 43 #[.agg #[.bool n, .int .i64 c, .int .i64 e], .int .i64 p] w fun r w' => r = .returned (.agg #[.string ⟨(fxA c e p).toArray⟩, .string ⟨(fxB c e p).toArray⟩, .string ⟨#[]⟩]) ∧ Below w.heap.size w w' := by
  obtain ⟨f1, f2, ⟨z, hz1, hz2, hz3⟩, f4⟩ := fx_facts n (c := c) (e := e) (p := p) h0 h1 h2 h3 h4 h5
  have kd := fun W => dropped_any n c e (-(p : Int) - e) W h0 h1 h2 h3 (by omega)
  rw [f1] at kd
  have ht := fxD_trim hz3
  have hDl := fxD_len f2 h4
  have hFl := fxL_len f2 h4 h5
  have h30 := digs_30 f2
  have ki := fun W (h : PT W) => Itoa_nat (fxC c e p) (by omega) W h
  have kr := fun W => Repeat_zeros z (by omega) W
  have kt := fun W => mBn (TrimLeft_one ⟨(digs false 10 (fxC c e p) ++ zeros z).toArray⟩ 48 (by decide) (by show (digs false 10 (fxC c e p) ++ zeros z).length ≤ _; rw [List.length_append, zeros_len]; omega) W)
  have etr : trLB 48 ⟨(digs false 10 (fxC c e p) ++ zeros z).toArray⟩ = ⟨(fxD c e p).toArray⟩ := by
    show (⟨(trL 48 (digs false 10 (fxC c e p) ++ zeros z)).toArray⟩ : ByteArray) = _
    rw [ht]
  rw [etr] at kt
  have kw := fun W => WidenDigits_any ⟨(fxD c e p).toArray⟩ ((p : Int) + 1) 9 ⟨#[]⟩ W (by show (fxD c e p).length ≤ _; omega) (by decide)
  have ew : widW ⟨(fxD c e p).toArray⟩ ((p : Int) + 1) 9 ⟨#[]⟩ = ⟨(fxL c e p).toArray⟩ := widW_yes (wd := p + 1) (n := 9) (by show (fxD c e p).length ≤ 80; omega) (by omega) (by omega) (by omega) (by decide)
  rw [ew] at kw
  have ea : (⟨(fxL c e p).toArray⟩ : ByteArray).extract 0 ((fxL c e p).length - p) = ⟨(fxA c e p).toArray⟩ := ext_take _ _
  have eb : (⟨(fxL c e p).toArray⟩ : ByteArray).extract ((fxL c e p).length - p) (fxL c e p).length = ⟨(fxB c e p).toArray⟩ := ext_drop _ _
  have hq : ((fxL c e p).length : Int) - p = (((fxL c e p).length - p : Nat) : Int) := by omega
  have hq1 : (fxL c e p).length - p ≤ (fxL c e p).length := by omega
  have hzl : (zeros z).length = z := zeros_len z
  have hcat := cat_lN (digs false 10 (fxC c e p)) (zeros z)
  clear ht etr ew hz3
  generalize (Fd.dropI ⟨n, c, e⟩ (-(p : Int) - e)).e = E2 at *
  generalize (Fd.dropI ⟨n, c, e⟩ (-(p : Int) - e)).n = nb at *
  generalize digs false 10 (fxC c e p) = D at *
  generalize zeros z = Zs at *
  generalize (D ++ Zs) = DZ at *
  generalize fxC c e p = C at *
  generalize fxD c e p = FD at *
  generalize fxA c e p = FA at *
  generalize fxB c e p = FB at *
  generalize fxL c e p = FL at *
  have hFz : (⟨FL.toArray⟩ : ByteArray).size = FL.length := rfl
  have b1 : ¬ (9223372036854775807 < D.length + z) := by omega
  have b1' : ¬ (9223372036854775807 < D.length + Zs.length) := by omega
  have wz : IntKind.i64.wrap (z : Int) = z := IntWalk.i64_in _ (by omega)
  have wn : IntKind.i64.wrap (-(p : Int)) = -(p : Int) := IntWalk.i64_in _ (by omega)
  have wn2 : IntKind.i64.wrap (-(p : Int) - e) = -(p : Int) - e := IntWalk.i64_in _ (by omega)
  have hFb : FL.length ≤ 70 := hFl.2
  generalize FL.length - p = q at *
  have b2 : ¬ (q : Int) < 0 := by omega
  have b3 : (q : Int) ≤ FL.length := by omega
  have wq : IntKind.i64.wrap (q : Int) = q := IntWalk.i64_in _ (by omega)
  have KD := Lib.hid kd; have KI := Lib.hid ki; have KR := Lib.hid kr; have KT := Lib.hid kt; have KW := Lib.hid kw
  clear kd ki kr kt kw
  have zb := C3.up (C3.new w (.bool n) (.int .i64 c) (.int .i64 e) 24) (.cells #[.string ⟨#[]⟩, .string ⟨#[]⟩, .string ⟨#[]⟩] 58)
  have zc : C3 ((w.alloc (.cells #[.bool n, .int .i64 c, .int .i64 e] 24)).alloc (.cells #[.string ⟨#[]⟩, .string ⟨#[]⟩, .string ⟨#[]⟩] 58)) (w.heap.size + 1) (.string ⟨#[]⟩) (.string ⟨#[]⟩) (.string ⟨#[]⟩) := by
    have h := C3.new (w.alloc (.cells #[.bool n, .int .i64 c, .int .i64 e] 24)) (.string ⟨#[]⟩) (.string ⟨#[]⟩) (.string ⟨#[]⟩) 58
    rw [show (w.alloc (.cells #[.bool n, .int .i64 c, .int .i64 e] 24)).heap.size = w.heap.size + 1 by simp] at h
    exact h
  have hB : Below w.heap.size w ((w.alloc (.cells #[.bool n, .int .i64 c, .int .i64 e] 24)).alloc (.cells #[.string ⟨#[]⟩, .string ⟨#[]⟩, .string ⟨#[]⟩] 58)) := (Below.alloc (Below.refl _ _) (Nat.le_refl _) _).alloc (by simp) _
  have zz := zb
  obtain ⟨x0, x1, x2, x3, x4, x5, x6⟩ := zz
  have zz := zc
  obtain ⟨x0, x1, x2, x3, x4, x5, x6⟩ := zz
  go_enter Tryz.func43, Tryz.ntmps43
  go_wp2_with ((go_at_call 57; (with_reducible refine Calls.mono (KD.out _) ?_); rintro r w1 ⟨rfl, hb⟩; replace hB := hB.trans (hb.mono hB.size); have hz := hB.size; replace zb := C3.carry zb hb; have zz := zb; obtain ⟨x0, x1, x2, x3, x4, x5, x6⟩ := zz; replace zc := C3.carry zc hb; have zz := zc; obtain ⟨x0, x1, x2, x3, x4, x5, x6⟩ := zz))
  have za := C3.new w1 (.bool nb) (.int .i64 C) (.int .i64 E2) 24
  replace zc := C3.up zc (.cells #[.bool nb, .int .i64 C, .int .i64 E2] 24)
  replace hB : Below w.heap.size w (w1.alloc (.cells #[.bool nb, .int .i64 C, .int .i64 E2] 24)) := hB.alloc (by omega) _
  clear zb
  obtain ⟨sza0, sza1, sza2⟩ := C3.since za
  obtain ⟨szc0, szc1, szc2⟩ := C3.since zc
  refine wp_region_since (by kernel_rfl) (by kernel_rfl) ?_
  repeat (quiet_step (first | (go_at_call 90; with_reducible exact Calls.since_of (KI.out _ (hT.on (hB.trans ((Since.h _).mono hB.size))))) | (go_at_call 91; with_reducible exact Calls.since_of (KR.out _))))
  refine wpQuiet_nil ?_
  intro w_ hw_
  obtain ⟨⟨w1, hb⟩, hw2⟩ := hw_
  have hw3 : w1 = w_ := hw2.symm
  clear hw2
  subst hw3
  clear sza0 sza1 sza2 szc0 szc1 szc2
  replace hB := hB.trans (hb.mono hB.size)
  have hz := hb.size
  replace za := C3.carry za hb
  have zz := za
  obtain ⟨x0, x1, x2, x3, x4, x5, x6⟩ := zz
  replace zc := C3.carry zc hb
  have zz := zc
  obtain ⟨x0, x1, x2, x3, x4, x5, x6⟩ := zz
  go_wp2_with (first | (go_at_call 92; (with_reducible refine Calls.mono (KT.out _) ?_); rintro r w1 ⟨rfl, hb⟩; replace hB := hB.trans (hb.mono hB.size); have hz := hB.size; replace zc := C3.carry zc hb; have zz := zc; obtain ⟨x0, x1, x2, x3, x4, x5, x6⟩ := zz) | (go_at_call 78; (with_reducible refine Calls.mono (KW.out _) ?_); rintro r w1 ⟨rfl, hb⟩; replace hB := hB.trans (hb.mono hB.size); have hz := hB.size; replace zc := C3.carry zc hb; have zz := zc; obtain ⟨x0, x1, x2, x3, x4, x5, x6⟩ := zz))
  have zz := zc
  obtain ⟨x0, x1, x2, x3, x4, x5, x6⟩ := zz
  go_region
  all_goals go_wp2
  all_goals exact bodyPost_ret (v := .agg #[.string ⟨FA.toArray⟩, .string ⟨FB.toArray⟩, .string ⟨#[]⟩]) (by simp [results, Tryz.results43, go_sem, *]) rfl ⟨rfl, (by repeat (first | with_reducible exact Below.refl _ _ | with_reducible assumption | with_reducible refine Below.setCell ?_ (by first | omega | (simp; done) | (simp <;> omega)) _ | with_reducible refine below_drewN ?_ _ | with_reducible refine Below.drew ?_ | with_reducible refine Below.alloc ?_ (by first | omega | (simp; done) | (simp <;> omega)) _))⟩
end Go.Proofs.YtamlnbciejnbdaaGreatDoor
