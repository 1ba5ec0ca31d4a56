import Derived.Test.YtebheehjhnaklaaGreatDoorG8
import Derived.Test.YtebheehjhnaklaaGreatDoorG3
namespace Go.Proofs.YtebheehjhnaklaaGreatDoor
open Go Go.RowKit
theorem precOfS_any (f : ByteArray) (al si : Int) (alt ze : Bool) (wi gr pr : Int) (t : ByteArray) (w : World) (hp : -1 ≤ pr) :
    Calls Tryz.prog 239 #[.agg #[.string f, .int .i64 al, .int .i64 si, .bool alt, .bool ze, .int .i64 wi, .int .i64 gr, .int .i64 pr, .string t]] w fun r w' => r = .returned (.int .i64 (prW pr)) ∧ Below w.heap.size w w' := by
  have hB : Below w.heap.size w (w.alloc (.cells #[.string f, .int .i64 al, .int .i64 si, .bool alt, .bool ze, .int .i64 wi, .int .i64 gr, .int .i64 pr, .string t] 38)) := (Below.refl _ _).alloc (Nat.le_refl _) _
  unfold prW
  by_cases h : pr = -1
  · subst h
    go_enter Tryz.func239, Tryz.ntmps239
    go_wp2
    go_ret
    exact ⟨rfl, hB⟩
  · have h1 : ¬ pr < 0 := by omega
    rw [if_neg h]
    go_enter Tryz.func239, Tryz.ntmps239
    go_wp2
    go_ret
    exact ⟨rfl, hB⟩
set_option maxRecDepth 100000 in
set_option maxHeartbeats 8000000 in
theorem realParts_f (f : ByteArray) (al si : Int) (alt ze : Bool) (wi gr pr : Int) (n : Bool) (c e : Int) (P : Nat) (w : World) (hv : Fd.vld ⟨n, c, e⟩ = true) (h1 : -1 ≤ pr) (hP : prW pr = P) (h9 : P ≤ 9) :
    Calls Tryz.prog 181 #[.agg #[.string f, .int .i64 al, .int .i64 si, .bool alt, .bool ze, .int .i64 wi, .int .i64 gr, .int .i64 pr, .string ⟨#[102]⟩], .agg #[.bool n, .int .i64 c, .int .i64 e]] w fun r w' => r = .returned (.tuple #[.string ⟨(fxA c e P).toArray⟩, .string ⟨(fxB c e P).toArray⟩, .string ⟨#[]⟩]) ∧ Below w.heap.size w w' := by
  obtain ⟨b0, b1, b2, b3⟩ := vld_b hv
  have kp := fun W => precOfS_any f al si alt ze wi gr pr ⟨#[102]⟩ W h1
  rw [hP] at kp
  have kf := fun W => fixedPartsS_any n c e P W b0 b1 (by omega) (by omega) (by omega) (by omega)
  generalize fxA c e P = A at *
  generalize fxB c e P = B at *
  have KP := Lib.hid kp; have KF := Lib.hid kf
  clear kp kf hv
  have za := (C9.new w (.string f) (.int .i64 al) (.int .i64 si) (.bool alt) (.bool ze) (.int .i64 wi) (.int .i64 gr) (.int .i64 pr) (.string ⟨#[102]⟩) 38).up (.cells #[.bool n, .int .i64 c, .int .i64 e] 24)
  have zd : C3 ((w.alloc (.cells #[.string f, .int .i64 al, .int .i64 si, .bool alt, .bool ze, .int .i64 wi, .int .i64 gr, .int .i64 pr, .string ⟨#[102]⟩] 38)).alloc (.cells #[.bool n, .int .i64 c, .int .i64 e] 24)) (w.heap.size + 1) (.bool n) (.int .i64 c) (.int .i64 e) := by
    have h := C3.new (w.alloc (.cells #[.string f, .int .i64 al, .int .i64 si, .bool alt, .bool ze, .int .i64 wi, .int .i64 gr, .int .i64 pr, .string ⟨#[102]⟩] 38)) (.bool n) (.int .i64 c) (.int .i64 e) 24
    rw [show (w.alloc (.cells #[.string f, .int .i64 al, .int .i64 si, .bool alt, .bool ze, .int .i64 wi, .int .i64 gr, .int .i64 pr, .string ⟨#[102]⟩] 38)).heap.size = w.heap.size + 1 by simp] at h
    exact h
  have hB : Below w.heap.size w ((w.alloc (.cells #[.string f, .int .i64 al, .int .i64 si, .bool alt, .bool ze, .int .i64 wi, .int .i64 gr, .int .i64 pr, .string ⟨#[102]⟩] 38)).alloc (.cells #[.bool n, .int .i64 c, .int .i64 e] 24)) := ((Below.refl _ _).alloc (Nat.le_refl _) _).alloc (by simp) _
  obtain ⟨s0, s1, s2, s3, s4, s5, s6, s7, s8⟩ := C9.since za
  obtain ⟨d0, d1, d2⟩ := C3.since zd
  go_enter Tryz.func181, Tryz.ntmps181
  go_wp2
  refine wp_region_since (by kernel_rfl) (by kernel_rfl) ?_
  repeat (quiet_step (first | (go_at_call 239; with_reducible exact Calls.since_of (KP.out _)) | (go_at_call 111; with_reducible exact Calls.since_of (KF.out _))))
  refine wpQuiet_nil ?_
  intro w_ hw_
  obtain ⟨⟨w1, hb⟩, hw2⟩ := hw_
  have hw3 : w1 = w_ := hw2.symm
  clear hw2
  subst hw3
  clear s0 s1 s2 s3 s4 s5 s6 s7 s8 d0 d1 d2
  replace hB := hB.trans (hb.mono hB.size)
  have hz := hb.size
  replace za := C9.carry za hb
  obtain ⟨x0, x1, x2, x3, x4, x5, x6, x7, x8, xf, xl⟩ := za
  go_wp2
  exact bodyPost_ret (v := .tuple #[.string ⟨(A).toArray⟩, .string ⟨(B).toArray⟩, .string ⟨#[]⟩]) (by simp [results, Tryz.results181, go_sem, *]) rfl ⟨rfl, (by repeat (first | with_reducible exact Below.refl _ _ | with_reducible assumption | with_reducible refine Below.setCell ?_ (by first | omega | (simp; done) | (simp <;> omega)) _ | with_reducible refine below_drewN ?_ _ | with_reducible refine Below.drew ?_ | with_reducible refine Below.alloc ?_ (by first | omega | (simp; done) | (simp <;> omega)) _))⟩
set_option maxRecDepth 100000 in
set_option maxHeartbeats 8000000 in
theorem realParts_p (f : ByteArray) (al si : Int) (alt ze : Bool) (wi gr pr : Int) (n : Bool) (c e : Int) (P : Nat) (w : World) (hv : Fd.vld ⟨n, c, e⟩ = true) (h1 : -1 ≤ pr) (hP : prW pr = P) (h9 : P ≤ 9) :
    Calls Tryz.prog 181 #[.agg #[.string f, .int .i64 al, .int .i64 si, .bool alt, .bool ze, .int .i64 wi, .int .i64 gr, .int .i64 pr, .string ⟨#[37]⟩], .agg #[.bool n, .int .i64 c, .int .i64 e]] w fun r w' => r = .returned (.tuple #[.string ⟨(fxA c (e + 2) P).toArray⟩, .string ⟨(fxB c (e + 2) P).toArray⟩, .string ⟨#[37]⟩]) ∧ Below w.heap.size w w' := by
  obtain ⟨b0, b1, b2, b3⟩ := vld_b hv
  have kp := fun W => precOfS_any f al si alt ze wi gr pr ⟨#[37]⟩ W h1
  rw [hP] at kp
  have wn : IntKind.i64.wrap (e + 2) = e + 2 := IntWalk.i64_in _ (by omega)
  have kf := fun W => fixedPartsS_any n c (e + 2) P W b0 b1 (by omega) (by omega) (by omega) (by omega)
  generalize fxA c (e + 2) P = A at *
  generalize fxB c (e + 2) P = B at *
  have KP := Lib.hid kp; have KF := Lib.hid kf
  clear kp kf hv
  have za := (C9.new w (.string f) (.int .i64 al) (.int .i64 si) (.bool alt) (.bool ze) (.int .i64 wi) (.int .i64 gr) (.int .i64 pr) (.string ⟨#[37]⟩) 38).up (.cells #[.bool n, .int .i64 c, .int .i64 (e + 2)] 24)
  have zd : C3 ((w.alloc (.cells #[.string f, .int .i64 al, .int .i64 si, .bool alt, .bool ze, .int .i64 wi, .int .i64 gr, .int .i64 pr, .string ⟨#[37]⟩] 38)).alloc (.cells #[.bool n, .int .i64 c, .int .i64 (e + 2)] 24)) (w.heap.size + 1) (.bool n) (.int .i64 c) (.int .i64 (e + 2)) := by
    have h := C3.new (w.alloc (.cells #[.string f, .int .i64 al, .int .i64 si, .bool alt, .bool ze, .int .i64 wi, .int .i64 gr, .int .i64 pr, .string ⟨#[37]⟩] 38)) (.bool n) (.int .i64 c) (.int .i64 (e + 2)) 24
    rw [show (w.alloc (.cells #[.string f, .int .i64 al, .int .i64 si, .bool alt, .bool ze, .int .i64 wi, .int .i64 gr, .int .i64 pr, .string ⟨#[37]⟩] 38)).heap.size = w.heap.size + 1 by simp] at h
    exact h
  have hB : Below w.heap.size w ((w.alloc (.cells #[.string f, .int .i64 al, .int .i64 si, .bool alt, .bool ze, .int .i64 wi, .int .i64 gr, .int .i64 pr, .string ⟨#[37]⟩] 38)).alloc (.cells #[.bool n, .int .i64 c, .int .i64 (e + 2)] 24)) := ((Below.refl _ _).alloc (Nat.le_refl _) _).alloc (by simp) _
  obtain ⟨s0, s1, s2, s3, s4, s5, s6, s7, s8⟩ := C9.since za
  obtain ⟨d0, d1, d2⟩ := C3.since zd
  go_enter Tryz.func181, Tryz.ntmps181
  go_wp2
  refine wp_region_since (by kernel_rfl) (by kernel_rfl) ?_
  repeat (quiet_step (first | (go_at_call 239; with_reducible exact Calls.since_of (KP.out _)) | (go_at_call 111; with_reducible exact Calls.since_of (KF.out _))))
  refine wpQuiet_nil ?_
  intro w_ hw_
  obtain ⟨⟨w1, hb⟩, hw2⟩ := hw_
  have hw3 : w1 = w_ := hw2.symm
  clear hw2
  subst hw3
  clear s0 s1 s2 s3 s4 s5 s6 s7 s8 d0 d1 d2
  replace hB := hB.trans (hb.mono hB.size)
  have hz := hb.size
  replace za := C9.carry za hb
  obtain ⟨x0, x1, x2, x3, x4, x5, x6, x7, x8, xf, xl⟩ := za
  go_wp2
  exact bodyPost_ret (v := .tuple #[.string ⟨(A).toArray⟩, .string ⟨(B).toArray⟩, .string ⟨#[37]⟩]) (by simp [results, Tryz.results181, go_sem, *]) rfl ⟨rfl, (by repeat (first | with_reducible exact Below.refl _ _ | with_reducible assumption | with_reducible refine Below.setCell ?_ (by first | omega | (simp; done) | (simp <;> omega)) _ | with_reducible refine below_drewN ?_ _ | with_reducible refine Below.drew ?_ | with_reducible refine Below.alloc ?_ (by first | omega | (simp; done) | (simp <;> omega)) _))⟩
set_option maxRecDepth 100000 in
set_option maxHeartbeats 8000000 in
theorem realParts_e (f : ByteArray) (al si : Int) (alt ze : Bool) (wi gr pr : Int) (n : Bool) (c e : Int) (P : Nat) (w : World) (hv : Fd.vld ⟨n, c, e⟩ = true) (h1 : -1 ≤ pr) (hP : min (prW pr) 8 = P) (h9 : P ≤ 8) :
    Calls Tryz.prog 181 #[.agg #[.string f, .int .i64 al, .int .i64 si, .bool alt, .bool ze, .int .i64 wi, .int .i64 gr, .int .i64 pr, .string ⟨#[101]⟩], .agg #[.bool n, .int .i64 c, .int .i64 e]] w fun r w' => r = .returned (.tuple #[.string ⟨(fxA c (e - rlI n c e (P + 1)) P).toArray⟩, .string ⟨(fxB c (e - rlI n c e (P + 1)) P).toArray⟩, .string ⟨(powL 101 (rlI n c e (P + 1))).toArray⟩]) ∧ Below w.heap.size w w' := by
  obtain ⟨b0, b1, b2, b3⟩ := vld_b hv
  have kp := fun W => precOfS_any f al si alt ze wi gr pr ⟨#[101]⟩ W h1
  have kf := fun W => expPartsS_any n c e P W hv h9
  have hrb := rl_bd (g := (P : Int) + 1) hv (by omega) (by omega)
  have kt := fun W => expTextS_any 101 (rlI n c e (P + 1)) (by omega) W
  generalize fxA c (e - rlI n c e (P + 1)) P = A at *
  generalize fxB c (e - rlI n c e (P + 1)) P = B at *
  generalize powL 101 (rlI n c e (P + 1)) = T at *
  generalize rlI n c e (P + 1) = pw at *
  generalize prW pr = pp at *
  have KP := Lib.hid kp; have KF := Lib.hid kf; have KT := Lib.hid kt
  clear kp kf kt hv
  have za := (C9.new w (.string f) (.int .i64 al) (.int .i64 si) (.bool alt) (.bool ze) (.int .i64 wi) (.int .i64 gr) (.int .i64 pr) (.string ⟨#[101]⟩) 38).up (.cells #[.bool n, .int .i64 c, .int .i64 e] 24)
  have zd : C3 ((w.alloc (.cells #[.string f, .int .i64 al, .int .i64 si, .bool alt, .bool ze, .int .i64 wi, .int .i64 gr, .int .i64 pr, .string ⟨#[101]⟩] 38)).alloc (.cells #[.bool n, .int .i64 c, .int .i64 e] 24)) (w.heap.size + 1) (.bool n) (.int .i64 c) (.int .i64 e) := by
    have h := C3.new (w.alloc (.cells #[.string f, .int .i64 al, .int .i64 si, .bool alt, .bool ze, .int .i64 wi, .int .i64 gr, .int .i64 pr, .string ⟨#[101]⟩] 38)) (.bool n) (.int .i64 c) (.int .i64 e) 24
    rw [show (w.alloc (.cells #[.string f, .int .i64 al, .int .i64 si, .bool alt, .bool ze, .int .i64 wi, .int .i64 gr, .int .i64 pr, .string ⟨#[101]⟩] 38)).heap.size = w.heap.size + 1 by simp] at h
    exact h
  have hB : Below w.heap.size w ((w.alloc (.cells #[.string f, .int .i64 al, .int .i64 si, .bool alt, .bool ze, .int .i64 wi, .int .i64 gr, .int .i64 pr, .string ⟨#[101]⟩] 38)).alloc (.cells #[.bool n, .int .i64 c, .int .i64 e] 24)) := ((Below.refl _ _).alloc (Nat.le_refl _) _).alloc (by simp) _
  obtain ⟨s0, s1, s2, s3, s4, s5, s6, s7, s8⟩ := C9.since za
  obtain ⟨d0, d1, d2⟩ := C3.since zd
  go_enter Tryz.func181, Tryz.ntmps181
  go_wp2
  refine wp_region_since (by kernel_rfl) (by kernel_rfl) ?_
  repeat (quiet_step (first | (go_at_call 239; with_reducible exact Calls.since_of (KP.out _)) | (go_at_call 49; with_reducible exact Calls.since_of (KF.out _))))
  refine wpQuiet_nil ?_
  intro w_ hw_
  obtain ⟨⟨w1, hb⟩, hw2⟩ := hw_
  have hw3 : w1 = w_ := hw2.symm
  clear hw2
  subst hw3
  clear s0 s1 s2 s3 s4 s5 s6 s7 s8 d0 d1 d2
  replace hB := hB.trans (hb.mono hB.size)
  have hz := hb.size
  replace za := C9.carry za hb
  obtain ⟨x0, x1, x2, x3, x4, x5, x6, x7, x8, xf, xl⟩ := za
  go_wp2_with (first | (go_at_call 51; (with_reducible refine Calls.mono (KT.out _) ?_); rintro r w2 ⟨rfl, hb2⟩; replace hB := hB.trans (hb2.mono hB.size)))
  exact bodyPost_ret (v := .tuple #[.string ⟨(A).toArray⟩, .string ⟨(B).toArray⟩, .string ⟨T.toArray⟩]) (by simp [results, Tryz.results181, go_sem, *]) rfl ⟨rfl, (by repeat (first | with_reducible exact Below.refl _ _ | with_reducible assumption | with_reducible refine Below.setCell ?_ (by first | omega | (simp; done) | (simp <;> omega)) _ | with_reducible refine below_drewN ?_ _ | with_reducible refine Below.drew ?_ | with_reducible refine Below.alloc ?_ (by first | omega | (simp; done) | (simp <;> omega)) _))⟩
set_option maxRecDepth 100000 in
set_option maxHeartbeats 8000000 in
theorem realParts_E (f : ByteArray) (al si : Int) (alt ze : Bool) (wi gr pr : Int) (n : Bool) (c e : Int) (P : Nat) (w : World) (hv : Fd.vld ⟨n, c, e⟩ = true) (h1 : -1 ≤ pr) (hP : min (prW pr) 8 = P) (h9 : P ≤ 8) :
    Calls Tryz.prog 181 #[.agg #[.string f, .int .i64 al, .int .i64 si, .bool alt, .bool ze, .int .i64 wi, .int .i64 gr, .int .i64 pr, .string ⟨#[69]⟩], .agg #[.bool n, .int .i64 c, .int .i64 e]] w fun r w' => r = .returned (.tuple #[.string ⟨(fxA c (e - rlI n c e (P + 1)) P).toArray⟩, .string ⟨(fxB c (e - rlI n c e (P + 1)) P).toArray⟩, .string ⟨(powL 69 (rlI n c e (P + 1))).toArray⟩]) ∧ Below w.heap.size w w' := by
  obtain ⟨b0, b1, b2, b3⟩ := vld_b hv
  have kp := fun W => precOfS_any f al si alt ze wi gr pr ⟨#[69]⟩ W h1
  have kf := fun W => expPartsS_any n c e P W hv h9
  have hrb := rl_bd (g := (P : Int) + 1) hv (by omega) (by omega)
  have kt := fun W => expTextS_any 69 (rlI n c e (P + 1)) (by omega) W
  generalize fxA c (e - rlI n c e (P + 1)) P = A at *
  generalize fxB c (e - rlI n c e (P + 1)) P = B at *
  generalize powL 69 (rlI n c e (P + 1)) = T at *
  generalize rlI n c e (P + 1) = pw at *
  generalize prW pr = pp at *
  have KP := Lib.hid kp; have KF := Lib.hid kf; have KT := Lib.hid kt
  clear kp kf kt hv
  have za := (C9.new w (.string f) (.int .i64 al) (.int .i64 si) (.bool alt) (.bool ze) (.int .i64 wi) (.int .i64 gr) (.int .i64 pr) (.string ⟨#[69]⟩) 38).up (.cells #[.bool n, .int .i64 c, .int .i64 e] 24)
  have zd : C3 ((w.alloc (.cells #[.string f, .int .i64 al, .int .i64 si, .bool alt, .bool ze, .int .i64 wi, .int .i64 gr, .int .i64 pr, .string ⟨#[69]⟩] 38)).alloc (.cells #[.bool n, .int .i64 c, .int .i64 e] 24)) (w.heap.size + 1) (.bool n) (.int .i64 c) (.int .i64 e) := by
    have h := C3.new (w.alloc (.cells #[.string f, .int .i64 al, .int .i64 si, .bool alt, .bool ze, .int .i64 wi, .int .i64 gr, .int .i64 pr, .string ⟨#[69]⟩] 38)) (.bool n) (.int .i64 c) (.int .i64 e) 24
    rw [show (w.alloc (.cells #[.string f, .int .i64 al, .int .i64 si, .bool alt, .bool ze, .int .i64 wi, .int .i64 gr, .int .i64 pr, .string ⟨#[69]⟩] 38)).heap.size = w.heap.size + 1 by simp] at h
    exact h
  have hB : Below w.heap.size w ((w.alloc (.cells #[.string f, .int .i64 al, .int .i64 si, .bool alt, .bool ze, .int .i64 wi, .int .i64 gr, .int .i64 pr, .string ⟨#[69]⟩] 38)).alloc (.cells #[.bool n, .int .i64 c, .int .i64 e] 24)) := ((Below.refl _ _).alloc (Nat.le_refl _) _).alloc (by simp) _
  obtain ⟨s0, s1, s2, s3, s4, s5, s6, s7, s8⟩ := C9.since za
  obtain ⟨d0, d1, d2⟩ := C3.since zd
  go_enter Tryz.func181, Tryz.ntmps181
  go_wp2
  refine wp_region_since (by kernel_rfl) (by kernel_rfl) ?_
  repeat (quiet_step (first | (go_at_call 239; with_reducible exact Calls.since_of (KP.out _)) | (go_at_call 49; with_reducible exact Calls.since_of (KF.out _))))
  refine wpQuiet_nil ?_
  intro w_ hw_
  obtain ⟨⟨w1, hb⟩, hw2⟩ := hw_
  have hw3 : w1 = w_ := hw2.symm
  clear hw2
  subst hw3
  clear s0 s1 s2 s3 s4 s5 s6 s7 s8 d0 d1 d2
  replace hB := hB.trans (hb.mono hB.size)
  have hz := hb.size
  replace za := C9.carry za hb
  obtain ⟨x0, x1, x2, x3, x4, x5, x6, x7, x8, xf, xl⟩ := za
  go_wp2_with (first | (go_at_call 51; (with_reducible refine Calls.mono (KT.out _) ?_); rintro r w2 ⟨rfl, hb2⟩; replace hB := hB.trans (hb2.mono hB.size)))
  exact bodyPost_ret (v := .tuple #[.string ⟨(A).toArray⟩, .string ⟨(B).toArray⟩, .string ⟨T.toArray⟩]) (by simp [results, Tryz.results181, go_sem, *]) rfl ⟨rfl, (by repeat (first | with_reducible exact Below.refl _ _ | with_reducible assumption | with_reducible refine Below.setCell ?_ (by first | omega | (simp; done) | (simp <;> omega)) _ | with_reducible refine below_drewN ?_ _ | with_reducible refine Below.drew ?_ | with_reducible refine Below.alloc ?_ (by first | omega | (simp; done) | (simp <;> omega)) _))⟩
set_option maxRecDepth 100000 in
set_option maxHeartbeats 8000000 in
theorem realParts_gT (f : ByteArray) (al si : Int) (ze : Bool) (wi gr pr : Int) (n : Bool) (c e : Int) (P : Nat) (w : World) (hv : Fd.vld ⟨n, c, e⟩ = true) (h1 : -1 ≤ pr) (hP : max (prW pr) 1 = (P : Int) + 1) (h9 : P ≤ 8) :
    Calls Tryz.prog 181 #[.agg #[.string f, .int .i64 al, .int .i64 si, .bool true, .bool ze, .int .i64 wi, .int .i64 gr, .int .i64 pr, .string ⟨#[103]⟩], .agg #[.bool n, .int .i64 c, .int .i64 e]] w fun r w' => r = .returned (.tuple #[.string ⟨(gnA n c e P).toArray⟩, .string ⟨(gnB n c e P).toArray⟩, .string ⟨(gnU 101 n c e P).toArray⟩]) ∧ Below w.heap.size w w' := by
  obtain ⟨b0, b1, b2, b3⟩ := vld_b hv
  have kp := fun W => precOfS_any f al si true ze wi gr pr ⟨#[103]⟩ W h1
  have kf := fun W => generalPartsT_any 101 n c e P (prW pr) (by omega) W hv h9
  generalize gnA n c e P = A at *
  generalize gnB n c e P = B at *
  generalize gnU 101 n c e P = T at *
  generalize prW pr = pp at *
  have KP := Lib.hid kp; have KF := Lib.hid kf
  clear kp kf hv
  have za := (C9.new w (.string f) (.int .i64 al) (.int .i64 si) (.bool true) (.bool ze) (.int .i64 wi) (.int .i64 gr) (.int .i64 pr) (.string ⟨#[103]⟩) 38).up (.cells #[.bool n, .int .i64 c, .int .i64 e] 24)
  have zd : C3 ((w.alloc (.cells #[.string f, .int .i64 al, .int .i64 si, .bool true, .bool ze, .int .i64 wi, .int .i64 gr, .int .i64 pr, .string ⟨#[103]⟩] 38)).alloc (.cells #[.bool n, .int .i64 c, .int .i64 e] 24)) (w.heap.size + 1) (.bool n) (.int .i64 c) (.int .i64 e) := by
    have h := C3.new (w.alloc (.cells #[.string f, .int .i64 al, .int .i64 si, .bool true, .bool ze, .int .i64 wi, .int .i64 gr, .int .i64 pr, .string ⟨#[103]⟩] 38)) (.bool n) (.int .i64 c) (.int .i64 e) 24
    rw [show (w.alloc (.cells #[.string f, .int .i64 al, .int .i64 si, .bool true, .bool ze, .int .i64 wi, .int .i64 gr, .int .i64 pr, .string ⟨#[103]⟩] 38)).heap.size = w.heap.size + 1 by simp] at h
    exact h
  have hB : Below w.heap.size w ((w.alloc (.cells #[.string f, .int .i64 al, .int .i64 si, .bool true, .bool ze, .int .i64 wi, .int .i64 gr, .int .i64 pr, .string ⟨#[103]⟩] 38)).alloc (.cells #[.bool n, .int .i64 c, .int .i64 e] 24)) := ((Below.refl _ _).alloc (Nat.le_refl _) _).alloc (by simp) _
  obtain ⟨s0, s1, s2, s3, s4, s5, s6, s7, s8⟩ := C9.since za
  obtain ⟨d0, d1, d2⟩ := C3.since zd
  go_enter Tryz.func181, Tryz.ntmps181
  go_wp2
  refine wp_region_since (by kernel_rfl) (by kernel_rfl) ?_
  repeat (quiet_step (first | (go_at_call 239; with_reducible exact Calls.since_of (KP.out _)) | (go_at_call 65; with_reducible exact Calls.since_of (KF.out _))))
  refine wpQuiet_nil ?_
  intro w_ hw_
  obtain ⟨⟨w1, hb⟩, hw2⟩ := hw_
  have hw3 : w1 = w_ := hw2.symm
  clear hw2
  subst hw3
  clear s0 s1 s2 s3 s4 s5 s6 s7 s8 d0 d1 d2
  replace hB := hB.trans (hb.mono hB.size)
  have hz := hb.size
  replace za := C9.carry za hb
  obtain ⟨x0, x1, x2, x3, x4, x5, x6, x7, x8, xf, xl⟩ := za
  go_wp2
  exact bodyPost_ret (v := .tuple #[.string ⟨(A).toArray⟩, .string ⟨(B).toArray⟩, .string ⟨T.toArray⟩]) (by simp [results, Tryz.results181, go_sem, *]) rfl ⟨rfl, (by repeat (first | with_reducible exact Below.refl _ _ | with_reducible assumption | with_reducible refine Below.setCell ?_ (by first | omega | (simp; done) | (simp <;> omega)) _ | with_reducible refine below_drewN ?_ _ | with_reducible refine Below.drew ?_ | with_reducible refine Below.alloc ?_ (by first | omega | (simp; done) | (simp <;> omega)) _))⟩
set_option maxRecDepth 100000 in
set_option maxHeartbeats 8000000 in
theorem realParts_gF (f : ByteArray) (al si : Int) (ze : Bool) (wi gr pr : Int) (n : Bool) (c e : Int) (P : Nat) (w : World) (hv : Fd.vld ⟨n, c, e⟩ = true) (h1 : -1 ≤ pr) (hP : max (prW pr) 1 = (P : Int) + 1) (h9 : P ≤ 8) :
    Calls Tryz.prog 181 #[.agg #[.string f, .int .i64 al, .int .i64 si, .bool false, .bool ze, .int .i64 wi, .int .i64 gr, .int .i64 pr, .string ⟨#[103]⟩], .agg #[.bool n, .int .i64 c, .int .i64 e]] w fun r w' => r = .returned (.tuple #[.string ⟨(gnA n c e P).toArray⟩, .string ⟨(trR 48 (gnB n c e P)).toArray⟩, .string ⟨(gnU 101 n c e P).toArray⟩]) ∧ Below w.heap.size w w' := by
  obtain ⟨b0, b1, b2, b3⟩ := vld_b hv
  have kp := fun W => precOfS_any f al si false ze wi gr pr ⟨#[103]⟩ W h1
  have kf := fun W => generalPartsF_any 101 n c e P (prW pr) (by omega) W hv h9
  generalize gnA n c e P = A at *
  generalize trR 48 (gnB n c e P) = B at *
  generalize gnU 101 n c e P = T at *
  generalize prW pr = pp at *
  have KP := Lib.hid kp; have KF := Lib.hid kf
  clear kp kf hv
  have za := (C9.new w (.string f) (.int .i64 al) (.int .i64 si) (.bool false) (.bool ze) (.int .i64 wi) (.int .i64 gr) (.int .i64 pr) (.string ⟨#[103]⟩) 38).up (.cells #[.bool n, .int .i64 c, .int .i64 e] 24)
  have zd : C3 ((w.alloc (.cells #[.string f, .int .i64 al, .int .i64 si, .bool false, .bool ze, .int .i64 wi, .int .i64 gr, .int .i64 pr, .string ⟨#[103]⟩] 38)).alloc (.cells #[.bool n, .int .i64 c, .int .i64 e] 24)) (w.heap.size + 1) (.bool n) (.int .i64 c) (.int .i64 e) := by
    have h := C3.new (w.alloc (.cells #[.string f, .int .i64 al, .int .i64 si, .bool false, .bool ze, .int .i64 wi, .int .i64 gr, .int .i64 pr, .string ⟨#[103]⟩] 38)) (.bool n) (.int .i64 c) (.int .i64 e) 24
    rw [show (w.alloc (.cells #[.string f, .int .i64 al, .int .i64 si, .bool false, .bool ze, .int .i64 wi, .int .i64 gr, .int .i64 pr, .string ⟨#[103]⟩] 38)).heap.size = w.heap.size + 1 by simp] at h
    exact h
  have hB : Below w.heap.size w ((w.alloc (.cells #[.string f, .int .i64 al, .int .i64 si, .bool false, .bool ze, .int .i64 wi, .int .i64 gr, .int .i64 pr, .string ⟨#[103]⟩] 38)).alloc (.cells #[.bool n, .int .i64 c, .int .i64 e] 24)) := ((Below.refl _ _).alloc (Nat.le_refl _) _).alloc (by simp) _
  obtain ⟨s0, s1, s2, s3, s4, s5, s6, s7, s8⟩ := C9.since za
  obtain ⟨d0, d1, d2⟩ := C3.since zd
  go_enter Tryz.func181, Tryz.ntmps181
  go_wp2
  refine wp_region_since (by kernel_rfl) (by kernel_rfl) ?_
  repeat (quiet_step (first | (go_at_call 239; with_reducible exact Calls.since_of (KP.out _)) | (go_at_call 65; with_reducible exact Calls.since_of (KF.out _))))
  refine wpQuiet_nil ?_
  intro w_ hw_
  obtain ⟨⟨w1, hb⟩, hw2⟩ := hw_
  have hw3 : w1 = w_ := hw2.symm
  clear hw2
  subst hw3
  clear s0 s1 s2 s3 s4 s5 s6 s7 s8 d0 d1 d2
  replace hB := hB.trans (hb.mono hB.size)
  have hz := hb.size
  replace za := C9.carry za hb
  obtain ⟨x0, x1, x2, x3, x4, x5, x6, x7, x8, xf, xl⟩ := za
  go_wp2
  exact bodyPost_ret (v := .tuple #[.string ⟨(A).toArray⟩, .string ⟨(B).toArray⟩, .string ⟨T.toArray⟩]) (by simp [results, Tryz.results181, go_sem, *]) rfl ⟨rfl, (by repeat (first | with_reducible exact Below.refl _ _ | with_reducible assumption | with_reducible refine Below.setCell ?_ (by first | omega | (simp; done) | (simp <;> omega)) _ | with_reducible refine below_drewN ?_ _ | with_reducible refine Below.drew ?_ | with_reducible refine Below.alloc ?_ (by first | omega | (simp; done) | (simp <;> omega)) _))⟩
set_option maxRecDepth 100000 in
set_option maxHeartbeats 8000000 in
theorem realParts_GT (f : ByteArray) (al si : Int) (ze : Bool) (wi gr pr : Int) (n : Bool) (c e : Int) (P : Nat) (w : World) (hv : Fd.vld ⟨n, c, e⟩ = true) (h1 : -1 ≤ pr) (hP : max (prW pr) 1 = (P : Int) + 1) (h9 : P ≤ 8) :
    Calls Tryz.prog 181 #[.agg #[.string f, .int .i64 al, .int .i64 si, .bool true, .bool ze, .int .i64 wi, .int .i64 gr, .int .i64 pr, .string ⟨#[71]⟩], .agg #[.bool n, .int .i64 c, .int .i64 e]] w fun r w' => r = .returned (.tuple #[.string ⟨(gnA n c e P).toArray⟩, .string ⟨(gnB n c e P).toArray⟩, .string ⟨(gnU 69 n c e P).toArray⟩]) ∧ Below w.heap.size w w' := by
  obtain ⟨b0, b1, b2, b3⟩ := vld_b hv
  have kp := fun W => precOfS_any f al si true ze wi gr pr ⟨#[71]⟩ W h1
  have kf := fun W => generalPartsT_any 69 n c e P (prW pr) (by omega) W hv h9
  generalize gnA n c e P = A at *
  generalize gnB n c e P = B at *
  generalize gnU 69 n c e P = T at *
  generalize prW pr = pp at *
  have KP := Lib.hid kp; have KF := Lib.hid kf
  clear kp kf hv
  have za := (C9.new w (.string f) (.int .i64 al) (.int .i64 si) (.bool true) (.bool ze) (.int .i64 wi) (.int .i64 gr) (.int .i64 pr) (.string ⟨#[71]⟩) 38).up (.cells #[.bool n, .int .i64 c, .int .i64 e] 24)
  have zd : C3 ((w.alloc (.cells #[.string f, .int .i64 al, .int .i64 si, .bool true, .bool ze, .int .i64 wi, .int .i64 gr, .int .i64 pr, .string ⟨#[71]⟩] 38)).alloc (.cells #[.bool n, .int .i64 c, .int .i64 e] 24)) (w.heap.size + 1) (.bool n) (.int .i64 c) (.int .i64 e) := by
    have h := C3.new (w.alloc (.cells #[.string f, .int .i64 al, .int .i64 si, .bool true, .bool ze, .int .i64 wi, .int .i64 gr, .int .i64 pr, .string ⟨#[71]⟩] 38)) (.bool n) (.int .i64 c) (.int .i64 e) 24
    rw [show (w.alloc (.cells #[.string f, .int .i64 al, .int .i64 si, .bool true, .bool ze, .int .i64 wi, .int .i64 gr, .int .i64 pr, .string ⟨#[71]⟩] 38)).heap.size = w.heap.size + 1 by simp] at h
    exact h
  have hB : Below w.heap.size w ((w.alloc (.cells #[.string f, .int .i64 al, .int .i64 si, .bool true, .bool ze, .int .i64 wi, .int .i64 gr, .int .i64 pr, .string ⟨#[71]⟩] 38)).alloc (.cells #[.bool n, .int .i64 c, .int .i64 e] 24)) := ((Below.refl _ _).alloc (Nat.le_refl _) _).alloc (by simp) _
  obtain ⟨s0, s1, s2, s3, s4, s5, s6, s7, s8⟩ := C9.since za
  obtain ⟨d0, d1, d2⟩ := C3.since zd
  go_enter Tryz.func181, Tryz.ntmps181
  go_wp2
  refine wp_region_since (by kernel_rfl) (by kernel_rfl) ?_
  repeat (quiet_step (first | (go_at_call 239; with_reducible exact Calls.since_of (KP.out _)) | (go_at_call 65; with_reducible exact Calls.since_of (KF.out _))))
  refine wpQuiet_nil ?_
  intro w_ hw_
  obtain ⟨⟨w1, hb⟩, hw2⟩ := hw_
  have hw3 : w1 = w_ := hw2.symm
  clear hw2
  subst hw3
  clear s0 s1 s2 s3 s4 s5 s6 s7 s8 d0 d1 d2
  replace hB := hB.trans (hb.mono hB.size)
  have hz := hb.size
  replace za := C9.carry za hb
  obtain ⟨x0, x1, x2, x3, x4, x5, x6, x7, x8, xf, xl⟩ := za
  go_wp2
  exact bodyPost_ret (v := .tuple #[.string ⟨(A).toArray⟩, .string ⟨(B).toArray⟩, .string ⟨T.toArray⟩]) (by simp [results, Tryz.results181, go_sem, *]) rfl ⟨rfl, (by repeat (first | with_reducible exact Below.refl _ _ | with_reducible assumption | with_reducible refine Below.setCell ?_ (by first | omega | (simp; done) | (simp <;> omega)) _ | with_reducible refine below_drewN ?_ _ | with_reducible refine Below.drew ?_ | with_reducible refine Below.alloc ?_ (by first | omega | (simp; done) | (simp <;> omega)) _))⟩
set_option maxRecDepth 100000 in
set_option maxHeartbeats 8000000 in
theorem realParts_GF (f : ByteArray) (al si : Int) (ze : Bool) (wi gr pr : Int) (n : Bool) (c e : Int) (P : Nat) (w : World) (hv : Fd.vld ⟨n, c, e⟩ = true) (h1 : -1 ≤ pr) (hP : max (prW pr) 1 = (P : Int) + 1) (h9 : P ≤ 8) :
    Calls Tryz.prog 181 #[.agg #[.string f, .int .i64 al, .int .i64 si, .bool false, .bool ze, .int .i64 wi, .int .i64 gr, .int .i64 pr, .string ⟨#[71]⟩], .agg #[.bool n, .int .i64 c, .int .i64 e]] w fun r w' => r = .returned (.tuple #[.string ⟨(gnA n c e P).toArray⟩, .string ⟨(trR 48 (gnB n c e P)).toArray⟩, .string ⟨(gnU 69 n c e P).toArray⟩]) ∧ Below w.heap.size w w' := by
  obtain ⟨b0, b1, b2, b3⟩ := vld_b hv
  have kp := fun W => precOfS_any f al si false ze wi gr pr ⟨#[71]⟩ W h1
  have kf := fun W => generalPartsF_any 69 n c e P (prW pr) (by omega) W hv h9
  generalize gnA n c e P = A at *
  generalize trR 48 (gnB n c e P) = B at *
  generalize gnU 69 n c e P = T at *
  generalize prW pr = pp at *
  have KP := Lib.hid kp; have KF := Lib.hid kf
  clear kp kf hv
  have za := (C9.new w (.string f) (.int .i64 al) (.int .i64 si) (.bool false) (.bool ze) (.int .i64 wi) (.int .i64 gr) (.int .i64 pr) (.string ⟨#[71]⟩) 38).up (.cells #[.bool n, .int .i64 c, .int .i64 e] 24)
  have zd : C3 ((w.alloc (.cells #[.string f, .int .i64 al, .int .i64 si, .bool false, .bool ze, .int .i64 wi, .int .i64 gr, .int .i64 pr, .string ⟨#[71]⟩] 38)).alloc (.cells #[.bool n, .int .i64 c, .int .i64 e] 24)) (w.heap.size + 1) (.bool n) (.int .i64 c) (.int .i64 e) := by
    have h := C3.new (w.alloc (.cells #[.string f, .int .i64 al, .int .i64 si, .bool false, .bool ze, .int .i64 wi, .int .i64 gr, .int .i64 pr, .string ⟨#[71]⟩] 38)) (.bool n) (.int .i64 c) (.int .i64 e) 24
    rw [show (w.alloc (.cells #[.string f, .int .i64 al, .int .i64 si, .bool false, .bool ze, .int .i64 wi, .int .i64 gr, .int .i64 pr, .string ⟨#[71]⟩] 38)).heap.size = w.heap.size + 1 by simp] at h
    exact h
  have hB : Below w.heap.size w ((w.alloc (.cells #[.string f, .int .i64 al, .int .i64 si, .bool false, .bool ze, .int .i64 wi, .int .i64 gr, .int .i64 pr, .string ⟨#[71]⟩] 38)).alloc (.cells #[.bool n, .int .i64 c, .int .i64 e] 24)) := ((Below.refl _ _).alloc (Nat.le_refl _) _).alloc (by simp) _
  obtain ⟨s0, s1, s2, s3, s4, s5, s6, s7, s8⟩ := C9.since za
  obtain ⟨d0, d1, d2⟩ := C3.since zd
  go_enter Tryz.func181, Tryz.ntmps181
  go_wp2
  refine wp_region_since (by kernel_rfl) (by kernel_rfl) ?_
  repeat (quiet_step (first | (go_at_call 239; with_reducible exact Calls.since_of (KP.out _)) | (go_at_call 65; with_reducible exact Calls.since_of (KF.out _))))
  refine wpQuiet_nil ?_
  intro w_ hw_
  obtain ⟨⟨w1, hb⟩, hw2⟩ := hw_
  have hw3 : w1 = w_ := hw2.symm
  clear hw2
  subst hw3
  clear s0 s1 s2 s3 s4 s5 s6 s7 s8 d0 d1 d2
  replace hB := hB.trans (hb.mono hB.size)
  have hz := hb.size
  replace za := C9.carry za hb
  obtain ⟨x0, x1, x2, x3, x4, x5, x6, x7, x8, xf, xl⟩ := za
  go_wp2
  exact bodyPost_ret (v := .tuple #[.string ⟨(A).toArray⟩, .string ⟨(B).toArray⟩, .string ⟨T.toArray⟩]) (by simp [results, Tryz.results181, go_sem, *]) rfl ⟨rfl, (by repeat (first | with_reducible exact Below.refl _ _ | with_reducible assumption | with_reducible refine Below.setCell ?_ (by first | omega | (simp; done) | (simp <;> omega)) _ | with_reducible refine below_drewN ?_ _ | with_reducible refine Below.drew ?_ | with_reducible refine Below.alloc ?_ (by first | omega | (simp; done) | (simp <;> omega)) _))⟩
set_option maxRecDepth 100000 in
set_option maxHeartbeats 8000000 in
theorem realParts_none (f : ByteArray) (al si : Int) (alt ze : Bool) (wi gr pr : Int) (n : Bool) (c e : Int) (P : Nat) (w : World) (hv : Fd.vld ⟨n, c, e⟩ = true) (h1 : -1 ≤ pr) (hP : Fd.placesI ⟨n, c, e⟩ = (P : Int)) (h9 : P ≤ 12) :
    Calls Tryz.prog 181 #[.agg #[.string f, .int .i64 al, .int .i64 si, .bool alt, .bool ze, .int .i64 wi, .int .i64 gr, .int .i64 pr, .string ⟨#[]⟩], .agg #[.bool n, .int .i64 c, .int .i64 e]] w fun r w' => r = .returned (.tuple #[.string ⟨(fxA c e P).toArray⟩, .string ⟨(fxB c e P).toArray⟩, .string ⟨#[]⟩]) ∧ Below w.heap.size w w' := by
  obtain ⟨b0, b1, b2, b3⟩ := vld_b hv
  have kp := fun W => precOfS_any f al si alt ze wi gr pr ⟨#[]⟩ W h1
  have kl := fun W => PlacesOfS_any n c e W
  simp only [Fd.places_eq, hP] at kl
  have kf := fun W => fixedPartsS_any n c e P W b0 b1 (by omega) (by omega) (by omega) (by omega)
  generalize fxA c e P = A at *
  generalize fxB c e P = B at *
  have KL := Lib.hid kl; have KF := Lib.hid kf
  clear kl kf hv
  have za := (C9.new w (.string f) (.int .i64 al) (.int .i64 si) (.bool alt) (.bool ze) (.int .i64 wi) (.int .i64 gr) (.int .i64 pr) (.string ⟨#[]⟩) 38).up (.cells #[.bool n, .int .i64 c, .int .i64 e] 24)
  have zd : C3 ((w.alloc (.cells #[.string f, .int .i64 al, .int .i64 si, .bool alt, .bool ze, .int .i64 wi, .int .i64 gr, .int .i64 pr, .string ⟨#[]⟩] 38)).alloc (.cells #[.bool n, .int .i64 c, .int .i64 e] 24)) (w.heap.size + 1) (.bool n) (.int .i64 c) (.int .i64 e) := by
    have h := C3.new (w.alloc (.cells #[.string f, .int .i64 al, .int .i64 si, .bool alt, .bool ze, .int .i64 wi, .int .i64 gr, .int .i64 pr, .string ⟨#[]⟩] 38)) (.bool n) (.int .i64 c) (.int .i64 e) 24
    rw [show (w.alloc (.cells #[.string f, .int .i64 al, .int .i64 si, .bool alt, .bool ze, .int .i64 wi, .int .i64 gr, .int .i64 pr, .string ⟨#[]⟩] 38)).heap.size = w.heap.size + 1 by simp] at h
    exact h
  have hB : Below w.heap.size w ((w.alloc (.cells #[.string f, .int .i64 al, .int .i64 si, .bool alt, .bool ze, .int .i64 wi, .int .i64 gr, .int .i64 pr, .string ⟨#[]⟩] 38)).alloc (.cells #[.bool n, .int .i64 c, .int .i64 e] 24)) := ((Below.refl _ _).alloc (Nat.le_refl _) _).alloc (by simp) _
  obtain ⟨s0, s1, s2, s3, s4, s5, s6, s7, s8⟩ := C9.since za
  obtain ⟨d0, d1, d2⟩ := C3.since zd
  go_enter Tryz.func181, Tryz.ntmps181
  go_wp2
  refine wp_region_since (by kernel_rfl) (by kernel_rfl) ?_
  repeat (quiet_step (first | (go_at_call 240; with_reducible exact Calls.since_of (KL.out _)) | (go_at_call 111; with_reducible exact Calls.since_of (KF.out _))))
  refine wpQuiet_nil ?_
  intro w_ hw_
  obtain ⟨⟨w1, hb⟩, hw2⟩ := hw_
  have hw3 : w1 = w_ := hw2.symm
  clear hw2
  subst hw3
  clear s0 s1 s2 s3 s4 s5 s6 s7 s8 d0 d1 d2
  replace hB := hB.trans (hb.mono hB.size)
  have hz := hb.size
  replace za := C9.carry za hb
  obtain ⟨x0, x1, x2, x3, x4, x5, x6, x7, x8, xf, xl⟩ := za
  go_wp2
  exact bodyPost_ret (v := .tuple #[.string ⟨(A).toArray⟩, .string ⟨(B).toArray⟩, .string ⟨#[]⟩]) (by simp [results, Tryz.results181, go_sem, *]) rfl ⟨rfl, (by repeat (first | with_reducible exact Below.refl _ _ | with_reducible assumption | with_reducible refine Below.setCell ?_ (by first | omega | (simp; done) | (simp <;> omega)) _ | with_reducible refine below_drewN ?_ _ | with_reducible refine Below.drew ?_ | with_reducible refine Below.alloc ?_ (by first | omega | (simp; done) | (simp <;> omega)) _))⟩
end Go.Proofs.YtebheehjhnaklaaGreatDoor
