import Derived.Test.YtebheehjhnaklaaGreatDoorTL
import Derived.Test.YtebheehjhnaklaaGreatDoorE10
namespace Go.Proofs.YtebheehjhnaklaaGreatDoor
open Go.RowKit
set_option maxRecDepth 100000 in
set_option maxHeartbeats 4000000 in
theorem trimmed_any (A B T : List UInt8) (w : World) (hBl : B.length ≤ 200) :
    Calls Tryz.prog 64 #[.agg #[.string ⟨A.toArray⟩, .string ⟨B.toArray⟩, .string ⟨T.toArray⟩]] w fun r w' => r = .returned (.agg #[.string ⟨A.toArray⟩, .string ⟨(trR 48 B).toArray⟩, .string ⟨T.toArray⟩]) ∧ Below w.heap.size w w' := by
  have kt := fun W => mBn (TrimRight_one ⟨B.toArray⟩ 48 (by decide) (by show B.length ≤ _; omega) W)
  rw [show trRB 48 ⟨B.toArray⟩ = ⟨(trR 48 B).toArray⟩ from rfl] at kt
  generalize trR 48 B = B2 at *
  have zb := C3.up (C3.new w (.string ⟨A.toArray⟩) (.string ⟨B.toArray⟩) (.string ⟨T.toArray⟩) 69) (.cells #[.string ⟨#[]⟩, .string ⟨#[]⟩, .string ⟨#[]⟩] 69)
  have zc : C3 ((w.alloc (.cells #[.string ⟨A.toArray⟩, .string ⟨B.toArray⟩, .string ⟨T.toArray⟩] 69)).alloc (.cells #[.string ⟨#[]⟩, .string ⟨#[]⟩, .string ⟨#[]⟩] 69)) (w.heap.size + 1) (.string ⟨#[]⟩) (.string ⟨#[]⟩) (.string ⟨#[]⟩) := by
    have h := C3.new (w.alloc (.cells #[.string ⟨A.toArray⟩, .string ⟨B.toArray⟩, .string ⟨T.toArray⟩] 69)) (.string ⟨#[]⟩) (.string ⟨#[]⟩) (.string ⟨#[]⟩) 69
    rw [show (w.alloc (.cells #[.string ⟨A.toArray⟩, .string ⟨B.toArray⟩, .string ⟨T.toArray⟩] 69)).heap.size = w.heap.size + 1 by simp] at h
    exact h
  have hB : Below w.heap.size w ((w.alloc (.cells #[.string ⟨A.toArray⟩, .string ⟨B.toArray⟩, .string ⟨T.toArray⟩] 69)).alloc (.cells #[.string ⟨#[]⟩, .string ⟨#[]⟩, .string ⟨#[]⟩] 69)) := (Below.alloc (Below.refl _ _) (Nat.le_refl _) _).alloc (by simp) _
  have zz := zb
  obtain ⟨x0, x1, x2, x3, x4, x5, x6⟩ := zz
  have zz := zc
  obtain ⟨x0, x1, x2, x3, x4, x5, x6⟩ := zz
  have KT := Lib.hid kt
  clear kt
  go_enter Tryz.func64, Tryz.ntmps64
  go_wp2_with ((go_at_call 56; (with_reducible refine Calls.mono (KT.out _) ?_); rintro r w1 ⟨rfl, hb⟩; replace hB := hB.trans (hb.mono hB.size); have hz := hB.size; replace zb := C3.carry zb hb; have zz := zb; obtain ⟨x0, x1, x2, x3, x4, x5, x6⟩ := zz; replace zc := C3.carry zc hb; have zz := zc; obtain ⟨x0, x1, x2, x3, x4, x5, x6⟩ := zz))
  exact bodyPost_ret (v := .agg #[.string ⟨A.toArray⟩, .string ⟨B2.toArray⟩, .string ⟨T.toArray⟩]) (by simp [results, Tryz.results64, go_sem, *]) rfl ⟨rfl, (by repeat (first | with_reducible exact Below.refl _ _ | with_reducible assumption | with_reducible refine Below.setCell ?_ (by first | omega | (simp; done) | (simp <;> omega)) _ | with_reducible refine below_drewN ?_ _ | with_reducible refine Below.drew ?_ | with_reducible refine Below.alloc ?_ (by first | omega | (simp; done) | (simp <;> omega)) _))⟩
theorem beq_48 (a : UInt8) : ((a.toNat : Int) == 48) = decide (a = 48) := beq_u8 (a := a) (b := 48)
set_option maxRecDepth 100000 in
set_option maxHeartbeats 4000000 in
theorem trimmedS_any (s : ByteArray) (hs : s.size ≤ 1000) (w : World) :
    Calls Tryz.prog 113 #[.string s] w fun r w' => r = .returned (.string (trRB 48 s)) ∧ w = w' := by
  go_enter Tryz.func113, Tryz.ntmps113
  go_wp2
  go_loopg [0] s.size (fun g s0 wr => ∃ T : ByteArray, wr = w ∧ s0 = .string T ∧ T.size ≤ s.size ∧ Aside (trRB 48 T = trRB 48 s) ∧ Aside (g = T.size))
  case atStart => exact ⟨s, rfl, rfl, Nat.le_refl _, by show _ = _; rfl, by show _ = _; rfl⟩
  case round =>
    obtain ⟨T, rfl, rfl, hk, hv, hg⟩ := hrel
    have hg' := hg.out
    have hv' := hv.out
    clear hg hv
    by_cases h0 : T.size = 0
    · obtain rfl := sz0 h0
      rw [trRB_nil] at hv'
      have HV := Lib.hid hv'
      clear hv'
      go_wp2
      all_goals go_ret
      all_goals exact ⟨ret_str HV.out, rfl⟩
    · have hp : 0 < T.size := by omega
      have hne : T.toList.isEmpty = false := nonempty_list (by omega)
      have hq := beq_48 (T[T.size - 1])
      by_cases hc : T[T.size - 1] = 48
      · have hst := trR_step 48 hp hc
        rw [hv'] at hst
        rw [decide_eq_true hc] at hq
        have HV := Lib.hid hst
        clear hst hv' hc
        go_wp2
        go_roundg (T.size - 1)
        case measure => omega
        case rel => exact ⟨T.extract 0 (T.size - 1), rfl, rfl, by rw [ByteArray.size_extract]; omega, HV.out, by show _ = _; rw [ByteArray.size_extract]; omega⟩
      · have hst := trR_stop 48 hp hc
        rw [hv'] at hst
        rw [decide_eq_false hc] at hq
        have HV := Lib.hid hst
        clear hst hv' hc
        go_wp2
        all_goals go_ret
        all_goals exact ⟨ret_str HV.out.symm, rfl⟩
/-- are the powers of 10 told -/
def sciB (pw : Int) (p : Nat) : Bool := decide (pw < -4) || decide ((p : Int) + 1 ≤ pw)
def gnA (n : Bool) (c e : Int) (p : Nat) : List UInt8 := if sciB (rlI n c e (p + 1)) p then fxA c (e - rlI n c e (p + 1)) p else fxA c e (p - rlI n c e (p + 1)).toNat
def gnB (n : Bool) (c e : Int) (p : Nat) : List UInt8 := if sciB (rlI n c e (p + 1)) p then fxB c (e - rlI n c e (p + 1)) p else fxB c e (p - rlI n c e (p + 1)).toNat
def gnT (n : Bool) (c e : Int) (p : Nat) : List UInt8 := if sciB (rlI n c e (p + 1)) p then powL 101 (rlI n c e (p + 1)) else []
set_option maxRecDepth 100000 in
set_option maxHeartbeats 8000000 in
theorem general_any (n : Bool) (c e : Int) (p : Nat) (w : World) (hv : Fd.vld ⟨n, c, e⟩ = true) (hp : p ≤ 8) (hT : PT w) :
    Calls Tryz.prog 63 #[.agg #[.bool n, .int .i64 c, .int .i64 e], .int .i64 ((p : Int) + 1)] w fun r w' => r = .returned (.agg #[.string ⟨(gnA n c e p).toArray⟩, .string ⟨(gnB n c e p).toArray⟩, .string ⟨(gnT n c e p).toArray⟩]) ∧ Below w.heap.size w w' := by
  obtain ⟨b0, b1, b2, b3⟩ := vld_b hv
  have hb := rl_bd (g := (p : Int) + 1) hv (by omega) (by omega)
  have kr := fun W => roundedLead_any n c e ((p : Int) + 1) W hv (by omega) (by omega)
  have g1 : (p : Int) + 1 - 1 = p := by omega
  have wg : IntKind.i64.wrap (p : Int) = p := IntWalk.i64_in _ (by omega)
  cases hS : sciB (rlI n c e (p + 1)) p
  · have hS' := hS
    simp only [sciB, Bool.or_eq_false_iff, decide_eq_false_iff_not] at hS'
    rw [show gnA n c e p = fxA c e (p - rlI n c e (p + 1)).toNat by unfold gnA; rw [hS]; rfl, show gnB n c e p = fxB c e (p - rlI n c e (p + 1)).toNat by unfold gnB; rw [hS]; rfl, show gnT n c e p = [] by unfold gnT; rw [hS]; rfl]
    obtain ⟨q, hq⟩ : ∃ q : Nat, (p : Int) - rlI n c e (p + 1) = q := ⟨(p - rlI n c e (p + 1)).toNat, by omega⟩
    rw [hq, show ((q : Nat) : Int).toNat = q from rfl]
    have kx := fun W (h : PT W) => fixed_any n c e q W b0 b1 (by omega) (by omega) (by omega) (by omega) h
    generalize fxA c e q = A at *
    generalize fxB c e q = B at *
    generalize rlI n c e (p + 1) = pw at *
    obtain ⟨i1, i2⟩ := hS'
    have i3 : ¬ (p : Int) + 1 ≤ pw := i2
    have wq : IntKind.i64.wrap (q : Int) = q := IntWalk.i64_in _ (by omega)
    have zb := C3.up (C3.new w (.bool n) (.int .i64 c) (.int .i64 e) 24) (.cells #[.string ⟨#[]⟩, .string ⟨#[]⟩, .string ⟨#[]⟩] 69)
    have zc : C3 ((w.alloc (.cells #[.bool n, .int .i64 c, .int .i64 e] 24)).alloc (.cells #[.string ⟨#[]⟩, .string ⟨#[]⟩, .string ⟨#[]⟩] 69)) (w.heap.size + 1) (.string ⟨#[]⟩) (.string ⟨#[]⟩) (.string ⟨#[]⟩) := by
      have h := C3.new (w.alloc (.cells #[.bool n, .int .i64 c, .int .i64 e] 24)) (.string ⟨#[]⟩) (.string ⟨#[]⟩) (.string ⟨#[]⟩) 69
      rw [show (w.alloc (.cells #[.bool n, .int .i64 c, .int .i64 e] 24)).heap.size = w.heap.size + 1 by simp] at h
      exact h
    have hB : Below w.heap.size w ((w.alloc (.cells #[.bool n, .int .i64 c, .int .i64 e] 24)).alloc (.cells #[.string ⟨#[]⟩, .string ⟨#[]⟩, .string ⟨#[]⟩] 69)) := (Below.alloc (Below.refl _ _) (Nat.le_refl _) _).alloc (by simp) _
    have zz := zb
    obtain ⟨x0, x1, x2, x3, x4, x5, x6⟩ := zz
    have zz := zc
    obtain ⟨x0, x1, x2, x3, x4, x5, x6⟩ := zz
    have KR := Lib.hid kr; have KX := Lib.hid kx
    clear kr kx
    clear hv hS
    go_enter Tryz.func63, Tryz.ntmps63
    go_wp2_with (first | (go_at_call 92; (with_reducible refine Calls.mono (KR.out _) ?_); rintro r w1 ⟨rfl, hb⟩; replace hB := hB.trans (hb.mono hB.size); have hz := hB.size; replace zb := C3.carry zb hb; have zz := zb; obtain ⟨x0, x1, x2, x3, x4, x5, x6⟩ := zz; replace zc := C3.carry zc hb; have zz := zc; obtain ⟨x0, x1, x2, x3, x4, x5, x6⟩ := zz) | (go_at_call 93; (with_reducible refine Calls.mono (KX.out _ (hT.on hB)) ?_); rintro r w1 ⟨rfl, hb⟩; replace hB := hB.trans (hb.mono hB.size); have hz := hB.size; replace zb := C3.carry zb hb; have zz := zb; obtain ⟨x0, x1, x2, x3, x4, x5, x6⟩ := zz; replace zc := C3.carry zc hb; have zz := zc; obtain ⟨x0, x1, x2, x3, x4, x5, x6⟩ := zz))
    exact bodyPost_ret (v := .agg #[.string ⟨A.toArray⟩, .string ⟨B.toArray⟩, .string ⟨#[]⟩]) (by simp [results, Tryz.results63, go_sem, *]) rfl ⟨rfl, (by repeat (first | with_reducible exact Below.refl _ _ | with_reducible assumption | with_reducible refine Below.setCell ?_ (by first | omega | (simp; done) | (simp <;> omega)) _ | with_reducible refine below_drewN ?_ _ | with_reducible refine Below.drew ?_ | with_reducible refine Below.alloc ?_ (by first | omega | (simp; done) | (simp <;> omega)) _))⟩
  · have hS' := hS
    simp only [sciB, Bool.or_eq_true, decide_eq_true_eq] at hS'
    rw [show gnA n c e p = fxA c (e - rlI n c e (p + 1)) p by unfold gnA; rw [hS]; rfl, show gnB n c e p = fxB c (e - rlI n c e (p + 1)) p by unfold gnB; rw [hS]; rfl, show gnT n c e p = powL 101 (rlI n c e (p + 1)) by unfold gnT; rw [hS]; rfl]
    have kx := fun W (h : PT W) => scientific_any n c e p W hv hp h
    generalize fxA c (e - rlI n c e (p + 1)) p = A at *
    generalize fxB c (e - rlI n c e (p + 1)) p = B at *
    generalize powL 101 (rlI n c e (p + 1)) = T at *
    generalize rlI n c e (p + 1) = pw at *
    have zb := C3.up (C3.new w (.bool n) (.int .i64 c) (.int .i64 e) 24) (.cells #[.string ⟨#[]⟩, .string ⟨#[]⟩, .string ⟨#[]⟩] 69)
    have zc : C3 ((w.alloc (.cells #[.bool n, .int .i64 c, .int .i64 e] 24)).alloc (.cells #[.string ⟨#[]⟩, .string ⟨#[]⟩, .string ⟨#[]⟩] 69)) (w.heap.size + 1) (.string ⟨#[]⟩) (.string ⟨#[]⟩) (.string ⟨#[]⟩) := by
      have h := C3.new (w.alloc (.cells #[.bool n, .int .i64 c, .int .i64 e] 24)) (.string ⟨#[]⟩) (.string ⟨#[]⟩) (.string ⟨#[]⟩) 69
      rw [show (w.alloc (.cells #[.bool n, .int .i64 c, .int .i64 e] 24)).heap.size = w.heap.size + 1 by simp] at h
      exact h
    have hB : Below w.heap.size w ((w.alloc (.cells #[.bool n, .int .i64 c, .int .i64 e] 24)).alloc (.cells #[.string ⟨#[]⟩, .string ⟨#[]⟩, .string ⟨#[]⟩] 69)) := (Below.alloc (Below.refl _ _) (Nat.le_refl _) _).alloc (by simp) _
    have zz := zb
    obtain ⟨x0, x1, x2, x3, x4, x5, x6⟩ := zz
    have zz := zc
    obtain ⟨x0, x1, x2, x3, x4, x5, x6⟩ := zz
    have KR := Lib.hid kr; have KX := Lib.hid kx
    clear kr kx
    clear hv hS
    by_cases i1 : pw < -4
    · go_enter Tryz.func63, Tryz.ntmps63
      go_wp2_with (first | (go_at_call 92; (with_reducible refine Calls.mono (KR.out _) ?_); rintro r w1 ⟨rfl, hb⟩; replace hB := hB.trans (hb.mono hB.size); have hz := hB.size; replace zb := C3.carry zb hb; have zz := zb; obtain ⟨x0, x1, x2, x3, x4, x5, x6⟩ := zz; replace zc := C3.carry zc hb; have zz := zc; obtain ⟨x0, x1, x2, x3, x4, x5, x6⟩ := zz) | (go_at_call 45; (with_reducible refine Calls.mono (KX.out _ (hT.on hB)) ?_); rintro r w1 ⟨rfl, hb⟩; replace hB := hB.trans (hb.mono hB.size); have hz := hB.size; replace zb := C3.carry zb hb; have zz := zb; obtain ⟨x0, x1, x2, x3, x4, x5, x6⟩ := zz; replace zc := C3.carry zc hb; have zz := zc; obtain ⟨x0, x1, x2, x3, x4, x5, x6⟩ := zz))
      exact bodyPost_ret (v := .agg #[.string ⟨A.toArray⟩, .string ⟨B.toArray⟩, .string ⟨T.toArray⟩]) (by simp [results, Tryz.results63, go_sem, *]) rfl ⟨rfl, (by repeat (first | with_reducible exact Below.refl _ _ | with_reducible assumption | with_reducible refine Below.setCell ?_ (by first | omega | (simp; done) | (simp <;> omega)) _ | with_reducible refine below_drewN ?_ _ | with_reducible refine Below.drew ?_ | with_reducible refine Below.alloc ?_ (by first | omega | (simp; done) | (simp <;> omega)) _))⟩
    · have i2 : (p : Int) + 1 ≤ pw := by omega
      go_enter Tryz.func63, Tryz.ntmps63
      go_wp2_with (first | (go_at_call 92; (with_reducible refine Calls.mono (KR.out _) ?_); rintro r w1 ⟨rfl, hb⟩; replace hB := hB.trans (hb.mono hB.size); have hz := hB.size; replace zb := C3.carry zb hb; have zz := zb; obtain ⟨x0, x1, x2, x3, x4, x5, x6⟩ := zz; replace zc := C3.carry zc hb; have zz := zc; obtain ⟨x0, x1, x2, x3, x4, x5, x6⟩ := zz) | (go_at_call 45; (with_reducible refine Calls.mono (KX.out _ (hT.on hB)) ?_); rintro r w1 ⟨rfl, hb⟩; replace hB := hB.trans (hb.mono hB.size); have hz := hB.size; replace zb := C3.carry zb hb; have zz := zb; obtain ⟨x0, x1, x2, x3, x4, x5, x6⟩ := zz; replace zc := C3.carry zc hb; have zz := zc; obtain ⟨x0, x1, x2, x3, x4, x5, x6⟩ := zz))
      exact bodyPost_ret (v := .agg #[.string ⟨A.toArray⟩, .string ⟨B.toArray⟩, .string ⟨T.toArray⟩]) (by simp [results, Tryz.results63, go_sem, *]) rfl ⟨rfl, (by repeat (first | with_reducible exact Below.refl _ _ | with_reducible assumption | with_reducible refine Below.setCell ?_ (by first | omega | (simp; done) | (simp <;> omega)) _ | with_reducible refine below_drewN ?_ _ | with_reducible refine Below.drew ?_ | with_reducible refine Below.alloc ?_ (by first | omega | (simp; done) | (simp <;> omega)) _))⟩
end Go.Proofs.YtebheehjhnaklaaGreatDoor
namespace Go.Proofs.YtebheehjhnaklaaGreatDoor
open Go.RowKit
/-- a decimal rounded to p + 1 digits, and without zeros -/
def rfD (n : Bool) (c e : Int) (p : Nat) : Fd.D := if c = 0 then ⟨n, c, e⟩ else Fd.normal2 (Fd.roundedS ⟨n, c, e⟩ (Fd.size ⟨n, c, e⟩ - ((p : Int) + 1)))
structure RfF (n : Bool) (c e : Int) (p : Nat) (q : Nat) : Prop where
  c0 : 0 ≤ (rfD n c e p).c
  c9 : (rfD n c e p).c ≤ 999999999
  e0 : -24 ≤ (rfD n c e p).e
  e9 : (rfD n c e p).e ≤ 24
  eq : (rfD n c e p).e + q ≤ 40
  a : fxA (rfD n c e p).c (rfD n c e p).e q = fxA c e q
  b : fxB (rfD n c e p).c (rfD n c e p).e q = fxB c e q
theorem rf_facts {n : Bool} {c e : Int} {p q : Nat} (hv : Fd.vld ⟨n, c, e⟩ = true) (hp : p ≤ 8) (hq : (p : Int) - rlI n c e (p + 1) = q) (hq12 : q ≤ 12) : RfF n c e p q := by
  obtain ⟨b0, b1, b2, b3⟩ := vld_b hv
  by_cases hc : c = 0
  · have e1 : rfD n c e p = ⟨n, c, e⟩ := if_pos hc
    exact ⟨by rw [e1]; exact b0, by rw [e1]; exact b1, by rw [e1]; show -24 ≤ e; omega, by rw [e1]; show e ≤ 24; omega, by rw [e1]; show e + (q : Int) ≤ 40; omega, by rw [e1], by rw [e1]⟩
  · have e1 : rfD n c e p = Fd.normal2 (Fd.roundedS ⟨n, c, e⟩ (Fd.size ⟨n, c, e⟩ - ((p : Int) + 1))) := if_neg hc
    have hs := rl_show (n := n) (c := c) (e := e) (g := (p : Int) + 1) (by omega) b1 (by omega) (by omega)
    have hb := rl_bd (g := (p : Int) + 1) hv (by omega) (by omega)
    rw [← e1] at hs
    obtain ⟨r, hr⟩ : ∃ r, rfD n c e p = r := ⟨_, rfl⟩
    rw [hr] at hs
    have hre := hs.reb
    have hpw := hs.pws
    have hrd := hs.rd
    have hrc := hs.rc
    have hd1 := Fd.dc_one hrc
    have hfx : fxD r.c r.e q = fxD c e q := by
      rw [hs.fx e q (by omega)]
      have hC : fxC r.c r.e q = r.c.toNat := by rw [fxC_drop r.c r.e q _ rfl, if_pos (by omega)]
      unfold fxD gL
      rw [hC, if_neg (by omega)]
      congr 2
      omega
    have hL : fxL r.c r.e q = fxL c e q := by unfold fxL; rw [hfx]
    exact ⟨by rw [hr]; omega, by rw [hr]; exact hs.rb, by rw [hr]; omega, by rw [hr]; omega, by rw [hr]; omega, by rw [hr]; unfold fxA; rw [hL], by rw [hr]; unfold fxB; rw [hL]⟩
set_option maxRecDepth 100000 in
set_option maxHeartbeats 8000000 in
theorem roundedForS_any (n : Bool) (c e : Int) (p : Nat) (w : World) (hv : Fd.vld ⟨n, c, e⟩ = true) (hp : p ≤ 8) :
    Calls Tryz.prog 112 #[.agg #[.bool n, .int .i64 c, .int .i64 e], .int .i64 ((p : Int) + 1)] w fun r w' => r = .returned (.agg #[.bool (rfD n c e p).n, .int .i64 (rfD n c e p).c, .int .i64 (rfD n c e p).e]) ∧ Below w.heap.size w w' := by
  obtain ⟨b0, b1, b2, b3⟩ := vld_b hv
  have zb := C3.up (C3.new w (.bool n) (.int .i64 c) (.int .i64 e) 24) (.cells #[.bool false, .int .i64 0, .int .i64 0] 24)
  have zc : C3 ((w.alloc (.cells #[.bool n, .int .i64 c, .int .i64 e] 24)).alloc (.cells #[.bool false, .int .i64 0, .int .i64 0] 24)) (w.heap.size + 1) (.bool false) (.int .i64 0) (.int .i64 0) := by
    have h := C3.new (w.alloc (.cells #[.bool n, .int .i64 c, .int .i64 e] 24)) (.bool false) (.int .i64 0) (.int .i64 0) 24
    rw [show (w.alloc (.cells #[.bool n, .int .i64 c, .int .i64 e] 24)).heap.size = w.heap.size + 1 by simp] at h
    exact h
  have hB : Below w.heap.size w ((w.alloc (.cells #[.bool n, .int .i64 c, .int .i64 e] 24)).alloc (.cells #[.bool false, .int .i64 0, .int .i64 0] 24)) := (Below.alloc (Below.refl _ _) (Nat.le_refl _) _).alloc (by simp) _
  have zz := zb
  obtain ⟨x0, x1, x2, x3, x4, x5, x6⟩ := zz
  have zz := zc
  obtain ⟨x0, x1, x2, x3, x4, x5, x6⟩ := zz
  by_cases hc : c = 0
  · rw [show rfD n c e p = ⟨n, c, e⟩ from if_pos hc]
    subst hc
    clear hv
    go_enter Tryz.func112, Tryz.ntmps112
    go_wp2
    exact bodyPost_ret (v := .agg #[.bool n, .int .i64 0, .int .i64 e]) (by simp [results, Tryz.results112, go_sem, *]) rfl ⟨rfl, (by repeat (first | with_reducible exact Below.refl _ _ | with_reducible assumption | with_reducible refine Below.setCell ?_ (by first | omega | (simp; done) | (simp <;> omega)) _ | with_reducible refine below_drewN ?_ _ | with_reducible refine Below.drew ?_ | with_reducible refine Below.alloc ?_ (by first | omega | (simp; done) | (simp <;> omega)) _))⟩
  · have hc0 : (c == 0) = false := by simpa using hc
    have kr := fun W => roundedToS_any n c e ((p : Int) + 1) W b0 b1 b2 b3 (by omega) (by omega)
    rw [show rfD n c e p = Fd.normal2 (Fd.roundedS ⟨n, c, e⟩ (Fd.size ⟨n, c, e⟩ - ((p : Int) + 1))) from if_neg hc]
    generalize (Fd.normal2 (Fd.roundedS ⟨n, c, e⟩ (Fd.size ⟨n, c, e⟩ - ((p : Int) + 1)))).n = n2 at *
    generalize (Fd.normal2 (Fd.roundedS ⟨n, c, e⟩ (Fd.size ⟨n, c, e⟩ - ((p : Int) + 1)))).c = c2 at *
    generalize (Fd.normal2 (Fd.roundedS ⟨n, c, e⟩ (Fd.size ⟨n, c, e⟩ - ((p : Int) + 1)))).e = e2 at *
    have KR := Lib.hid kr
    clear kr
    clear hv hc
    go_enter Tryz.func112, Tryz.ntmps112
    go_wp2_with ((go_at_call 97; (with_reducible refine Calls.mono (KR.out _) ?_); rintro r w1 ⟨rfl, hb⟩; replace hB := hB.trans (hb.mono hB.size); have hz := hB.size; replace zb := C3.carry zb hb; have zz := zb; obtain ⟨x0, x1, x2, x3, x4, x5, x6⟩ := zz; replace zc := C3.carry zc hb; have zz := zc; obtain ⟨x0, x1, x2, x3, x4, x5, x6⟩ := zz))
    exact bodyPost_ret (v := .agg #[.bool n2, .int .i64 c2, .int .i64 e2]) (by simp [results, Tryz.results112, go_sem, *]) rfl ⟨rfl, (by repeat (first | with_reducible exact Below.refl _ _ | with_reducible assumption | with_reducible refine Below.setCell ?_ (by first | omega | (simp; done) | (simp <;> omega)) _ | with_reducible refine below_drewN ?_ _ | with_reducible refine Below.drew ?_ | with_reducible refine Below.alloc ?_ (by first | omega | (simp; done) | (simp <;> omega)) _))⟩
set_option maxRecDepth 100000 in
set_option maxHeartbeats 8000000 in
theorem generalPartsS_any (n : Bool) (c e : Int) (p : Nat) (w : World) (hv : Fd.vld ⟨n, c, e⟩ = true) (hp : p ≤ 8) :
    Calls Tryz.prog 65 #[.agg #[.bool n, .int .i64 c, .int .i64 e], .int .i64 ((p : Int) + 1), .bool false, .string ⟨#[101]⟩] w fun r w' => r = .returned (.tuple #[.string ⟨(gnA n c e p).toArray⟩, .string ⟨(trR 48 (gnB n c e p)).toArray⟩, .string ⟨(gnT n c e p).toArray⟩]) ∧ Below w.heap.size w w' := by
  obtain ⟨b0, b1, b2, b3⟩ := vld_b hv
  have hb := rl_bd (g := (p : Int) + 1) hv (by omega) (by omega)
  have hl := ex_len hv hp
  have kx := fun W => expPartsS_any n c e p W hv hp
  have hmx : max (1 : Int) ((p : Int) + 1) = (p : Int) + 1 := by omega
  have g1 : (p : Int) + 1 - 1 = p := by omega
  have zb := C3.new w (.bool n) (.int .i64 c) (.int .i64 e) 24
  have hB : Below w.heap.size w (w.alloc (.cells #[.bool n, .int .i64 c, .int .i64 e] 24)) := Below.alloc (Below.refl _ _) (Nat.le_refl _) _
  have zz := zb
  obtain ⟨x0, x1, x2, x3, x4, x5, x6⟩ := zz
  cases hS : sciB (rlI n c e (p + 1)) p
  · have hS' := hS
    simp only [sciB, Bool.or_eq_false_iff, decide_eq_false_iff_not] at hS'
    rw [show gnA n c e p = fxA c e (p - rlI n c e (p + 1)).toNat by unfold gnA; rw [hS]; rfl, show gnB n c e p = fxB c e (p - rlI n c e (p + 1)).toNat by unfold gnB; rw [hS]; rfl, show gnT n c e p = [] by unfold gnT; rw [hS]; rfl]
    obtain ⟨q, hq⟩ : ∃ q : Nat, (p : Int) - rlI n c e (p + 1) = q := ⟨(p - rlI n c e (p + 1)).toNat, by omega⟩
    rw [hq, show ((q : Nat) : Int).toNat = q from rfl]
    obtain ⟨r1, r2, r3, r4, r5, r6, r7⟩ := rf_facts hv hp hq (by omega)
    have F := fx_facts n (c := c) (e := e) (p := q) b0 b1 (by omega) (by omega) (by omega) (by omega)
    have hlq := fxAB_len F.cb (by omega) (by omega)
    have kf := fun W => roundedForS_any n c e p W hv hp
    have kp := fun W => fixedPartsS_any (rfD n c e p).n (rfD n c e p).c (rfD n c e p).e q W r1 r2 r3 r4 r5 (by omega)
    rw [r6, r7] at kp
    have kt := fun W => mBn (trimmedS_any ⟨(fxB c e q).toArray⟩ (by show (fxB c e q).length ≤ _; omega) W)
    rw [show trRB 48 ⟨(fxB c e q).toArray⟩ = ⟨(trR 48 (fxB c e q)).toArray⟩ from rfl] at kt
    clear r1 r2 r3 r4 r5 r6 r7 F hlq hl
    generalize trR 48 (fxB c e q) = B2 at *
    generalize fxA c e q = A at *
    generalize fxB c e q = B at *
    generalize fxA c (e - rlI n c e (p + 1)) p = A0 at *
    generalize fxB c (e - rlI n c e (p + 1)) p = B0 at *
    generalize (rfD n c e p).n = n2 at *
    generalize (rfD n c e p).c = c2 at *
    generalize (rfD n c e p).e = e2 at *
    generalize rlI n c e (p + 1) = pw at *
    obtain ⟨i1, i2⟩ := hS'
    have i3 : ¬ (p : Int) + 1 ≤ pw := i2
    have wq : IntKind.i64.wrap (q : Int) = q := IntWalk.i64_in _ (by omega)
    have KX := Lib.hid kx; have KF := Lib.hid kf; have KP := Lib.hid kp; have KT := Lib.hid kt
    clear kx kf kp kt
    clear hv hS
    go_enter Tryz.func65, Tryz.ntmps65
    go_wp2_with (first | (go_at_call 49; (with_reducible refine Calls.mono (KX.out _) ?_); rintro r w1 ⟨rfl, hb⟩; replace hB := hB.trans (hb.mono hB.size); have hz := hB.size; replace zb := C3.carry zb hb; have zz := zb; obtain ⟨x0, x1, x2, x3, x4, x5, x6⟩ := zz) | (go_at_call 112; (with_reducible refine Calls.mono (KF.out _) ?_); rintro r w1 ⟨rfl, hb⟩; replace hB := hB.trans (hb.mono hB.size); have hz := hB.size; replace zb := C3.carry zb hb; have zz := zb; obtain ⟨x0, x1, x2, x3, x4, x5, x6⟩ := zz) | (go_at_call 111; (with_reducible refine Calls.mono (KP.out _) ?_); rintro r w1 ⟨rfl, hb⟩; replace hB := hB.trans (hb.mono hB.size); have hz := hB.size; replace zb := C3.carry zb hb; have zz := zb; obtain ⟨x0, x1, x2, x3, x4, x5, x6⟩ := zz) | (go_at_call 113; (with_reducible refine Calls.mono (KT.out _) ?_); rintro r w1 ⟨rfl, hb⟩; replace hB := hB.trans (hb.mono hB.size); have hz := hB.size; replace zb := C3.carry zb hb; have zz := zb; obtain ⟨x0, x1, x2, x3, x4, x5, x6⟩ := zz))
    exact bodyPost_ret (v := .tuple #[.string ⟨A.toArray⟩, .string ⟨B2.toArray⟩, .string ⟨#[]⟩]) (by simp [results, Tryz.results65, go_sem, *]) rfl ⟨rfl, hB⟩
  · have hS' := hS
    simp only [sciB, Bool.or_eq_true, decide_eq_true_eq] at hS'
    rw [show gnA n c e p = fxA c (e - rlI n c e (p + 1)) p by unfold gnA; rw [hS]; rfl, show gnB n c e p = fxB c (e - rlI n c e (p + 1)) p by unfold gnB; rw [hS]; rfl, show gnT n c e p = powL 101 (rlI n c e (p + 1)) by unfold gnT; rw [hS]; rfl]
    have kp := fun W => expTextS_any 101 (rlI n c e (p + 1)) (by omega) W
    have kt := fun W => mBn (trimmedS_any ⟨(fxB c (e - rlI n c e (p + 1)) p).toArray⟩ (by show (fxB c (e - rlI n c e (p + 1)) p).length ≤ _; omega) W)
    rw [show trRB 48 ⟨(fxB c (e - rlI n c e (p + 1)) p).toArray⟩ = ⟨(trR 48 (fxB c (e - rlI n c e (p + 1)) p)).toArray⟩ from rfl] at kt
    clear hl
    generalize trR 48 (fxB c (e - rlI n c e (p + 1)) p) = B2 at *
    generalize fxA c (e - rlI n c e (p + 1)) p = A at *
    generalize fxB c (e - rlI n c e (p + 1)) p = B at *
    generalize powL 101 (rlI n c e (p + 1)) = T at *
    generalize rlI n c e (p + 1) = pw at *
    have KX := Lib.hid kx; have KP := Lib.hid kp; have KT := Lib.hid kt
    clear kx kp kt
    clear hv hS
    by_cases i1 : pw < -4
    · go_enter Tryz.func65, Tryz.ntmps65
      go_wp2_with (first | (go_at_call 49; (with_reducible refine Calls.mono (KX.out _) ?_); rintro r w1 ⟨rfl, hb⟩; replace hB := hB.trans (hb.mono hB.size); have hz := hB.size; replace zb := C3.carry zb hb; have zz := zb; obtain ⟨x0, x1, x2, x3, x4, x5, x6⟩ := zz) | (go_at_call 51; (with_reducible refine Calls.mono (KP.out _) ?_); rintro r w1 ⟨rfl, hb⟩; replace hB := hB.trans (hb.mono hB.size); have hz := hB.size; replace zb := C3.carry zb hb; have zz := zb; obtain ⟨x0, x1, x2, x3, x4, x5, x6⟩ := zz) | (go_at_call 113; (with_reducible refine Calls.mono (KT.out _) ?_); rintro r w1 ⟨rfl, hb⟩; replace hB := hB.trans (hb.mono hB.size); have hz := hB.size; replace zb := C3.carry zb hb; have zz := zb; obtain ⟨x0, x1, x2, x3, x4, x5, x6⟩ := zz))
      exact bodyPost_ret (v := .tuple #[.string ⟨A.toArray⟩, .string ⟨B2.toArray⟩, .string ⟨T.toArray⟩]) (by simp [results, Tryz.results65, go_sem, *]) rfl ⟨rfl, hB⟩
    · have i2 : (p : Int) + 1 ≤ pw := by omega
      go_enter Tryz.func65, Tryz.ntmps65
      go_wp2_with (first | (go_at_call 49; (with_reducible refine Calls.mono (KX.out _) ?_); rintro r w1 ⟨rfl, hb⟩; replace hB := hB.trans (hb.mono hB.size); have hz := hB.size; replace zb := C3.carry zb hb; have zz := zb; obtain ⟨x0, x1, x2, x3, x4, x5, x6⟩ := zz) | (go_at_call 51; (with_reducible refine Calls.mono (KP.out _) ?_); rintro r w1 ⟨rfl, hb⟩; replace hB := hB.trans (hb.mono hB.size); have hz := hB.size; replace zb := C3.carry zb hb; have zz := zb; obtain ⟨x0, x1, x2, x3, x4, x5, x6⟩ := zz) | (go_at_call 113; (with_reducible refine Calls.mono (KT.out _) ?_); rintro r w1 ⟨rfl, hb⟩; replace hB := hB.trans (hb.mono hB.size); have hz := hB.size; replace zb := C3.carry zb hb; have zz := zb; obtain ⟨x0, x1, x2, x3, x4, x5, x6⟩ := zz))
      exact bodyPost_ret (v := .tuple #[.string ⟨A.toArray⟩, .string ⟨B2.toArray⟩, .string ⟨T.toArray⟩]) (by simp [results, Tryz.results65, go_sem, *]) rfl ⟨rfl, hB⟩
end Go.Proofs.YtebheehjhnaklaaGreatDoor
namespace Go.Proofs.YtebheehjhnaklaaGreatDoor
open Go.RowKit
theorem gn_len {n : Bool} {c e : Int} {p : Nat} (hv : Fd.vld ⟨n, c, e⟩ = true) (hp : p ≤ 8) : (gnA n c e p).length ≤ 70 ∧ (gnB n c e p).length ≤ 70 ∧ (gnT n c e p).length ≤ 5 := by
  obtain ⟨b0, b1, b2, b3⟩ := vld_b hv
  have hb := rl_bd (g := (p : Int) + 1) hv (by omega) (by omega)
  cases hS : sciB (rlI n c e (p + 1)) p
  · have hS' := hS
    simp only [sciB, Bool.or_eq_false_iff, decide_eq_false_iff_not] at hS'
    unfold gnA gnB gnT
    rw [hS]
    have F := fx_facts n (c := c) (e := e) (p := ((p : Int) - rlI n c e (p + 1)).toNat) b0 b1 (by omega) (by omega) (by omega) (by omega)
    have := fxAB_len F.cb (by omega) (by omega)
    exact ⟨this.1, this.2, by simp⟩
  · unfold gnA gnB gnT
    rw [hS]
    have := ex_len hv hp
    exact ⟨this.1, this.2, powL_len (by omega)⟩
/-- the text of an amount with some digits -/
def gtL (n : Bool) (c e : Int) (p : Nat) : List UInt8 := gnA n c e p ++ restL (trR 48 (gnB n c e p)) (gnT n c e p) false
def genW (n : Bool) (c e g : Int) : ByteArray := if Fd.vld ⟨n, c, e⟩ && inr g 1 9 then ⟨(gtL n c e (g - 1).toNat).toArray⟩ else ⟨#[]⟩
set_option maxRecDepth 100000 in
set_option maxHeartbeats 4000000 in
theorem GeneralText_any (n : Bool) (c e p : Int) (w : World) (hT : PT w) :
    Calls Tryz.prog 17 #[.agg #[.bool n, .int .i64 c, .int .i64 e], .int .i64 p] w fun r w' => r = .returned (.string (genW n c e p)) ∧ Below w.heap.size w w' := by
  have kv := fun W => ValidDec_any n c e W
  have kw := fun W => mBn (within_any p 1 9 W)
  have zb := C3.new w (.bool n) (.int .i64 c) (.int .i64 e) 24
  have hB : Below w.heap.size w (w.alloc (.cells #[.bool n, .int .i64 c, .int .i64 e] 24)) := Below.alloc (Below.refl _ _) (Nat.le_refl _) _
  have zz := zb
  obtain ⟨x0, x1, x2, x3, x4, x5, x6⟩ := zz
  cases hv : Fd.vld ⟨n, c, e⟩
  · rw [show genW n c e p = ⟨#[]⟩ by unfold genW; rw [hv]; rfl]
    rw [hv] at kv
    have KV := Lib.hid kv; have KW := Lib.hid kw
    clear kv kw
    clear hT hv
    go_enter Tryz.func17, Tryz.ntmps17
    go_wp2_with (first | (go_at_call 43; (with_reducible refine Calls.mono (KV.out _) ?_); rintro r w1 ⟨rfl, hb⟩; replace hB := hB.trans (hb.mono hB.size); have hz := hB.size; replace zb := C3.carry zb hb; have zz := zb; obtain ⟨x0, x1, x2, x3, x4, x5, x6⟩ := zz) | (go_at_call 44; (with_reducible refine Calls.mono (KW.out _) ?_); rintro r w1 ⟨rfl, hb⟩; replace hB := hB.trans (hb.mono hB.size); have hz := hB.size; replace zb := C3.carry zb hb; have zz := zb; obtain ⟨x0, x1, x2, x3, x4, x5, x6⟩ := zz))
    all_goals go_ret
    all_goals exact ⟨rfl, hB⟩
  · cases hp : inr p 1 9
    · rw [show genW n c e p = ⟨#[]⟩ by unfold genW; rw [hp, Bool.and_false]; rfl]
      rw [hv] at kv
      rw [hp] at kw
      have KV := Lib.hid kv; have KW := Lib.hid kw
      clear kv kw
      clear hT hv hp
      go_enter Tryz.func17, Tryz.ntmps17
      go_wp2_with (first | (go_at_call 43; (with_reducible refine Calls.mono (KV.out _) ?_); rintro r w1 ⟨rfl, hb⟩; replace hB := hB.trans (hb.mono hB.size); have hz := hB.size; replace zb := C3.carry zb hb; have zz := zb; obtain ⟨x0, x1, x2, x3, x4, x5, x6⟩ := zz) | (go_at_call 44; (with_reducible refine Calls.mono (KW.out _) ?_); rintro r w1 ⟨rfl, hb⟩; replace hB := hB.trans (hb.mono hB.size); have hz := hB.size; replace zb := C3.carry zb hb; have zz := zb; obtain ⟨x0, x1, x2, x3, x4, x5, x6⟩ := zz))
      all_goals go_ret
      all_goals exact ⟨rfl, hB⟩
    · rw [show genW n c e p = ⟨(gtL n c e (p - 1).toNat).toArray⟩ by unfold genW; rw [hv, hp]; rfl]
      have hpp : 1 ≤ p ∧ p ≤ 9 := by simpa [inr] using hp
      obtain ⟨m, hm⟩ : ∃ m : Nat, p = (m : Int) + 1 := ⟨(p - 1).toNat, by omega⟩
      subst hm
      rw [show ((m : Int) + 1 - 1).toNat = m by omega]
      have hl := gn_len (p := m) hv (by omega)
      have htl := trR_len 48 (gnB n c e m)
      have kx := fun W (h : PT W) => general_any n c e m W hv (by omega) h
      rw [hv] at kv
      rw [hp] at kw
      have km := fun W => trimmed_any (gnA n c e m) (gnB n c e m) (gnT n c e m) W (by omega)
      have kt := fun W => text_any (gnA n c e m) (trR 48 (gnB n c e m)) (gnT n c e m) W (by omega) (by omega) (by omega)
      rw [show gnA n c e m ++ restL (trR 48 (gnB n c e m)) (gnT n c e m) false = gtL n c e m from rfl] at kt
      generalize gtL n c e m = R at *
      generalize trR 48 (gnB n c e m) = B2 at *
      generalize gnA n c e m = A at *
      generalize gnB n c e m = B at *
      generalize gnT n c e m = T at *
      have KV := Lib.hid kv; have KW := Lib.hid kw; have KX := Lib.hid kx; have KM := Lib.hid km; have KT := Lib.hid kt
      clear kv kw kx km kt
      clear hl hv hp
      go_enter Tryz.func17, Tryz.ntmps17
      go_wp2_with (first | (go_at_call 43; (with_reducible refine Calls.mono (KV.out _) ?_); rintro r w1 ⟨rfl, hb⟩; replace hB := hB.trans (hb.mono hB.size); have hz := hB.size; replace zb := C3.carry zb hb; have zz := zb; obtain ⟨x0, x1, x2, x3, x4, x5, x6⟩ := zz) | (go_at_call 44; (with_reducible refine Calls.mono (KW.out _) ?_); rintro r w1 ⟨rfl, hb⟩; replace hB := hB.trans (hb.mono hB.size); have hz := hB.size; replace zb := C3.carry zb hb; have zz := zb; obtain ⟨x0, x1, x2, x3, x4, x5, x6⟩ := zz) | (go_at_call 63; (with_reducible refine Calls.mono (KX.out _ (hT.on hB)) ?_); rintro r w1 ⟨rfl, hb⟩; replace hB := hB.trans (hb.mono hB.size); have hz := hB.size; replace zb := C3.carry zb hb; have zz := zb; obtain ⟨x0, x1, x2, x3, x4, x5, x6⟩ := zz) | (go_at_call 64; (with_reducible refine Calls.mono (KM.out _) ?_); rintro r w1 ⟨rfl, hb⟩; replace hB := hB.trans (hb.mono hB.size); have hz := hB.size; replace zb := C3.carry zb hb; have zz := zb; obtain ⟨x0, x1, x2, x3, x4, x5, x6⟩ := zz) | (go_at_call 46; (with_reducible refine Calls.mono (KT.out _) ?_); rintro r w1 ⟨rfl, hb⟩; replace hB := hB.trans (hb.mono hB.size); have hz := hB.size; replace zb := C3.carry zb hb; have zz := zb; obtain ⟨x0, x1, x2, x3, x4, x5, x6⟩ := zz))
      all_goals go_ret
      all_goals exact ⟨rfl, hB⟩
set_option maxRecDepth 100000 in
set_option maxHeartbeats 4000000 in
theorem GeneralTextS_any (n : Bool) (c e p : Int) (w : World) :
    Calls Tryz.prog 18 #[.agg #[.bool n, .int .i64 c, .int .i64 e], .int .i64 p] w fun r w' => r = .returned (.string (genW n c e p)) ∧ Below w.heap.size w w' := by
  have kv := fun W => validS_any n c e W
  have kw := fun W => mBn (inRange_any p 1 9 W)
  have zb := C3.new w (.bool n) (.int .i64 c) (.int .i64 e) 24
  have hB : Below w.heap.size w (w.alloc (.cells #[.bool n, .int .i64 c, .int .i64 e] 24)) := Below.alloc (Below.refl _ _) (Nat.le_refl _) _
  have zz := zb
  obtain ⟨x0, x1, x2, x3, x4, x5, x6⟩ := zz
  cases hv : Fd.vld ⟨n, c, e⟩
  · rw [show genW n c e p = ⟨#[]⟩ by unfold genW; rw [hv]; rfl]
    rw [hv] at kv
    have KV := Lib.hid kv; have KW := Lib.hid kw
    clear kv kw
    clear hv
    go_enter Tryz.func18, Tryz.ntmps18
    go_wp2_with (first | (go_at_call 47; (with_reducible refine Calls.mono (KV.out _) ?_); rintro r w1 ⟨rfl, hb⟩; replace hB := hB.trans (hb.mono hB.size); have hz := hB.size; replace zb := C3.carry zb hb; have zz := zb; obtain ⟨x0, x1, x2, x3, x4, x5, x6⟩ := zz) | (go_at_call 48; (with_reducible refine Calls.mono (KW.out _) ?_); rintro r w1 ⟨rfl, hb⟩; replace hB := hB.trans (hb.mono hB.size); have hz := hB.size; replace zb := C3.carry zb hb; have zz := zb; obtain ⟨x0, x1, x2, x3, x4, x5, x6⟩ := zz))
    all_goals go_ret
    all_goals exact ⟨rfl, hB⟩
  · cases hp : inr p 1 9
    · rw [show genW n c e p = ⟨#[]⟩ by unfold genW; rw [hp, Bool.and_false]; rfl]
      rw [hv] at kv
      have hp' : Fd.inr p 1 9 = false := hp
      rw [hp'] at kw
      have KV := Lib.hid kv; have KW := Lib.hid kw
      clear kv kw
      clear hv hp hp'
      go_enter Tryz.func18, Tryz.ntmps18
      go_wp2_with (first | (go_at_call 47; (with_reducible refine Calls.mono (KV.out _) ?_); rintro r w1 ⟨rfl, hb⟩; replace hB := hB.trans (hb.mono hB.size); have hz := hB.size; replace zb := C3.carry zb hb; have zz := zb; obtain ⟨x0, x1, x2, x3, x4, x5, x6⟩ := zz) | (go_at_call 48; (with_reducible refine Calls.mono (KW.out _) ?_); rintro r w1 ⟨rfl, hb⟩; replace hB := hB.trans (hb.mono hB.size); have hz := hB.size; replace zb := C3.carry zb hb; have zz := zb; obtain ⟨x0, x1, x2, x3, x4, x5, x6⟩ := zz))
      all_goals go_ret
      all_goals exact ⟨rfl, hB⟩
    · rw [show genW n c e p = ⟨(gtL n c e (p - 1).toNat).toArray⟩ by unfold genW; rw [hv, hp]; rfl]
      have hpp : 1 ≤ p ∧ p ≤ 9 := by simpa [inr] using hp
      have hp' : Fd.inr p 1 9 = true := hp
      obtain ⟨m, hm⟩ : ∃ m : Nat, p = (m : Int) + 1 := ⟨(p - 1).toNat, by omega⟩
      subst hm
      rw [show ((m : Int) + 1 - 1).toNat = m by omega]
      have hl := gn_len (p := m) hv (by omega)
      have htl := trR_len 48 (gnB n c e m)
      have kx := fun W => generalPartsS_any n c e m W hv (by omega)
      rw [hv] at kv
      rw [hp'] at kw
      have kt := fun W => mBn (pointedS_any (trR 48 (gnB n c e m)) false W (by omega))
      have hrl := rest_len (B := trR 48 (gnB n c e m)) (T := []) (alt := false) (by omega) (by simp)
      unfold gtL
      rw [rest_split]
      generalize restL (trR 48 (gnB n c e m)) [] false = Q at *
      generalize trR 48 (gnB n c e m) = B2 at *
      generalize gnA n c e m = A at *
      generalize gnT n c e m = T at *
      have hc1 := cat_lN A Q
      have hc2 := cat_lN (A ++ Q) T
      have q1 : ¬ (9223372036854775807 < A.length + Q.length) := by omega
      have q2 : ¬ (9223372036854775807 < A.length + Q.length + T.length) := by omega
      have KV := Lib.hid kv; have KW := Lib.hid kw; have KX := Lib.hid kx; have KT := Lib.hid kt
      clear kv kw kx kt
      clear hl hv hp hp'
      go_enter Tryz.func18, Tryz.ntmps18
      go_wp2_with (first | (go_at_call 47; (with_reducible refine Calls.mono (KV.out _) ?_); rintro r w1 ⟨rfl, hb⟩; replace hB := hB.trans (hb.mono hB.size); have hz := hB.size; replace zb := C3.carry zb hb; have zz := zb; obtain ⟨x0, x1, x2, x3, x4, x5, x6⟩ := zz) | (go_at_call 48; (with_reducible refine Calls.mono (KW.out _) ?_); rintro r w1 ⟨rfl, hb⟩; replace hB := hB.trans (hb.mono hB.size); have hz := hB.size; replace zb := C3.carry zb hb; have zz := zb; obtain ⟨x0, x1, x2, x3, x4, x5, x6⟩ := zz) | (go_at_call 65; (with_reducible refine Calls.mono (KX.out _) ?_); rintro r w1 ⟨rfl, hb⟩; replace hB := hB.trans (hb.mono hB.size); have hz := hB.size; replace zb := C3.carry zb hb; have zz := zb; obtain ⟨x0, x1, x2, x3, x4, x5, x6⟩ := zz) | (go_at_call 50; (with_reducible refine Calls.mono (KT.out _) ?_); rintro r w1 ⟨rfl, hb⟩; replace hB := hB.trans (hb.mono hB.size); have hz := hB.size; replace zb := C3.carry zb hb; have zz := zb; obtain ⟨x0, x1, x2, x3, x4, x5, x6⟩ := zz))
      all_goals go_ret
      all_goals exact ⟨ret_strN (by first | rfl | (rw [hc1, hc2]; simp; done) | (simp [cat_lN]; done)), hB⟩
end Go.Proofs.YtebheehjhnaklaaGreatDoor
