import Derived.Test.YtamlnbciejnbdaaDoorE10
namespace Go.Proofs.YtamlnbciejnbdaaDoor
open Go.RowKit
theorem trR_len (c : UInt8) (l : List UInt8) : (trR c l).length ≤ l.length := by
  have := trR_size c ⟨l.toArray⟩
  exact this
set_option maxRecDepth 100000 in
set_option maxHeartbeats 4000000 in
theorem trimmed_any (A B T : List UInt8) (w : World) (hBl : B.length ≤ 200) :
    Calls Tryd.prog 44 #[.agg #[.string ⟨A.toArray⟩, .string ⟨B.toArray⟩, .string ⟨T.toArray⟩]] w fun r w' => r = .returned (.agg #[.string ⟨A.toArray⟩, .string ⟨(trR 48 B).toArray⟩, .string ⟨T.toArray⟩]) ∧ Below w.heap.size w w' := by
  have kt := fun W => mBn (TrimRight_one ⟨B.toArray⟩ 48 (by decide) (by show B.length ≤ _; omega) W)
  rw [show trRB 48 ⟨B.toArray⟩ = ⟨(trR 48 B).toArray⟩ from rfl] at kt
  generalize trR 48 B = B2 at *
  have zb := C3.up (C3.new w (.string ⟨A.toArray⟩) (.string ⟨B.toArray⟩) (.string ⟨T.toArray⟩) 53) (.cells #[.string ⟨#[]⟩, .string ⟨#[]⟩, .string ⟨#[]⟩] 53)
  have zc : C3 ((w.alloc (.cells #[.string ⟨A.toArray⟩, .string ⟨B.toArray⟩, .string ⟨T.toArray⟩] 53)).alloc (.cells #[.string ⟨#[]⟩, .string ⟨#[]⟩, .string ⟨#[]⟩] 53)) (w.heap.size + 1) (.string ⟨#[]⟩) (.string ⟨#[]⟩) (.string ⟨#[]⟩) := by
    have h := C3.new (w.alloc (.cells #[.string ⟨A.toArray⟩, .string ⟨B.toArray⟩, .string ⟨T.toArray⟩] 53)) (.string ⟨#[]⟩) (.string ⟨#[]⟩) (.string ⟨#[]⟩) 53
    rw [show (w.alloc (.cells #[.string ⟨A.toArray⟩, .string ⟨B.toArray⟩, .string ⟨T.toArray⟩] 53)).heap.size = w.heap.size + 1 by simp] at h
    exact h
  have hB : Below w.heap.size w ((w.alloc (.cells #[.string ⟨A.toArray⟩, .string ⟨B.toArray⟩, .string ⟨T.toArray⟩] 53)).alloc (.cells #[.string ⟨#[]⟩, .string ⟨#[]⟩, .string ⟨#[]⟩] 53)) := (Below.alloc (Below.refl _ _) (Nat.le_refl _) _).alloc (by simp) _
  have zz := zb
  obtain ⟨x0, x1, x2, x3, x4, x5, x6⟩ := zz
  have zz := zc
  obtain ⟨x0, x1, x2, x3, x4, x5, x6⟩ := zz
  have KT := Lib.hid kt
  clear kt
  go_enter Tryd.func44, Tryd.ntmps44
  go_wp2_with ((go_at_call 52; (with_reducible refine Calls.mono (KT.out _) ?_); rintro r w1 ⟨rfl, hb⟩; replace hB := hB.trans (hb.mono hB.size); have hz := hB.size; replace zb := C3.carry zb hb; have zz := zb; obtain ⟨x0, x1, x2, x3, x4, x5, x6⟩ := zz; replace zc := C3.carry zc hb; have zz := zc; obtain ⟨x0, x1, x2, x3, x4, x5, x6⟩ := zz))
  exact bodyPost_ret (v := .agg #[.string ⟨A.toArray⟩, .string ⟨B2.toArray⟩, .string ⟨T.toArray⟩]) (by simp [results, Tryd.results44, go_sem, *]) rfl ⟨rfl, (by repeat (first | with_reducible exact Below.refl _ _ | with_reducible assumption | with_reducible refine Below.setCell ?_ (by first | omega | (simp; done) | (simp <;> omega)) _ | with_reducible refine below_drewN ?_ _ | with_reducible refine Below.drew ?_ | with_reducible refine Below.alloc ?_ (by first | omega | (simp; done) | (simp <;> omega)) _))⟩
theorem beq_48 (a : UInt8) : ((a.toNat : Int) == 48) = decide (a = 48) := beq_u8 (a := a) (b := 48)
set_option maxRecDepth 100000 in
set_option maxHeartbeats 4000000 in
theorem trimmedS_any (s : ByteArray) (hs : s.size ≤ 1000) (w : World) :
    Calls Tryd.prog 78 #[.string s] w fun r w' => r = .returned (.string (trRB 48 s)) ∧ w = w' := by
  go_enter Tryd.func78, Tryd.ntmps78
  go_wp2
  go_loopg [0] s.size (fun g s0 wr => ∃ T : ByteArray, wr = w ∧ s0 = .string T ∧ T.size ≤ s.size ∧ Aside (trRB 48 T = trRB 48 s) ∧ Aside (g = T.size))
  case atStart => exact ⟨s, rfl, rfl, Nat.le_refl _, by show _ = _; rfl, by show _ = _; rfl⟩
  case round =>
    obtain ⟨T, rfl, rfl, hk, hv, hg⟩ := hrel
    have hg' := hg.out
    have hv' := hv.out
    clear hg hv
    by_cases h0 : T.size = 0
    · obtain rfl := sz0 h0
      rw [trRB_nil] at hv'
      have HV := Lib.hid hv'
      clear hv'
      go_wp2
      all_goals go_ret
      all_goals exact ⟨ret_str HV.out, rfl⟩
    · have hp : 0 < T.size := by omega
      have hne : T.toList.isEmpty = false := nonempty_list (by omega)
      have hq := beq_48 (T[T.size - 1])
      by_cases hc : T[T.size - 1] = 48
      · have hst := trR_step 48 hp hc
        rw [hv'] at hst
        rw [decide_eq_true hc] at hq
        have HV := Lib.hid hst
        clear hst hv' hc
        go_wp2
        go_roundg (T.size - 1)
        case measure => omega
        case rel => exact ⟨T.extract 0 (T.size - 1), rfl, rfl, by rw [ByteArray.size_extract]; omega, HV.out, by show _ = _; rw [ByteArray.size_extract]; omega⟩
      · have hst := trR_stop 48 hp hc
        rw [hv'] at hst
        rw [decide_eq_false hc] at hq
        have HV := Lib.hid hst
        clear hst hv' hc
        go_wp2
        all_goals go_ret
        all_goals exact ⟨ret_str HV.out.symm, rfl⟩
/-- are the powers of 10 told -/
def sciB (pw : Int) (p : Nat) : Bool := decide (pw < -4) || decide ((p : Int) + 1 ≤ pw)
def gnA (n : Bool) (c e : Int) (p : Nat) : List UInt8 := if sciB (rlI n c e (p + 1)) p then fxA c (e - rlI n c e (p + 1)) p else fxA c e (p - rlI n c e (p + 1)).toNat
def gnB (n : Bool) (c e : Int) (p : Nat) : List UInt8 := if sciB (rlI n c e (p + 1)) p then fxB c (e - rlI n c e (p + 1)) p else fxB c e (p - rlI n c e (p + 1)).toNat
def gnT (n : Bool) (c e : Int) (p : Nat) : List UInt8 := if sciB (rlI n c e (p + 1)) p then powL 101 (rlI n c e (p + 1)) else []
set_option maxRecDepth 100000 in
set_option maxHeartbeats 8000000 in
theorem general_any (n : Bool) (c e : Int) (p : Nat) (w : World) (hv : Fd.vld ⟨n, c, e⟩ = true) (hp : p ≤ 8) (hT : PT w) :
    Calls Tryd.prog 43 #[.agg #[.bool n, .int .i64 c, .int .i64 e], .int .i64 ((p : Int) + 1)] w fun r w' => r = .returned (.agg #[.string ⟨(gnA n c e p).toArray⟩, .string ⟨(gnB n c e p).toArray⟩, .string ⟨(gnT n c e p).toArray⟩]) ∧ Below w.heap.size w w' := by
  obtain ⟨b0, b1, b2, b3⟩ := vld_b hv
  have hb := rl_bd (g := (p : Int) + 1) hv (by omega) (by omega)
  have kr := fun W => roundedLead_any n c e ((p : Int) + 1) W hv (by omega) (by omega)
  have g1 : (p : Int) + 1 - 1 = p := by omega
  have wg : IntKind.i64.wrap (p : Int) = p := IntWalk.i64_in _ (by omega)
  cases hS : sciB (rlI n c e (p + 1)) p
  · have hS' := hS
    simp only [sciB, Bool.or_eq_false_iff, decide_eq_false_iff_not] at hS'
    rw [show gnA n c e p = fxA c e (p - rlI n c e (p + 1)).toNat by unfold gnA; rw [hS]; rfl, show gnB n c e p = fxB c e (p - rlI n c e (p + 1)).toNat by unfold gnB; rw [hS]; rfl, show gnT n c e p = [] by unfold gnT; rw [hS]; rfl]
    obtain ⟨q, hq⟩ : ∃ q : Nat, (p : Int) - rlI n c e (p + 1) = q := ⟨(p - rlI n c e (p + 1)).toNat, by omega⟩
    rw [hq, show ((q : Nat) : Int).toNat = q from rfl]
    have kx := fun W (h : PT W) => fixed_any n c e q W b0 b1 (by omega) (by omega) (by omega) (by omega) h
    generalize fxA c e q = A at *
    generalize fxB c e q = B at *
    generalize rlI n c e (p + 1) = pw at *
    obtain ⟨i1, i2⟩ := hS'
    have i3 : ¬ (p : Int) + 1 ≤ pw := i2
    have wq : IntKind.i64.wrap (q : Int) = q := IntWalk.i64_in _ (by omega)
    have zb := C3.up (C3.new w (.bool n) (.int .i64 c) (.int .i64 e) 31) (.cells #[.string ⟨#[]⟩, .string ⟨#[]⟩, .string ⟨#[]⟩] 53)
    have zc : C3 ((w.alloc (.cells #[.bool n, .int .i64 c, .int .i64 e] 31)).alloc (.cells #[.string ⟨#[]⟩, .string ⟨#[]⟩, .string ⟨#[]⟩] 53)) (w.heap.size + 1) (.string ⟨#[]⟩) (.string ⟨#[]⟩) (.string ⟨#[]⟩) := by
      have h := C3.new (w.alloc (.cells #[.bool n, .int .i64 c, .int .i64 e] 31)) (.string ⟨#[]⟩) (.string ⟨#[]⟩) (.string ⟨#[]⟩) 53
      rw [show (w.alloc (.cells #[.bool n, .int .i64 c, .int .i64 e] 31)).heap.size = w.heap.size + 1 by simp] at h
      exact h
    have hB : Below w.heap.size w ((w.alloc (.cells #[.bool n, .int .i64 c, .int .i64 e] 31)).alloc (.cells #[.string ⟨#[]⟩, .string ⟨#[]⟩, .string ⟨#[]⟩] 53)) := (Below.alloc (Below.refl _ _) (Nat.le_refl _) _).alloc (by simp) _
    have zz := zb
    obtain ⟨x0, x1, x2, x3, x4, x5, x6⟩ := zz
    have zz := zc
    obtain ⟨x0, x1, x2, x3, x4, x5, x6⟩ := zz
    have KR := Lib.hid kr; have KX := Lib.hid kx
    clear kr kx
    clear hv hS
    go_enter Tryd.func43, Tryd.ntmps43
    go_wp2_with (first | (go_at_call 75; (with_reducible refine Calls.mono (KR.out _) ?_); rintro r w1 ⟨rfl, hb⟩; replace hB := hB.trans (hb.mono hB.size); have hz := hB.size; replace zb := C3.carry zb hb; have zz := zb; obtain ⟨x0, x1, x2, x3, x4, x5, x6⟩ := zz; replace zc := C3.carry zc hb; have zz := zc; obtain ⟨x0, x1, x2, x3, x4, x5, x6⟩ := zz) | (go_at_call 37; (with_reducible refine Calls.mono (KX.out _ (hT.on hB)) ?_); rintro r w1 ⟨rfl, hb⟩; replace hB := hB.trans (hb.mono hB.size); have hz := hB.size; replace zb := C3.carry zb hb; have zz := zb; obtain ⟨x0, x1, x2, x3, x4, x5, x6⟩ := zz; replace zc := C3.carry zc hb; have zz := zc; obtain ⟨x0, x1, x2, x3, x4, x5, x6⟩ := zz))
    exact bodyPost_ret (v := .agg #[.string ⟨A.toArray⟩, .string ⟨B.toArray⟩, .string ⟨#[]⟩]) (by simp [results, Tryd.results43, go_sem, *]) rfl ⟨rfl, (by repeat (first | with_reducible exact Below.refl _ _ | with_reducible assumption | with_reducible refine Below.setCell ?_ (by first | omega | (simp; done) | (simp <;> omega)) _ | with_reducible refine below_drewN ?_ _ | with_reducible refine Below.drew ?_ | with_reducible refine Below.alloc ?_ (by first | omega | (simp; done) | (simp <;> omega)) _))⟩
  · have hS' := hS
    simp only [sciB, Bool.or_eq_true, decide_eq_true_eq] at hS'
    rw [show gnA n c e p = fxA c (e - rlI n c e (p + 1)) p by unfold gnA; rw [hS]; rfl, show gnB n c e p = fxB c (e - rlI n c e (p + 1)) p by unfold gnB; rw [hS]; rfl, show gnT n c e p = powL 101 (rlI n c e (p + 1)) by unfold gnT; rw [hS]; rfl]
    have kx := fun W (h : PT W) => scientific_any n c e p W hv hp h
    generalize fxA c (e - rlI n c e (p + 1)) p = A at *
    generalize fxB c (e - rlI n c e (p + 1)) p = B at *
    generalize powL 101 (rlI n c e (p + 1)) = T at *
    generalize rlI n c e (p + 1) = pw at *
    have zb := C3.up (C3.new w (.bool n) (.int .i64 c) (.int .i64 e) 31) (.cells #[.string ⟨#[]⟩, .string ⟨#[]⟩, .string ⟨#[]⟩] 53)
    have zc : C3 ((w.alloc (.cells #[.bool n, .int .i64 c, .int .i64 e] 31)).alloc (.cells #[.string ⟨#[]⟩, .string ⟨#[]⟩, .string ⟨#[]⟩] 53)) (w.heap.size + 1) (.string ⟨#[]⟩) (.string ⟨#[]⟩) (.string ⟨#[]⟩) := by
      have h := C3.new (w.alloc (.cells #[.bool n, .int .i64 c, .int .i64 e] 31)) (.string ⟨#[]⟩) (.string ⟨#[]⟩) (.string ⟨#[]⟩) 53
      rw [show (w.alloc (.cells #[.bool n, .int .i64 c, .int .i64 e] 31)).heap.size = w.heap.size + 1 by simp] at h
      exact h
    have hB : Below w.heap.size w ((w.alloc (.cells #[.bool n, .int .i64 c, .int .i64 e] 31)).alloc (.cells #[.string ⟨#[]⟩, .string ⟨#[]⟩, .string ⟨#[]⟩] 53)) := (Below.alloc (Below.refl _ _) (Nat.le_refl _) _).alloc (by simp) _
    have zz := zb
    obtain ⟨x0, x1, x2, x3, x4, x5, x6⟩ := zz
    have zz := zc
    obtain ⟨x0, x1, x2, x3, x4, x5, x6⟩ := zz
    have KR := Lib.hid kr; have KX := Lib.hid kx
    clear kr kx
    clear hv hS
    by_cases i1 : pw < -4
    · go_enter Tryd.func43, Tryd.ntmps43
      go_wp2_with (first | (go_at_call 75; (with_reducible refine Calls.mono (KR.out _) ?_); rintro r w1 ⟨rfl, hb⟩; replace hB := hB.trans (hb.mono hB.size); have hz := hB.size; replace zb := C3.carry zb hb; have zz := zb; obtain ⟨x0, x1, x2, x3, x4, x5, x6⟩ := zz; replace zc := C3.carry zc hb; have zz := zc; obtain ⟨x0, x1, x2, x3, x4, x5, x6⟩ := zz) | (go_at_call 41; (with_reducible refine Calls.mono (KX.out _ (hT.on hB)) ?_); rintro r w1 ⟨rfl, hb⟩; replace hB := hB.trans (hb.mono hB.size); have hz := hB.size; replace zb := C3.carry zb hb; have zz := zb; obtain ⟨x0, x1, x2, x3, x4, x5, x6⟩ := zz; replace zc := C3.carry zc hb; have zz := zc; obtain ⟨x0, x1, x2, x3, x4, x5, x6⟩ := zz))
      exact bodyPost_ret (v := .agg #[.string ⟨A.toArray⟩, .string ⟨B.toArray⟩, .string ⟨T.toArray⟩]) (by simp [results, Tryd.results43, go_sem, *]) rfl ⟨rfl, (by repeat (first | with_reducible exact Below.refl _ _ | with_reducible assumption | with_reducible refine Below.setCell ?_ (by first | omega | (simp; done) | (simp <;> omega)) _ | with_reducible refine below_drewN ?_ _ | with_reducible refine Below.drew ?_ | with_reducible refine Below.alloc ?_ (by first | omega | (simp; done) | (simp <;> omega)) _))⟩
    · have i2 : (p : Int) + 1 ≤ pw := by omega
      go_enter Tryd.func43, Tryd.ntmps43
      go_wp2_with (first | (go_at_call 75; (with_reducible refine Calls.mono (KR.out _) ?_); rintro r w1 ⟨rfl, hb⟩; replace hB := hB.trans (hb.mono hB.size); have hz := hB.size; replace zb := C3.carry zb hb; have zz := zb; obtain ⟨x0, x1, x2, x3, x4, x5, x6⟩ := zz; replace zc := C3.carry zc hb; have zz := zc; obtain ⟨x0, x1, x2, x3, x4, x5, x6⟩ := zz) | (go_at_call 41; (with_reducible refine Calls.mono (KX.out _ (hT.on hB)) ?_); rintro r w1 ⟨rfl, hb⟩; replace hB := hB.trans (hb.mono hB.size); have hz := hB.size; replace zb := C3.carry zb hb; have zz := zb; obtain ⟨x0, x1, x2, x3, x4, x5, x6⟩ := zz; replace zc := C3.carry zc hb; have zz := zc; obtain ⟨x0, x1, x2, x3, x4, x5, x6⟩ := zz))
      exact bodyPost_ret (v := .agg #[.string ⟨A.toArray⟩, .string ⟨B.toArray⟩, .string ⟨T.toArray⟩]) (by simp [results, Tryd.results43, go_sem, *]) rfl ⟨rfl, (by repeat (first | with_reducible exact Below.refl _ _ | with_reducible assumption | with_reducible refine Below.setCell ?_ (by first | omega | (simp; done) | (simp <;> omega)) _ | with_reducible refine below_drewN ?_ _ | with_reducible refine Below.drew ?_ | with_reducible refine Below.alloc ?_ (by first | omega | (simp; done) | (simp <;> omega)) _))⟩
end Go.Proofs.YtamlnbciejnbdaaDoor
