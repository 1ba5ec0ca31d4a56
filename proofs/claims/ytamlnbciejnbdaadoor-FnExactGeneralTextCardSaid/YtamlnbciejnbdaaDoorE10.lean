import Derived.Test.YtamlnbciejnbdaaDoorE9
namespace Go.Proofs.YtamlnbciejnbdaaDoor
open Go.RowKit
theorem rest_split (B T : List UInt8) : restL B T false = restL B [] false ++ T := by
  unfold restL
  by_cases h : B = []
  · rw [if_pos ⟨h, rfl⟩, if_pos ⟨h, rfl⟩]; rfl
  · rw [if_neg (fun q => h q.1), if_neg (fun q => h q.1), List.append_nil]; rfl
theorem rest_len {B T : List UInt8} {alt : Bool} (h1 : B.length ≤ 100) (h2 : T.length ≤ 100) : (restL B T alt).length ≤ 201 := by
  unfold restL
  split
  · omega
  · simp only [List.length_cons, List.length_append]; omega
theorem ex_len {n : Bool} {c e : Int} {p : Nat} (hv : Fd.vld ⟨n, c, e⟩ = true) (hp : p ≤ 8) : (fxA c (e - rlI n c e (p + 1)) p).length ≤ 70 ∧ (fxB c (e - rlI n c e (p + 1)) p).length ≤ 70 := by
  obtain ⟨b0, b1, b2, b3⟩ := vld_b hv
  have hb := rl_bd (g := (p : Int) + 1) hv (by omega) (by omega)
  have F := fx_facts n (c := c) (e := e - rlI n c e (p + 1)) (p := p) b0 b1 (by omega) (by omega) (by omega) (by omega)
  exact fxAB_len F.cb (by omega) (by omega)
/-- the text of an amount with a power of 10 -/
def etL (n : Bool) (c e : Int) (p : Nat) : List UInt8 := fxA c (e - rlI n c e (p + 1)) p ++ restL (fxB c (e - rlI n c e (p + 1)) p) (powL 101 (rlI n c e (p + 1))) false
def expW (n : Bool) (c e p : Int) : ByteArray := if Fd.vld ⟨n, c, e⟩ && inr p 0 8 then ⟨(etL n c e p.toNat).toArray⟩ else ⟨#[]⟩
set_option maxRecDepth 100000 in
set_option maxHeartbeats 4000000 in
theorem ExpText_any (n : Bool) (c e p : Int) (w : World) (hT : PT w) :
    Calls Tryd.prog 16 #[.agg #[.bool n, .int .i64 c, .int .i64 e], .int .i64 p] w fun r w' => r = .returned (.string (expW n c e p)) ∧ Below w.heap.size w w' := by
  have kv := fun W => ValidDec_any n c e W
  have kw := fun W => mBn (within_any p 0 8 W)
  have zb := C3.new w (.bool n) (.int .i64 c) (.int .i64 e) 31
  have hB : Below w.heap.size w (w.alloc (.cells #[.bool n, .int .i64 c, .int .i64 e] 31)) := Below.alloc (Below.refl _ _) (Nat.le_refl _) _
  have zz := zb
  obtain ⟨x0, x1, x2, x3, x4, x5, x6⟩ := zz
  cases hv : Fd.vld ⟨n, c, e⟩
  · rw [show expW n c e p = ⟨#[]⟩ by unfold expW; rw [hv]; rfl]
    rw [hv] at kv
    have KV := Lib.hid kv; have KW := Lib.hid kw
    clear kv kw
    clear hT hv
    go_enter Tryd.func16, Tryd.ntmps16
    go_wp2_with (first | (go_at_call 35; (with_reducible refine Calls.mono (KV.out _) ?_); rintro r w1 ⟨rfl, hb⟩; replace hB := hB.trans (hb.mono hB.size); have hz := hB.size; replace zb := C3.carry zb hb; have zz := zb; obtain ⟨x0, x1, x2, x3, x4, x5, x6⟩ := zz) | (go_at_call 36; (with_reducible refine Calls.mono (KW.out _) ?_); rintro r w1 ⟨rfl, hb⟩; replace hB := hB.trans (hb.mono hB.size); have hz := hB.size; replace zb := C3.carry zb hb; have zz := zb; obtain ⟨x0, x1, x2, x3, x4, x5, x6⟩ := zz))
    all_goals go_ret
    all_goals exact ⟨rfl, hB⟩
  · cases hp : inr p 0 8
    · rw [show expW n c e p = ⟨#[]⟩ by unfold expW; rw [hp, Bool.and_false]; rfl]
      rw [hv] at kv
      rw [hp] at kw
      have KV := Lib.hid kv; have KW := Lib.hid kw
      clear kv kw
      clear hT hv hp
      go_enter Tryd.func16, Tryd.ntmps16
      go_wp2_with (first | (go_at_call 35; (with_reducible refine Calls.mono (KV.out _) ?_); rintro r w1 ⟨rfl, hb⟩; replace hB := hB.trans (hb.mono hB.size); have hz := hB.size; replace zb := C3.carry zb hb; have zz := zb; obtain ⟨x0, x1, x2, x3, x4, x5, x6⟩ := zz) | (go_at_call 36; (with_reducible refine Calls.mono (KW.out _) ?_); rintro r w1 ⟨rfl, hb⟩; replace hB := hB.trans (hb.mono hB.size); have hz := hB.size; replace zb := C3.carry zb hb; have zz := zb; obtain ⟨x0, x1, x2, x3, x4, x5, x6⟩ := zz))
      all_goals go_ret
      all_goals exact ⟨rfl, hB⟩
    · rw [show expW n c e p = ⟨(etL n c e p.toNat).toArray⟩ by unfold expW; rw [hv, hp]; rfl]
      have hpp : 0 ≤ p ∧ p ≤ 8 := by simpa [inr] using hp
      have kvt := hv
      obtain ⟨m, rfl⟩ := Int.eq_ofNat_of_zero_le hpp.1
      rw [show ((m : Nat) : Int).toNat = m from rfl]
      have hl := ex_len (p := m) hv (by omega)
      have hb := rl_bd (g := (m : Int) + 1) hv (by omega) (by omega)
      have hpl := powL_len (u := 101) (pw := rlI n c e (m + 1)) (by omega)
      have kx := fun W (h : PT W) => scientific_any n c e m W hv (by omega) h
      rw [hv] at kv
      rw [hp] at kw
      have kt := fun W => text_any (fxA c (e - rlI n c e (m + 1)) m) (fxB c (e - rlI n c e (m + 1)) m) (powL 101 (rlI n c e (m + 1))) W (by omega) (by omega) (by omega)
      unfold etL
      generalize fxA c (e - rlI n c e (m + 1)) m ++ restL (fxB c (e - rlI n c e (m + 1)) m) (powL 101 (rlI n c e (m + 1))) false = R at *
      generalize fxA c (e - rlI n c e (m + 1)) m = A at *
      generalize fxB c (e - rlI n c e (m + 1)) m = B at *
      generalize powL 101 (rlI n c e (m + 1)) = T at *
      have KV := Lib.hid kv; have KW := Lib.hid kw; have KX := Lib.hid kx; have KT := Lib.hid kt
      clear kv kw kx kt
      clear hl hv hp hb kvt
      go_enter Tryd.func16, Tryd.ntmps16
      go_wp2_with (first | (go_at_call 35; (with_reducible refine Calls.mono (KV.out _) ?_); rintro r w1 ⟨rfl, hb⟩; replace hB := hB.trans (hb.mono hB.size); have hz := hB.size; replace zb := C3.carry zb hb; have zz := zb; obtain ⟨x0, x1, x2, x3, x4, x5, x6⟩ := zz) | (go_at_call 36; (with_reducible refine Calls.mono (KW.out _) ?_); rintro r w1 ⟨rfl, hb⟩; replace hB := hB.trans (hb.mono hB.size); have hz := hB.size; replace zb := C3.carry zb hb; have zz := zb; obtain ⟨x0, x1, x2, x3, x4, x5, x6⟩ := zz) | (go_at_call 41; (with_reducible refine Calls.mono (KX.out _ (hT.on hB)) ?_); rintro r w1 ⟨rfl, hb⟩; replace hB := hB.trans (hb.mono hB.size); have hz := hB.size; replace zb := C3.carry zb hb; have zz := zb; obtain ⟨x0, x1, x2, x3, x4, x5, x6⟩ := zz) | (go_at_call 38; (with_reducible refine Calls.mono (KT.out _) ?_); rintro r w1 ⟨rfl, hb⟩; replace hB := hB.trans (hb.mono hB.size); have hz := hB.size; replace zb := C3.carry zb hb; have zz := zb; obtain ⟨x0, x1, x2, x3, x4, x5, x6⟩ := zz))
      all_goals go_ret
      all_goals exact ⟨rfl, hB⟩
set_option maxRecDepth 100000 in
set_option maxHeartbeats 4000000 in
theorem ExpTextS_any (n : Bool) (c e p : Int) (w : World) :
    Calls Tryd.prog 15 #[.agg #[.bool n, .int .i64 c, .int .i64 e], .int .i64 p] w fun r w' => r = .returned (.string (expW n c e p)) ∧ Below w.heap.size w w' := by
  have kv := fun W => validS_any n c e W
  have kw := fun W => mBn (inRange_any p 0 8 W)
  have zb := C3.new w (.bool n) (.int .i64 c) (.int .i64 e) 31
  have hB : Below w.heap.size w (w.alloc (.cells #[.bool n, .int .i64 c, .int .i64 e] 31)) := Below.alloc (Below.refl _ _) (Nat.le_refl _) _
  have zz := zb
  obtain ⟨x0, x1, x2, x3, x4, x5, x6⟩ := zz
  cases hv : Fd.vld ⟨n, c, e⟩
  · rw [show expW n c e p = ⟨#[]⟩ by unfold expW; rw [hv]; rfl]
    rw [hv] at kv
    have KV := Lib.hid kv; have KW := Lib.hid kw
    clear kv kw
    clear hv
    go_enter Tryd.func15, Tryd.ntmps15
    go_wp2_with (first | (go_at_call 31; (with_reducible refine Calls.mono (KV.out _) ?_); rintro r w1 ⟨rfl, hb⟩; replace hB := hB.trans (hb.mono hB.size); have hz := hB.size; replace zb := C3.carry zb hb; have zz := zb; obtain ⟨x0, x1, x2, x3, x4, x5, x6⟩ := zz) | (go_at_call 32; (with_reducible refine Calls.mono (KW.out _) ?_); rintro r w1 ⟨rfl, hb⟩; replace hB := hB.trans (hb.mono hB.size); have hz := hB.size; replace zb := C3.carry zb hb; have zz := zb; obtain ⟨x0, x1, x2, x3, x4, x5, x6⟩ := zz))
    all_goals go_ret
    all_goals exact ⟨rfl, hB⟩
  · cases hp : inr p 0 8
    · rw [show expW n c e p = ⟨#[]⟩ by unfold expW; rw [hp, Bool.and_false]; rfl]
      rw [hv] at kv
      have hp' : Fd.inr p 0 8 = false := hp
      rw [hp'] at kw
      have KV := Lib.hid kv; have KW := Lib.hid kw
      clear kv kw
      clear hv hp hp'
      go_enter Tryd.func15, Tryd.ntmps15
      go_wp2_with (first | (go_at_call 31; (with_reducible refine Calls.mono (KV.out _) ?_); rintro r w1 ⟨rfl, hb⟩; replace hB := hB.trans (hb.mono hB.size); have hz := hB.size; replace zb := C3.carry zb hb; have zz := zb; obtain ⟨x0, x1, x2, x3, x4, x5, x6⟩ := zz) | (go_at_call 32; (with_reducible refine Calls.mono (KW.out _) ?_); rintro r w1 ⟨rfl, hb⟩; replace hB := hB.trans (hb.mono hB.size); have hz := hB.size; replace zb := C3.carry zb hb; have zz := zb; obtain ⟨x0, x1, x2, x3, x4, x5, x6⟩ := zz))
      all_goals go_ret
      all_goals exact ⟨rfl, hB⟩
    · rw [show expW n c e p = ⟨(etL n c e p.toNat).toArray⟩ by unfold expW; rw [hv, hp]; rfl]
      have hpp : 0 ≤ p ∧ p ≤ 8 := by simpa [inr] using hp
      have hp' : Fd.inr p 0 8 = true := hp
      obtain ⟨m, rfl⟩ := Int.eq_ofNat_of_zero_le hpp.1
      rw [show ((m : Nat) : Int).toNat = m from rfl]
      have hl := ex_len (p := m) hv (by omega)
      have hb := rl_bd (g := (m : Int) + 1) hv (by omega) (by omega)
      have hpl := powL_len (u := 101) (pw := rlI n c e (m + 1)) (by omega)
      have kx := fun W => expPartsS_any n c e m W hv (by omega)
      have kp := fun W => expTextS_any 101 (rlI n c e (m + 1)) (by omega) W
      rw [hv] at kv
      rw [hp'] at kw
      have kt := fun W => mBn (pointedS_any (fxB c (e - rlI n c e (m + 1)) m) false W (by omega))
      have hrl := rest_len (B := fxB c (e - rlI n c e (m + 1)) m) (T := []) (alt := false) (by omega) (by simp)
      unfold etL
      rw [rest_split]
      generalize fxA c (e - rlI n c e (m + 1)) m = A at *
      generalize restL (fxB c (e - rlI n c e (m + 1)) m) [] false = Q at *
      generalize fxB c (e - rlI n c e (m + 1)) m = B at *
      generalize powL 101 (rlI n c e (m + 1)) = T at *
      generalize rlI n c e (m + 1) = pw at *
      have hc1 := cat_lN A Q
      have hc2 := cat_lN (A ++ Q) T
      have q1 : ¬ (9223372036854775807 < A.length + Q.length) := by omega
      have q2 : ¬ (9223372036854775807 < A.length + Q.length + T.length) := by omega
      have KV := Lib.hid kv; have KW := Lib.hid kw; have KX := Lib.hid kx; have KT := Lib.hid kt; have KP := Lib.hid kp
      clear kv kw kx kt kp
      clear hl hv hp hp' hb
      go_enter Tryd.func15, Tryd.ntmps15
      go_wp2_with (first | (go_at_call 31; (with_reducible refine Calls.mono (KV.out _) ?_); rintro r w1 ⟨rfl, hb⟩; replace hB := hB.trans (hb.mono hB.size); have hz := hB.size; replace zb := C3.carry zb hb; have zz := zb; obtain ⟨x0, x1, x2, x3, x4, x5, x6⟩ := zz) | (go_at_call 32; (with_reducible refine Calls.mono (KW.out _) ?_); rintro r w1 ⟨rfl, hb⟩; replace hB := hB.trans (hb.mono hB.size); have hz := hB.size; replace zb := C3.carry zb hb; have zz := zb; obtain ⟨x0, x1, x2, x3, x4, x5, x6⟩ := zz) | (go_at_call 39; (with_reducible refine Calls.mono (KX.out _) ?_); rintro r w1 ⟨rfl, hb⟩; replace hB := hB.trans (hb.mono hB.size); have hz := hB.size; replace zb := C3.carry zb hb; have zz := zb; obtain ⟨x0, x1, x2, x3, x4, x5, x6⟩ := zz) | (go_at_call 34; (with_reducible refine Calls.mono (KT.out _) ?_); rintro r w1 ⟨rfl, hb⟩; replace hB := hB.trans (hb.mono hB.size); have hz := hB.size; replace zb := C3.carry zb hb; have zz := zb; obtain ⟨x0, x1, x2, x3, x4, x5, x6⟩ := zz) | (go_at_call 40; (with_reducible refine Calls.mono (KP.out _) ?_); rintro r w1 ⟨rfl, hb⟩; replace hB := hB.trans (hb.mono hB.size); have hz := hB.size; replace zb := C3.carry zb hb; have zz := zb; obtain ⟨x0, x1, x2, x3, x4, x5, x6⟩ := zz))
      all_goals go_ret
      all_goals exact ⟨ret_strN (by first | rfl | (rw [hc1, hc2]; simp; done) | (simp [cat_lN]; done)), hB⟩
end Go.Proofs.YtamlnbciejnbdaaDoor
