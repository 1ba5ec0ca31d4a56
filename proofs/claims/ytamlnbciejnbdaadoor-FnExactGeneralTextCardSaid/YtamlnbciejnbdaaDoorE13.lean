import Derived.Test.YtamlnbciejnbdaaDoorE12
namespace Go.Proofs.YtamlnbciejnbdaaDoor
open Go.RowKit
theorem gn_len {n : Bool} {c e : Int} {p : Nat} (hv : Fd.vld ⟨n, c, e⟩ = true) (hp : p ≤ 8) : (gnA n c e p).length ≤ 70 ∧ (gnB n c e p).length ≤ 70 ∧ (gnT n c e p).length ≤ 5 := by
  obtain ⟨b0, b1, b2, b3⟩ := vld_b hv
  have hb := rl_bd (g := (p : Int) + 1) hv (by omega) (by omega)
  cases hS : sciB (rlI n c e (p + 1)) p
  · have hS' := hS
    simp only [sciB, Bool.or_eq_false_iff, decide_eq_false_iff_not] at hS'
    unfold gnA gnB gnT
    rw [hS]
    have F := fx_facts n (c := c) (e := e) (p := ((p : Int) - rlI n c e (p + 1)).toNat) b0 b1 (by omega) (by omega) (by omega) (by omega)
    have := fxAB_len F.cb (by omega) (by omega)
    exact ⟨this.1, this.2, by simp⟩
  · unfold gnA gnB gnT
    rw [hS]
    have := ex_len hv hp
    exact ⟨this.1, this.2, powL_len (by omega)⟩
/-- the text of an amount with some digits -/
def gtL (n : Bool) (c e : Int) (p : Nat) : List UInt8 := gnA n c e p ++ restL (trR 48 (gnB n c e p)) (gnT n c e p) false
def genW (n : Bool) (c e g : Int) : ByteArray := if Fd.vld ⟨n, c, e⟩ && inr g 1 9 then ⟨(gtL n c e (g - 1).toNat).toArray⟩ else ⟨#[]⟩
set_option maxRecDepth 100000 in
set_option maxHeartbeats 4000000 in
theorem GeneralText_any (n : Bool) (c e p : Int) (w : World) (hT : PT w) :
    Calls Tryd.prog 18 #[.agg #[.bool n, .int .i64 c, .int .i64 e], .int .i64 p] w fun r w' => r = .returned (.string (genW n c e p)) ∧ Below w.heap.size w w' := by
  have kv := fun W => ValidDec_any n c e W
  have kw := fun W => mBn (within_any p 1 9 W)
  have zb := C3.new w (.bool n) (.int .i64 c) (.int .i64 e) 31
  have hB : Below w.heap.size w (w.alloc (.cells #[.bool n, .int .i64 c, .int .i64 e] 31)) := Below.alloc (Below.refl _ _) (Nat.le_refl _) _
  have zz := zb
  obtain ⟨x0, x1, x2, x3, x4, x5, x6⟩ := zz
  cases hv : Fd.vld ⟨n, c, e⟩
  · rw [show genW n c e p = ⟨#[]⟩ by unfold genW; rw [hv]; rfl]
    rw [hv] at kv
    have KV := Lib.hid kv; have KW := Lib.hid kw
    clear kv kw
    clear hT hv
    go_enter Tryd.func18, Tryd.ntmps18
    go_wp2_with (first | (go_at_call 35; (with_reducible refine Calls.mono (KV.out _) ?_); rintro r w1 ⟨rfl, hb⟩; replace hB := hB.trans (hb.mono hB.size); have hz := hB.size; replace zb := C3.carry zb hb; have zz := zb; obtain ⟨x0, x1, x2, x3, x4, x5, x6⟩ := zz) | (go_at_call 36; (with_reducible refine Calls.mono (KW.out _) ?_); rintro r w1 ⟨rfl, hb⟩; replace hB := hB.trans (hb.mono hB.size); have hz := hB.size; replace zb := C3.carry zb hb; have zz := zb; obtain ⟨x0, x1, x2, x3, x4, x5, x6⟩ := zz))
    all_goals go_ret
    all_goals exact ⟨rfl, hB⟩
  · cases hp : inr p 1 9
    · rw [show genW n c e p = ⟨#[]⟩ by unfold genW; rw [hp, Bool.and_false]; rfl]
      rw [hv] at kv
      rw [hp] at kw
      have KV := Lib.hid kv; have KW := Lib.hid kw
      clear kv kw
      clear hT hv hp
      go_enter Tryd.func18, Tryd.ntmps18
      go_wp2_with (first | (go_at_call 35; (with_reducible refine Calls.mono (KV.out _) ?_); rintro r w1 ⟨rfl, hb⟩; replace hB := hB.trans (hb.mono hB.size); have hz := hB.size; replace zb := C3.carry zb hb; have zz := zb; obtain ⟨x0, x1, x2, x3, x4, x5, x6⟩ := zz) | (go_at_call 36; (with_reducible refine Calls.mono (KW.out _) ?_); rintro r w1 ⟨rfl, hb⟩; replace hB := hB.trans (hb.mono hB.size); have hz := hB.size; replace zb := C3.carry zb hb; have zz := zb; obtain ⟨x0, x1, x2, x3, x4, x5, x6⟩ := zz))
      all_goals go_ret
      all_goals exact ⟨rfl, hB⟩
    · rw [show genW n c e p = ⟨(gtL n c e (p - 1).toNat).toArray⟩ by unfold genW; rw [hv, hp]; rfl]
      have hpp : 1 ≤ p ∧ p ≤ 9 := by simpa [inr] using hp
      obtain ⟨m, hm⟩ : ∃ m : Nat, p = (m : Int) + 1 := ⟨(p - 1).toNat, by omega⟩
      subst hm
      rw [show ((m : Int) + 1 - 1).toNat = m by omega]
      have hl := gn_len (p := m) hv (by omega)
      have htl := trR_len 48 (gnB n c e m)
      have kx := fun W (h : PT W) => general_any n c e m W hv (by omega) h
      rw [hv] at kv
      rw [hp] at kw
      have km := fun W => trimmed_any (gnA n c e m) (gnB n c e m) (gnT n c e m) W (by omega)
      have kt := fun W => text_any (gnA n c e m) (trR 48 (gnB n c e m)) (gnT n c e m) W (by omega) (by omega) (by omega)
      rw [show gnA n c e m ++ restL (trR 48 (gnB n c e m)) (gnT n c e m) false = gtL n c e m from rfl] at kt
      generalize gtL n c e m = R at *
      generalize trR 48 (gnB n c e m) = B2 at *
      generalize gnA n c e m = A at *
      generalize gnB n c e m = B at *
      generalize gnT n c e m = T at *
      have KV := Lib.hid kv; have KW := Lib.hid kw; have KX := Lib.hid kx; have KM := Lib.hid km; have KT := Lib.hid kt
      clear kv kw kx km kt
      clear hl hv hp
      go_enter Tryd.func18, Tryd.ntmps18
      go_wp2_with (first | (go_at_call 35; (with_reducible refine Calls.mono (KV.out _) ?_); rintro r w1 ⟨rfl, hb⟩; replace hB := hB.trans (hb.mono hB.size); have hz := hB.size; replace zb := C3.carry zb hb; have zz := zb; obtain ⟨x0, x1, x2, x3, x4, x5, x6⟩ := zz) | (go_at_call 36; (with_reducible refine Calls.mono (KW.out _) ?_); rintro r w1 ⟨rfl, hb⟩; replace hB := hB.trans (hb.mono hB.size); have hz := hB.size; replace zb := C3.carry zb hb; have zz := zb; obtain ⟨x0, x1, x2, x3, x4, x5, x6⟩ := zz) | (go_at_call 43; (with_reducible refine Calls.mono (KX.out _ (hT.on hB)) ?_); rintro r w1 ⟨rfl, hb⟩; replace hB := hB.trans (hb.mono hB.size); have hz := hB.size; replace zb := C3.carry zb hb; have zz := zb; obtain ⟨x0, x1, x2, x3, x4, x5, x6⟩ := zz) | (go_at_call 44; (with_reducible refine Calls.mono (KM.out _) ?_); rintro r w1 ⟨rfl, hb⟩; replace hB := hB.trans (hb.mono hB.size); have hz := hB.size; replace zb := C3.carry zb hb; have zz := zb; obtain ⟨x0, x1, x2, x3, x4, x5, x6⟩ := zz) | (go_at_call 38; (with_reducible refine Calls.mono (KT.out _) ?_); rintro r w1 ⟨rfl, hb⟩; replace hB := hB.trans (hb.mono hB.size); have hz := hB.size; replace zb := C3.carry zb hb; have zz := zb; obtain ⟨x0, x1, x2, x3, x4, x5, x6⟩ := zz))
      all_goals go_ret
      all_goals exact ⟨rfl, hB⟩
set_option maxRecDepth 100000 in
set_option maxHeartbeats 4000000 in
theorem GeneralTextS_any (n : Bool) (c e p : Int) (w : World) :
    Calls Tryd.prog 17 #[.agg #[.bool n, .int .i64 c, .int .i64 e], .int .i64 p] w fun r w' => r = .returned (.string (genW n c e p)) ∧ Below w.heap.size w w' := by
  have kv := fun W => validS_any n c e W
  have kw := fun W => mBn (inRange_any p 1 9 W)
  have zb := C3.new w (.bool n) (.int .i64 c) (.int .i64 e) 31
  have hB : Below w.heap.size w (w.alloc (.cells #[.bool n, .int .i64 c, .int .i64 e] 31)) := Below.alloc (Below.refl _ _) (Nat.le_refl _) _
  have zz := zb
  obtain ⟨x0, x1, x2, x3, x4, x5, x6⟩ := zz
  cases hv : Fd.vld ⟨n, c, e⟩
  · rw [show genW n c e p = ⟨#[]⟩ by unfold genW; rw [hv]; rfl]
    rw [hv] at kv
    have KV := Lib.hid kv; have KW := Lib.hid kw
    clear kv kw
    clear hv
    go_enter Tryd.func17, Tryd.ntmps17
    go_wp2_with (first | (go_at_call 31; (with_reducible refine Calls.mono (KV.out _) ?_); rintro r w1 ⟨rfl, hb⟩; replace hB := hB.trans (hb.mono hB.size); have hz := hB.size; replace zb := C3.carry zb hb; have zz := zb; obtain ⟨x0, x1, x2, x3, x4, x5, x6⟩ := zz) | (go_at_call 32; (with_reducible refine Calls.mono (KW.out _) ?_); rintro r w1 ⟨rfl, hb⟩; replace hB := hB.trans (hb.mono hB.size); have hz := hB.size; replace zb := C3.carry zb hb; have zz := zb; obtain ⟨x0, x1, x2, x3, x4, x5, x6⟩ := zz))
    all_goals go_ret
    all_goals exact ⟨rfl, hB⟩
  · cases hp : inr p 1 9
    · rw [show genW n c e p = ⟨#[]⟩ by unfold genW; rw [hp, Bool.and_false]; rfl]
      rw [hv] at kv
      have hp' : Fd.inr p 1 9 = false := hp
      rw [hp'] at kw
      have KV := Lib.hid kv; have KW := Lib.hid kw
      clear kv kw
      clear hv hp hp'
      go_enter Tryd.func17, Tryd.ntmps17
      go_wp2_with (first | (go_at_call 31; (with_reducible refine Calls.mono (KV.out _) ?_); rintro r w1 ⟨rfl, hb⟩; replace hB := hB.trans (hb.mono hB.size); have hz := hB.size; replace zb := C3.carry zb hb; have zz := zb; obtain ⟨x0, x1, x2, x3, x4, x5, x6⟩ := zz) | (go_at_call 32; (with_reducible refine Calls.mono (KW.out _) ?_); rintro r w1 ⟨rfl, hb⟩; replace hB := hB.trans (hb.mono hB.size); have hz := hB.size; replace zb := C3.carry zb hb; have zz := zb; obtain ⟨x0, x1, x2, x3, x4, x5, x6⟩ := zz))
      all_goals go_ret
      all_goals exact ⟨rfl, hB⟩
    · rw [show genW n c e p = ⟨(gtL n c e (p - 1).toNat).toArray⟩ by unfold genW; rw [hv, hp]; rfl]
      have hpp : 1 ≤ p ∧ p ≤ 9 := by simpa [inr] using hp
      have hp' : Fd.inr p 1 9 = true := hp
      obtain ⟨m, hm⟩ : ∃ m : Nat, p = (m : Int) + 1 := ⟨(p - 1).toNat, by omega⟩
      subst hm
      rw [show ((m : Int) + 1 - 1).toNat = m by omega]
      have hl := gn_len (p := m) hv (by omega)
      have htl := trR_len 48 (gnB n c e m)
      have kx := fun W => generalPartsS_any n c e m W hv (by omega)
      rw [hv] at kv
      rw [hp'] at kw
      have kt := fun W => mBn (pointedS_any (trR 48 (gnB n c e m)) false W (by omega))
      have hrl := rest_len (B := trR 48 (gnB n c e m)) (T := []) (alt := false) (by omega) (by simp)
      unfold gtL
      rw [rest_split]
      generalize restL (trR 48 (gnB n c e m)) [] false = Q at *
      generalize trR 48 (gnB n c e m) = B2 at *
      generalize gnA n c e m = A at *
      generalize gnT n c e m = T at *
      have hc1 := cat_lN A Q
      have hc2 := cat_lN (A ++ Q) T
      have q1 : ¬ (9223372036854775807 < A.length + Q.length) := by omega
      have q2 : ¬ (9223372036854775807 < A.length + Q.length + T.length) := by omega
      have KV := Lib.hid kv; have KW := Lib.hid kw; have KX := Lib.hid kx; have KT := Lib.hid kt
      clear kv kw kx kt
      clear hl hv hp hp'
      go_enter Tryd.func17, Tryd.ntmps17
      go_wp2_with (first | (go_at_call 31; (with_reducible refine Calls.mono (KV.out _) ?_); rintro r w1 ⟨rfl, hb⟩; replace hB := hB.trans (hb.mono hB.size); have hz := hB.size; replace zb := C3.carry zb hb; have zz := zb; obtain ⟨x0, x1, x2, x3, x4, x5, x6⟩ := zz) | (go_at_call 32; (with_reducible refine Calls.mono (KW.out _) ?_); rintro r w1 ⟨rfl, hb⟩; replace hB := hB.trans (hb.mono hB.size); have hz := hB.size; replace zb := C3.carry zb hb; have zz := zb; obtain ⟨x0, x1, x2, x3, x4, x5, x6⟩ := zz) | (go_at_call 42; (with_reducible refine Calls.mono (KX.out _) ?_); rintro r w1 ⟨rfl, hb⟩; replace hB := hB.trans (hb.mono hB.size); have hz := hB.size; replace zb := C3.carry zb hb; have zz := zb; obtain ⟨x0, x1, x2, x3, x4, x5, x6⟩ := zz) | (go_at_call 34; (with_reducible refine Calls.mono (KT.out _) ?_); rintro r w1 ⟨rfl, hb⟩; replace hB := hB.trans (hb.mono hB.size); have hz := hB.size; replace zb := C3.carry zb hb; have zz := zb; obtain ⟨x0, x1, x2, x3, x4, x5, x6⟩ := zz))
      all_goals go_ret
      all_goals exact ⟨ret_strN (by first | rfl | (rw [hc1, hc2]; simp; done) | (simp [cat_lN]; done)), hB⟩
end Go.Proofs.YtamlnbciejnbdaaDoor
