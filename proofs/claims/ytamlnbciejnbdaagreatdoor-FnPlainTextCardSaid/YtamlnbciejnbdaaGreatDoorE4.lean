import Derived.Test.YtamlnbciejnbdaaGreatDoorE3
import Derived.Test.YtamlnbciejnbdaaGreatDoorC7
import Derived.Test.YtamlnbciejnbdaaGreatDoorS4
namespace Go.Proofs.YtamlnbciejnbdaaGreatDoor
open Go.RowKit
/-- what comes behind the digits ahead of the point -/
def restL (B T : List UInt8) (alt : Bool) : List UInt8 := if B = [] ∧ alt = false then T else 46 :: (B ++ T)
set_option maxRecDepth 100000 in
set_option maxHeartbeats 4000000 in
theorem rest_any (A B T : List UInt8) (alt : Bool) (w : World) (hB : B.length ≤ 200) (hT : T.length ≤ 200) :
    Calls Tryz.prog 76 #[.agg #[.string ⟨A.toArray⟩, .string ⟨B.toArray⟩, .string ⟨T.toArray⟩], .bool alt] w fun r w' => r = .returned (.string ⟨(restL B T alt).toArray⟩) ∧ Below w.heap.size w w' := by
  have c1 := cat_lN [46] B
  have c2 := cat_lN ([46] ++ B) T
  have q1 : ¬ (9223372036854775807 < 1 + B.length) := by omega
  have q2 : ¬ (9223372036854775807 < 1 + B.length + T.length) := by omega
  have q3 : ¬ (9223372036854775807 < B.length + 1) := by omega
  have q4 : ¬ (9223372036854775807 < B.length + 1 + T.length) := by omega
  have za := C3.new w (.string ⟨A.toArray⟩) (.string ⟨B.toArray⟩) (.string ⟨T.toArray⟩) 58
  have hB0 : Below w.heap.size w (w.alloc (.cells #[.string ⟨A.toArray⟩, .string ⟨B.toArray⟩, .string ⟨T.toArray⟩] 58)) := Below.alloc (Below.refl _ _) (Nat.le_refl _) _
  have zz := za
  obtain ⟨x0, x1, x2, x3, x4, x5, x6⟩ := zz
  by_cases hb : B = []
  · subst hb
    cases alt
    · rw [show restL [] T false = T from rfl]
      go_enter Tryz.func76, Tryz.ntmps76
      go_wp2
      all_goals go_ret
      all_goals exact ⟨rfl, hB0⟩
    · rw [show restL [] T true = 46 :: ([] ++ T) from rfl]
      go_enter Tryz.func76, Tryz.ntmps76
      go_wp2
      all_goals go_ret
      all_goals exact ⟨ret_strN (by first | rfl | (simp [cat_lN]; done) | (exact c2)), hB0⟩
  · have hbe : B.isEmpty = false := by cases B; exact absurd rfl hb; rfl
    have hbl : (B == []) = false := by simpa using hb
    rw [show restL B T alt = 46 :: (B ++ T) from if_neg (fun h => hb h.1)]
    go_enter Tryz.func76, Tryz.ntmps76
    go_wp2
    all_goals go_ret
    all_goals exact ⟨ret_strN (by first | rfl | exact c2 | (rw [c1, c2]; rfl)), hB0⟩
set_option maxRecDepth 100000 in
set_option maxHeartbeats 4000000 in
theorem text_any (A B T : List UInt8) (w : World) (hA : A.length ≤ 200) (hB : B.length ≤ 200) (hT : T.length ≤ 200) :
    Calls Tryz.prog 44 #[.agg #[.string ⟨A.toArray⟩, .string ⟨B.toArray⟩, .string ⟨T.toArray⟩]] w fun r w' => r = .returned (.string ⟨(A ++ restL B T false).toArray⟩) ∧ Below w.heap.size w w' := by
  have kr := fun W => rest_any A B T false W hB hT
  have hl : (restL B T false).length ≤ 401 := by unfold restL; split; omega; simp only [List.length_cons, List.length_append]; omega
  have hc := cat_lN A (restL B T false)
  generalize restL B T false = R at *
  have q1 : ¬ (9223372036854775807 < A.length + R.length) := by omega
  have za := C3.new w (.string ⟨A.toArray⟩) (.string ⟨B.toArray⟩) (.string ⟨T.toArray⟩) 58
  replace hB : Below w.heap.size w (w.alloc (.cells #[.string ⟨A.toArray⟩, .string ⟨B.toArray⟩, .string ⟨T.toArray⟩] 58)) := Below.alloc (Below.refl _ _) (Nat.le_refl _) _
  have KR := Lib.hid kr
  clear kr
  go_enter Tryz.func44, Tryz.ntmps44
  go_wp2
  obtain ⟨sza0, sza1, sza2⟩ := C3.since za
  refine wp_region_since (by kernel_rfl) (by kernel_rfl) ?_
  repeat (quiet_step ((go_at_call 76; with_reducible exact Calls.since_of (KR.out _))))
  refine wpQuiet_nil ?_
  intro w_ hw_
  obtain ⟨⟨w1, hb⟩, hw2⟩ := hw_
  have hw3 : w1 = w_ := hw2.symm
  clear hw2
  subst hw3
  clear sza0 sza1 sza2
  replace hB := hB.trans (hb.mono hB.size)
  have hz := hb.size
  replace za := C3.carry za hb
  have zz := za
  obtain ⟨x0, x1, x2, x3, x4, x5, x6⟩ := zz
  go_wp2
  all_goals go_ret
  all_goals exact ⟨ret_strN (by first | rfl | exact hc), hB⟩
theorem pointedS_any (B : List UInt8) (alt : Bool) (w : World) (hB : B.length ≤ 200) :
    Calls Tryz.prog 48 #[.string ⟨B.toArray⟩, .bool alt] w fun r w' => r = .returned (.string ⟨(restL B [] alt).toArray⟩) ∧ w = w' := by
  have c1 := cat_lN [46] B
  have q1 : ¬ (9223372036854775807 < 1 + B.length) := by omega
  have q3 : ¬ (9223372036854775807 < B.length + 1) := by omega
  by_cases hb : B = []
  · subst hb
    cases alt
    · rw [show restL [] [] false = [] from rfl]
      go_enter Tryz.func48, Tryz.ntmps48
      go_wp2
      all_goals go_ret
      all_goals exact ⟨rfl, rfl⟩
    · rw [show restL [] [] true = [46] from rfl]
      go_enter Tryz.func48, Tryz.ntmps48
      go_wp2
      all_goals go_ret
      all_goals exact ⟨ret_strN (by first | rfl | (simp [cat_lN]; done)), rfl⟩
  · have hbe : B.isEmpty = false := by cases B; exact absurd rfl hb; rfl
    have hbl : (B == []) = false := by simpa using hb
    rw [show restL B [] alt = 46 :: (B ++ []) from if_neg (fun h => hb h.1), List.append_nil]
    go_enter Tryz.func48, Tryz.ntmps48
    go_wp2
    all_goals go_ret
    all_goals exact ⟨ret_strN (by first | rfl | exact c1), rfl⟩
/-- the text of an amount with p places -/
def ftL (c e : Int) (p : Nat) : List UInt8 := fxA c e p ++ restL (fxB c e p) [] false
theorem fxAB_len {c e : Int} {p : Nat} (h : fxC c e p ≤ 999999999) (h4 : e + p ≤ 40) (h5 : p ≤ 29) : (fxA c e p).length ≤ 70 ∧ (fxB c e p).length ≤ 70 := by
  have := fxL_len h h4 h5
  unfold fxA fxB
  rw [List.length_take, List.length_drop]
  omega
theorem vld_b {n : Bool} {c e : Int} (h : Fd.vld ⟨n, c, e⟩ = true) : 0 ≤ c ∧ c ≤ 999999999 ∧ -12 ≤ e ∧ e ≤ 12 := bounds_of h
def fixW (n : Bool) (c e p : Int) : ByteArray := if Fd.vld ⟨n, c, e⟩ && inr p 0 9 then ⟨(ftL c e p.toNat).toArray⟩ else ⟨#[]⟩
set_option maxRecDepth 100000 in
set_option maxHeartbeats 4000000 in
theorem FixedText_any (n : Bool) (c e p : Int) (w : World) (hT : PT w) :
    Calls Tryz.prog 11 #[.agg #[.bool n, .int .i64 c, .int .i64 e], .int .i64 p] w fun r w' => r = .returned (.string (fixW n c e p)) ∧ Below w.heap.size w w' := by
  have kv := fun W => ValidDec_any n c e W
  have kw := fun W => mBn (within_any p 0 9 W)
  have zb := C3.new w (.bool n) (.int .i64 c) (.int .i64 e) 24
  have hB : Below w.heap.size w (w.alloc (.cells #[.bool n, .int .i64 c, .int .i64 e] 24)) := Below.alloc (Below.refl _ _) (Nat.le_refl _) _
  have zz := zb
  obtain ⟨x0, x1, x2, x3, x4, x5, x6⟩ := zz
  cases hv : Fd.vld ⟨n, c, e⟩
  · rw [show fixW n c e p = ⟨#[]⟩ by unfold fixW; rw [hv]; rfl]
    rw [hv] at kv
    have KV := Lib.hid kv; have KW := Lib.hid kw
    clear kv kw
    clear hT hv
    go_enter Tryz.func11, Tryz.ntmps11
    go_wp2_with (first | (go_at_call 41; (with_reducible refine Calls.mono (KV.out _) ?_); rintro r w1 ⟨rfl, hb⟩; replace hB := hB.trans (hb.mono hB.size); have hz := hB.size; replace zb := C3.carry zb hb; have zz := zb; obtain ⟨x0, x1, x2, x3, x4, x5, x6⟩ := zz) | (go_at_call 42; (with_reducible refine Calls.mono (KW.out _) ?_); rintro r w1 ⟨rfl, hb⟩; replace hB := hB.trans (hb.mono hB.size); have hz := hB.size; replace zb := C3.carry zb hb; have zz := zb; obtain ⟨x0, x1, x2, x3, x4, x5, x6⟩ := zz))
    all_goals go_ret
    all_goals exact ⟨rfl, hB⟩
  · cases hp : inr p 0 9
    · rw [show fixW n c e p = ⟨#[]⟩ by unfold fixW; rw [hp, Bool.and_false]; rfl]
      rw [hv] at kv
      rw [hp] at kw
      have KV := Lib.hid kv; have KW := Lib.hid kw
      clear kv kw
      clear hT hv hp
      go_enter Tryz.func11, Tryz.ntmps11
      go_wp2_with (first | (go_at_call 41; (with_reducible refine Calls.mono (KV.out _) ?_); rintro r w1 ⟨rfl, hb⟩; replace hB := hB.trans (hb.mono hB.size); have hz := hB.size; replace zb := C3.carry zb hb; have zz := zb; obtain ⟨x0, x1, x2, x3, x4, x5, x6⟩ := zz) | (go_at_call 42; (with_reducible refine Calls.mono (KW.out _) ?_); rintro r w1 ⟨rfl, hb⟩; replace hB := hB.trans (hb.mono hB.size); have hz := hB.size; replace zb := C3.carry zb hb; have zz := zb; obtain ⟨x0, x1, x2, x3, x4, x5, x6⟩ := zz))
      all_goals go_ret
      all_goals exact ⟨rfl, hB⟩
    · rw [show fixW n c e p = ⟨(ftL c e p.toNat).toArray⟩ by unfold fixW; rw [hv, hp]; rfl]
      obtain ⟨b0, b1, b2, b3⟩ := vld_b hv
      have hpp : 0 ≤ p ∧ p ≤ 9 := by simpa [inr] using hp
      rw [hv] at kv
      rw [hp] at kw
      obtain ⟨m, rfl⟩ := Int.eq_ofNat_of_zero_le hpp.1
      rw [show ((m : Nat) : Int).toNat = m from rfl]
      have F := fx_facts n (c := c) (e := e) (p := m) b0 b1 (by omega) (by omega) (by omega) (by omega)
      have hl := fxAB_len F.cb (by omega) (by omega)
      have kx := fun W (h : PT W) => fixed_any n c e m W b0 b1 (by omega) (by omega) (by omega) (by omega) h
      have kt := fun W => text_any (fxA c e m) (fxB c e m) [] W (by omega) (by omega) (by simp)
      rw [show fxA c e m ++ restL (fxB c e m) [] false = ftL c e m from rfl] at kt
      generalize ftL c e m = R at *
      generalize fxA c e m = A at *
      generalize fxB c e m = B at *
      have KV := Lib.hid kv; have KW := Lib.hid kw; have KX := Lib.hid kx; have KT := Lib.hid kt
      clear kv kw kx kt
      clear F hl hv hp
      go_enter Tryz.func11, Tryz.ntmps11
      go_wp2_with (first | (go_at_call 41; (with_reducible refine Calls.mono (KV.out _) ?_); rintro r w1 ⟨rfl, hb⟩; replace hB := hB.trans (hb.mono hB.size); have hz := hB.size; replace zb := C3.carry zb hb; have zz := zb; obtain ⟨x0, x1, x2, x3, x4, x5, x6⟩ := zz) | (go_at_call 42; (with_reducible refine Calls.mono (KW.out _) ?_); rintro r w1 ⟨rfl, hb⟩; replace hB := hB.trans (hb.mono hB.size); have hz := hB.size; replace zb := C3.carry zb hb; have zz := zb; obtain ⟨x0, x1, x2, x3, x4, x5, x6⟩ := zz) | (go_at_call 43; (with_reducible refine Calls.mono (KX.out _ (hT.on hB)) ?_); rintro r w1 ⟨rfl, hb⟩; replace hB := hB.trans (hb.mono hB.size); have hz := hB.size; replace zb := C3.carry zb hb; have zz := zb; obtain ⟨x0, x1, x2, x3, x4, x5, x6⟩ := zz) | (go_at_call 44; (with_reducible refine Calls.mono (KT.out _) ?_); rintro r w1 ⟨rfl, hb⟩; replace hB := hB.trans (hb.mono hB.size); have hz := hB.size; replace zb := C3.carry zb hb; have zz := zb; obtain ⟨x0, x1, x2, x3, x4, x5, x6⟩ := zz))
      all_goals go_ret
      all_goals exact ⟨rfl, hB⟩
set_option maxRecDepth 100000 in
set_option maxHeartbeats 4000000 in
theorem FixedTextS_any (n : Bool) (c e p : Int) (w : World) :
    Calls Tryz.prog 12 #[.agg #[.bool n, .int .i64 c, .int .i64 e], .int .i64 p] w fun r w' => r = .returned (.string (fixW n c e p)) ∧ Below w.heap.size w w' := by
  have kv := fun W => validS_any n c e W
  have kw := fun W => mBn (inRange_any p 0 9 W)
  have zb := C3.new w (.bool n) (.int .i64 c) (.int .i64 e) 24
  have hB : Below w.heap.size w (w.alloc (.cells #[.bool n, .int .i64 c, .int .i64 e] 24)) := Below.alloc (Below.refl _ _) (Nat.le_refl _) _
  have zz := zb
  obtain ⟨x0, x1, x2, x3, x4, x5, x6⟩ := zz
  cases hv : Fd.vld ⟨n, c, e⟩
  · rw [show fixW n c e p = ⟨#[]⟩ by unfold fixW; rw [hv]; rfl]
    rw [hv] at kv
    have KV := Lib.hid kv; have KW := Lib.hid kw
    clear kv kw
    clear hv
    go_enter Tryz.func12, Tryz.ntmps12
    go_wp2_with (first | (go_at_call 45; (with_reducible refine Calls.mono (KV.out _) ?_); rintro r w1 ⟨rfl, hb⟩; replace hB := hB.trans (hb.mono hB.size); have hz := hB.size; replace zb := C3.carry zb hb; have zz := zb; obtain ⟨x0, x1, x2, x3, x4, x5, x6⟩ := zz) | (go_at_call 46; (with_reducible refine Calls.mono (KW.out _) ?_); rintro r w1 ⟨rfl, hb⟩; replace hB := hB.trans (hb.mono hB.size); have hz := hB.size; replace zb := C3.carry zb hb; have zz := zb; obtain ⟨x0, x1, x2, x3, x4, x5, x6⟩ := zz))
    all_goals go_ret
    all_goals exact ⟨rfl, hB⟩
  · cases hp : inr p 0 9
    · rw [show fixW n c e p = ⟨#[]⟩ by unfold fixW; rw [hp, Bool.and_false]; rfl]
      rw [hv] at kv
      have hp' : Fd.inr p 0 9 = false := hp
      rw [hp'] at kw
      have KV := Lib.hid kv; have KW := Lib.hid kw
      clear kv kw
      clear hv hp hp'
      go_enter Tryz.func12, Tryz.ntmps12
      go_wp2_with (first | (go_at_call 45; (with_reducible refine Calls.mono (KV.out _) ?_); rintro r w1 ⟨rfl, hb⟩; replace hB := hB.trans (hb.mono hB.size); have hz := hB.size; replace zb := C3.carry zb hb; have zz := zb; obtain ⟨x0, x1, x2, x3, x4, x5, x6⟩ := zz) | (go_at_call 46; (with_reducible refine Calls.mono (KW.out _) ?_); rintro r w1 ⟨rfl, hb⟩; replace hB := hB.trans (hb.mono hB.size); have hz := hB.size; replace zb := C3.carry zb hb; have zz := zb; obtain ⟨x0, x1, x2, x3, x4, x5, x6⟩ := zz))
      all_goals go_ret
      all_goals exact ⟨rfl, hB⟩
    · rw [show fixW n c e p = ⟨(ftL c e p.toNat).toArray⟩ by unfold fixW; rw [hv, hp]; rfl]
      obtain ⟨b0, b1, b2, b3⟩ := vld_b hv
      have hpp : 0 ≤ p ∧ p ≤ 9 := by simpa [inr] using hp
      have hp' : Fd.inr p 0 9 = true := hp
      rw [hv] at kv
      rw [hp'] at kw
      obtain ⟨m, rfl⟩ := Int.eq_ofNat_of_zero_le hpp.1
      rw [show ((m : Nat) : Int).toNat = m from rfl]
      have F := fx_facts n (c := c) (e := e) (p := m) b0 b1 (by omega) (by omega) (by omega) (by omega)
      have hl := fxAB_len F.cb (by omega) (by omega)
      have kx := fun W => fixedPartsS_any n c e m W b0 b1 (by omega) (by omega) (by omega) (by omega)
      have kt := fun W => mBn (pointedS_any (fxB c e m) false W (by omega))
      have hrl : (restL (fxB c e m) [] false).length ≤ 200 := by unfold restL; split; simp; simp only [List.length_cons, List.length_append, List.length_nil]; omega
      have hc := cat_lN (fxA c e m) (restL (fxB c e m) [] false)
      rw [show fxA c e m ++ restL (fxB c e m) [] false = ftL c e m from rfl] at hc
      generalize ftL c e m = R at *
      generalize restL (fxB c e m) [] false = Q at *
      generalize fxA c e m = A at *
      generalize fxB c e m = B at *
      have q1 : ¬ (9223372036854775807 < A.length + Q.length) := by omega
      have KV := Lib.hid kv; have KW := Lib.hid kw; have KX := Lib.hid kx; have KT := Lib.hid kt
      clear kv kw kx kt
      clear F hl hv hp hp'
      go_enter Tryz.func12, Tryz.ntmps12
      go_wp2_with (first | (go_at_call 45; (with_reducible refine Calls.mono (KV.out _) ?_); rintro r w1 ⟨rfl, hb⟩; replace hB := hB.trans (hb.mono hB.size); have hz := hB.size; replace zb := C3.carry zb hb; have zz := zb; obtain ⟨x0, x1, x2, x3, x4, x5, x6⟩ := zz) | (go_at_call 46; (with_reducible refine Calls.mono (KW.out _) ?_); rintro r w1 ⟨rfl, hb⟩; replace hB := hB.trans (hb.mono hB.size); have hz := hB.size; replace zb := C3.carry zb hb; have zz := zb; obtain ⟨x0, x1, x2, x3, x4, x5, x6⟩ := zz) | (go_at_call 47; (with_reducible refine Calls.mono (KX.out _) ?_); rintro r w1 ⟨rfl, hb⟩; replace hB := hB.trans (hb.mono hB.size); have hz := hB.size; replace zb := C3.carry zb hb; have zz := zb; obtain ⟨x0, x1, x2, x3, x4, x5, x6⟩ := zz) | (go_at_call 48; (with_reducible refine Calls.mono (KT.out _) ?_); rintro r w1 ⟨rfl, hb⟩; replace hB := hB.trans (hb.mono hB.size); have hz := hB.size; replace zb := C3.carry zb hb; have zz := zb; obtain ⟨x0, x1, x2, x3, x4, x5, x6⟩ := zz))
      all_goals go_ret
      all_goals exact ⟨ret_strN (by first | rfl | exact hc), hB⟩
end Go.Proofs.YtamlnbciejnbdaaGreatDoor
