import Derived.Test.YtejganoipbblcaaGreatDoorG71
import Derived.Test.YtejganoipbblcaaGreatDoorG72
import Derived.Test.YtejganoipbblcaaGreatDoorG73
import Derived.Test.YtejganoipbblcaaGreatDoorG74
import Derived.Test.YtejganoipbblcaaGreatDoorG13
import Derived.Test.YtejganoipbblcaaGreatDoorN2
import Derived.Test.YtejganoipbblcaaGreatDoorVV
import Derived.Test.YtejganoipbblcaaGreatDoorT4
import Derived.Test.YtejganoipbblcaaGreatDoorZ9
namespace Go.Proofs.YtejganoipbblcaaGreatDoor
open Go Go.RowKit
/-- what both sides make of an amount -/
def AmB (f : ByteArray) (al si : Int) (alt ze : Bool) (wi gr pr : Int) (t : List UInt8) (n : Bool) (c e : Int) (A B T : List UInt8) : Prop :=
  AmL A B T ∧ (∀ W, PT W → Calls Tryz.prog 56 #[.agg #[.string f, .int .i64 al, .int .i64 si, .bool alt, .bool ze, .int .i64 wi, .int .i64 gr, .int .i64 pr, .string ⟨t.toArray⟩], .agg #[.bool n, .int .i64 c, .int .i64 e]] W fun r w' => r = .returned (.agg #[.string ⟨A.toArray⟩, .string ⟨B.toArray⟩, .string ⟨T.toArray⟩]) ∧ Below W.heap.size W w') ∧
  (∀ W, Calls Tryz.prog 103 #[.agg #[.string f, .int .i64 al, .int .i64 si, .bool alt, .bool ze, .int .i64 wi, .int .i64 gr, .int .i64 pr, .string ⟨t.toArray⟩], .agg #[.bool n, .int .i64 c, .int .i64 e]] W fun r w' => r = .returned (.tuple #[.string ⟨A.toArray⟩, .string ⟨B.toArray⟩, .string ⟨T.toArray⟩]) ∧ Below W.heap.size W w')
theorem fx_am {c e : Int} {P : Nat} {T : List UInt8} (hb : fxC c e P ≤ 999999999) (h4 : e + P ≤ 40) (h5 : P ≤ 29) (hT : T.length ≤ 5) : AmL (fxA c e P) (fxB c e P) T :=
  ⟨(fxAB_len hb h4 h5).1, (fxAB_len hb h4 h5).2, hT, fxA_dg c e P, fxB_dg c e P⟩
theorem prW_nat {pr : Int} (h0 : -1 ≤ pr) (h9 : pr ≤ 9) : ∃ P : Nat, prW pr = P ∧ P ≤ 9 := by
  unfold prW
  split
  · exact ⟨6, rfl, by omega⟩
  · exact ⟨pr.toNat, by omega, by omega⟩
theorem min_nat {pr : Int} (h0 : -1 ≤ pr) (h9 : pr ≤ 9) : ∃ P : Nat, min (prW pr) 8 = P ∧ P ≤ 8 := by
  obtain ⟨P, h, h1⟩ := prW_nat h0 h9
  rw [h]
  exact ⟨min P 8, by omega, by omega⟩
theorem max_nat {pr : Int} (h0 : -1 ≤ pr) (h9 : pr ≤ 9) : ∃ P : Nat, max (prW pr) 1 = (P : Int) + 1 ∧ P ≤ 8 := by
  obtain ⟨P, h, h1⟩ := prW_nat h0 h9
  rw [h]
  exact ⟨max P 1 - 1, by omega, by omega⟩
theorem pow_le {n : Bool} {c e : Int} {P : Nat} (u : UInt8) (hv : Fd.vld ⟨n, c, e⟩ = true) (hp : P ≤ 8) : (powL u (rlI n c e (P + 1))).length ≤ 5 := by
  have hb := rl_bd (g := (P : Int) + 1) hv (by omega) (by omega)
  exact powL_len ⟨by omega, by omega⟩
theorem gnU_le {n : Bool} {c e : Int} {P : Nat} (u : UInt8) (hv : Fd.vld ⟨n, c, e⟩ = true) (hp : P ≤ 8) : (gnU u n c e P).length ≤ 5 := by
  unfold gnU
  split
  · exact pow_le u hv hp
  · simp
theorem trR_le70 {l : List UInt8} (h : l.length ≤ 70) : (trR 48 l).length ≤ 70 := Nat.le_trans (trR_len 48 l) h
/-- the digits ahead of the point, those behind it, and what comes at the end -/
def amT (alt : Bool) (pr : Int) (t : List UInt8) (n : Bool) (c e : Int) : List UInt8 × List UInt8 × List UInt8 :=
  if t = [] then (fxA c e (Fd.placesI ⟨n, c, e⟩).toNat, fxB c e (Fd.placesI ⟨n, c, e⟩).toNat, [])
  else if t = [102] then (fxA c e (prW pr).toNat, fxB c e (prW pr).toNat, [])
  else if t = [101] then (fxA c (e - rlI n c e ((min (prW pr) 8).toNat + 1)) (min (prW pr) 8).toNat, fxB c (e - rlI n c e ((min (prW pr) 8).toNat + 1)) (min (prW pr) 8).toNat, powL 101 (rlI n c e ((min (prW pr) 8).toNat + 1)))
  else if t = [69] then (fxA c (e - rlI n c e ((min (prW pr) 8).toNat + 1)) (min (prW pr) 8).toNat, fxB c (e - rlI n c e ((min (prW pr) 8).toNat + 1)) (min (prW pr) 8).toNat, powL 69 (rlI n c e ((min (prW pr) 8).toNat + 1)))
  else if t = [103] then (gnA n c e (max (prW pr) 1 - 1).toNat, if alt then gnB n c e (max (prW pr) 1 - 1).toNat else trR 48 (gnB n c e (max (prW pr) 1 - 1).toNat), gnT n c e (max (prW pr) 1 - 1).toNat)
  else if t = [71] then (gnA n c e (max (prW pr) 1 - 1).toNat, if alt then gnB n c e (max (prW pr) 1 - 1).toNat else trR 48 (gnB n c e (max (prW pr) 1 - 1).toNat), gnU 69 n c e (max (prW pr) 1 - 1).toNat)
  else (fxA c (e + 2) (prW pr).toNat, fxB c (e + 2) (prW pr).toNat, [37])
theorem am_ex (f : ByteArray) (al si : Int) (alt ze : Bool) (wi gr pr : Int) (t : List UInt8) (n : Bool) (c e : Int) (hv : Fd.vld ⟨n, c, e⟩ = true) (h0 : -1 ≤ pr) (h9 : pr ≤ 9) (hT : TyR t) :
    ∃ A B T, AmB f al si alt ze wi gr pr t n c e A B T ∧ amT alt pr t n c e = (A, B, T) := by
  obtain ⟨b0, b1, b2, b3⟩ := vld_b hv
  obtain ⟨P, hP, hP9⟩ := prW_nat h0 h9
  obtain ⟨Q, hQ, hQ8⟩ := min_nat h0 h9
  obtain ⟨R, hR, hR8⟩ := max_nat h0 h9
  rcases hT with rfl | rfl | rfl | rfl | rfl | rfl | rfl
  · obtain ⟨m, hm⟩ := pl_facts hv
    have hmb := hm.mb
    have F := fx_facts n (c := c) (e := e) (p := m) b0 b1 (by omega) (by omega) (by omega) (by omega)
    refine ⟨_, _, _, ⟨fx_am F.cb (by omega) (by omega) (by simp), fun W h => amountOf_none f al si alt ze wi gr pr n c e _ _ [] W h (fun W h => plain_any n c e m W hv hm h), fun W => realParts_none f al si alt ze wi gr pr n c e m W hv h0 hm.pl hmb⟩, by unfold amT; simp [hm.pl]⟩
  · have F := fx_facts n (c := c) (e := e) (p := P) b0 b1 (by omega) (by omega) (by omega) (by omega)
    refine ⟨_, _, _, ⟨fx_am F.cb (by omega) (by omega) (by simp), fun W h => amountOf_f f al si alt ze wi gr pr n c e _ _ [] W h (fun W h => showFixed_any f al si alt ze wi gr pr _ n c e P W h hv hP hP9), fun W => realParts_f f al si alt ze wi gr pr n c e P W hv h0 hP hP9⟩, by unfold amT; simp [hP]⟩
  · have hl := ex_len hv hQ8
    refine ⟨_, _, _, ⟨⟨hl.1, hl.2, pow_le 101 hv hQ8, fxA_dg _ _ _, fxB_dg _ _ _⟩, fun W h => amountOf_e f al si alt ze wi gr pr n c e _ _ _ W h (fun W h => showScientific_any f al si alt ze wi gr pr _ n c e Q W h hv hQ hQ8), fun W => realParts_e f al si alt ze wi gr pr n c e Q W hv h0 hQ hQ8⟩, by unfold amT; simp [hQ]⟩
  · have hl := ex_len hv hQ8
    have hpw := pow_le 101 hv hQ8
    refine ⟨_, _, _, ⟨⟨hl.1, hl.2, pow_le 69 hv hQ8, fxA_dg _ _ _, fxB_dg _ _ _⟩, fun W h => amountOf_E f al si alt ze wi gr pr n c e _ _ _ _ W h (fun W h => showScientific_any f al si alt ze wi gr pr _ n c e Q W h hv hQ hQ8) (fun W => ToUpper_pow _ (by omega) W), fun W => realParts_E f al si alt ze wi gr pr n c e Q W hv h0 hQ hQ8⟩, by unfold amT; simp [hQ]⟩
  · have hl := gn_len hv hR8
    cases alt
    · refine ⟨_, _, _, ⟨⟨hl.1, trR_le70 hl.2.1, hl.2.2, gnA_dg _ _ _ _, trR_dg (gnB_dg _ _ _ _)⟩, fun W h => amountOf_g f al si false ze wi gr pr n c e _ _ _ W h (fun W h => showGeneral_any f al si false ze wi gr pr _ n c e R W h hv hR hR8), fun W => realParts_gF f al si ze wi gr pr n c e R W hv h0 hR hR8⟩, by unfold amT; simp [show (max (prW pr) 1 - 1).toNat = R by omega]⟩
    · refine ⟨_, _, _, ⟨⟨hl.1, hl.2.1, hl.2.2, gnA_dg _ _ _ _, gnB_dg _ _ _ _⟩, fun W h => amountOf_g f al si true ze wi gr pr n c e _ _ _ W h (fun W h => showGeneral_any f al si true ze wi gr pr _ n c e R W h hv hR hR8), fun W => realParts_gT f al si ze wi gr pr n c e R W hv h0 hR hR8⟩, by unfold amT; simp [show (max (prW pr) 1 - 1).toNat = R by omega]⟩
  · have hl := gn_len hv hR8
    have hgl : (gnT n c e R).length ≤ 10 := by omega
    cases alt
    · refine ⟨_, _, _, ⟨⟨hl.1, trR_le70 hl.2.1, gnU_le 69 hv hR8, gnA_dg _ _ _ _, trR_dg (gnB_dg _ _ _ _)⟩, fun W h => amountOf_G f al si false ze wi gr pr n c e _ _ _ _ W h (fun W h => showGeneral_any f al si false ze wi gr pr _ n c e R W h hv hR hR8) (fun W => ToUpper_gn n c e R hgl W), fun W => realParts_GF f al si ze wi gr pr n c e R W hv h0 hR hR8⟩, by unfold amT; simp [show (max (prW pr) 1 - 1).toNat = R by omega]⟩
    · refine ⟨_, _, _, ⟨⟨hl.1, hl.2.1, gnU_le 69 hv hR8, gnA_dg _ _ _ _, gnB_dg _ _ _ _⟩, fun W h => amountOf_G f al si true ze wi gr pr n c e _ _ _ _ W h (fun W h => showGeneral_any f al si true ze wi gr pr _ n c e R W h hv hR hR8) (fun W => ToUpper_gn n c e R hgl W), fun W => realParts_GT f al si ze wi gr pr n c e R W hv h0 hR hR8⟩, by unfold amT; simp [show (max (prW pr) 1 - 1).toNat = R by omega]⟩
  · have F := fx_facts n (c := c) (e := e + 2) (p := P) b0 b1 (by omega) (by omega) (by omega) (by omega)
    refine ⟨_, _, _, ⟨fx_am F.cb (by omega) (by omega) (by decide), fun W h => amountOf_p f al si alt ze wi gr pr n c e _ _ [37] W h (fun W h => showPercent_any f al si alt ze wi gr pr _ n c e P W h hv hP hP9), fun W => realParts_p f al si alt ze wi gr pr n c e P W hv h0 hP hP9⟩, by unfold amT; simp [hP]⟩
end Go.Proofs.YtejganoipbblcaaGreatDoor
namespace Go.Proofs.YtejganoipbblcaaGreatDoor
open Go Go.RowKit
theorem kind_one {b : UInt8} (h : (kindB b == 1) = true) : b = 102 ∨ b = 101 ∨ b = 69 ∨ b = 103 ∨ b = 71 ∨ b = 37 := by
  have := all_bytes (fun b => !(kindB b == 1) || (b == 102 || (b == 101 || (b == 69 || (b == 103 || (b == 71 || b == 37)))))) (by kernel_rfl) b
  simp only [h, Bool.not_true, Bool.false_or, Bool.or_eq_true, beq_iff_eq] at this
  exact this
theorem tyR_of {al si : Int} {alt ze : Bool} {gr pr : Int} {t : ByteArray} (h : suitT al si alt ze gr pr t 1 = true) : TyR t.data.toList := by
  unfold suitT at h
  split at h
  · rename_i e; rw [e]; exact .inl rfl
  · rename_i b e
    rw [e]
    simp only [Bool.and_eq_true] at h
    rcases kind_one h.1 with rfl | rfl | rfl | rfl | rfl | rfl
    · exact .inr (.inl rfl)
    · exact .inr (.inr (.inl rfl))
    · exact .inr (.inr (.inr (.inl rfl)))
    · exact .inr (.inr (.inr (.inr (.inl rfl))))
    · exact .inr (.inr (.inr (.inr (.inr (.inl rfl)))))
    · exact .inr (.inr (.inr (.inr (.inr (.inr rfl)))))
  · cases h
def grB (v s d : Bool) : Bool := v && (s && d)
set_option maxRecDepth 100000 in
set_option maxHeartbeats 8000000 in
theorem goodRealS_any (f : ByteArray) (al si : Int) (alt ze : Bool) (wi gr pr : Int) (t : ByteArray) (n : Bool) (c e : Int) (w : World) :
    Calls Tryz.prog 65 #[.agg #[.string f, .int .i64 al, .int .i64 si, .bool alt, .bool ze, .int .i64 wi, .int .i64 gr, .int .i64 pr, .string t], .agg #[.bool n, .int .i64 c, .int .i64 e]] w fun r w' => r = .returned (.bool (grB (vSp f al si wi gr pr t) (suitT al si alt ze gr pr t 1) (Fd.vld ⟨n, c, e⟩))) ∧ Below w.heap.size w w' := by
  have kv := fun W => validSpecS_any f al si alt ze wi gr pr t W
  have kd := fun W => validS_any n c e W
  have za := (C9.new w (.string f) (.int .i64 al) (.int .i64 si) (.bool alt) (.bool ze) (.int .i64 wi) (.int .i64 gr) (.int .i64 pr) (.string t) 24).up (.cells #[.bool n, .int .i64 c, .int .i64 e] 31)
  have zd : C3 ((w.alloc (.cells #[.string f, .int .i64 al, .int .i64 si, .bool alt, .bool ze, .int .i64 wi, .int .i64 gr, .int .i64 pr, .string t] 24)).alloc (.cells #[.bool n, .int .i64 c, .int .i64 e] 31)) (w.heap.size + 1) (.bool n) (.int .i64 c) (.int .i64 e) := by
    have h := C3.new (w.alloc (.cells #[.string f, .int .i64 al, .int .i64 si, .bool alt, .bool ze, .int .i64 wi, .int .i64 gr, .int .i64 pr, .string t] 24)) (.bool n) (.int .i64 c) (.int .i64 e) 31
    rw [show (w.alloc (.cells #[.string f, .int .i64 al, .int .i64 si, .bool alt, .bool ze, .int .i64 wi, .int .i64 gr, .int .i64 pr, .string t] 24)).heap.size = w.heap.size + 1 by simp] at h
    exact h
  have hB : Below w.heap.size w ((w.alloc (.cells #[.string f, .int .i64 al, .int .i64 si, .bool alt, .bool ze, .int .i64 wi, .int .i64 gr, .int .i64 pr, .string t] 24)).alloc (.cells #[.bool n, .int .i64 c, .int .i64 e] 31)) := ((Below.refl _ _).alloc (Nat.le_refl _) _).alloc (by simp) _
  unfold grB
  have zz := za
  obtain ⟨za_x0, za_x1, za_x2, za_x3, za_x4, za_x5, za_x6, za_x7, za_x8, za_xf, za_xl⟩ := zz
  have zz := zd
  obtain ⟨zd_0, zd_1, zd_2, zd_3, zd_4, zd_5, zd_6⟩ := zz
  cases hv : vSp f al si wi gr pr t
  · rw [Bool.false_and]
    rw [hv] at kv
    have KV := Lib.hid kv
    clear kv kd hv
    go_enter Tryz.func65, Tryz.ntmps65
    go_wp2_with (first | (go_at_call 42; (with_reducible refine Calls.mono (KV.out _) ?_); rintro r w1 ⟨rfl, hb⟩; replace hB := hB.trans (hb.mono hB.size); have hz := hb.size; replace za := C9.carry za hb; have zz := za; obtain ⟨za_x0, za_x1, za_x2, za_x3, za_x4, za_x5, za_x6, za_x7, za_x8, za_xf, za_xl⟩ := zz; replace zd := C3.carry zd hb; have zz := zd; obtain ⟨zd_0, zd_1, zd_2, zd_3, zd_4, zd_5, zd_6⟩ := zz))
    all_goals go_ret
    all_goals exact ⟨rfl, hB⟩
  · have V := vSp_open hv
    have ks := fun W => suitsS_any f al si alt ze wi gr pr t 1 W V.pr0 V.type
    rw [hv] at kv
    rw [Bool.true_and]
    clear V hv
    generalize suitT al si alt ze gr pr t 1 = s at *
    generalize Fd.vld ⟨n, c, e⟩ = d at *
    have KV := Lib.hid kv; have KS := Lib.hid ks; have KD := Lib.hid kd
    clear kv ks kd
    cases s
    · go_enter Tryz.func65, Tryz.ntmps65
      go_wp2_with (first | (go_at_call 42; (with_reducible refine Calls.mono (KV.out _) ?_); rintro r w1 ⟨rfl, hb⟩; replace hB := hB.trans (hb.mono hB.size); have hz := hb.size; replace za := C9.carry za hb; have zz := za; obtain ⟨za_x0, za_x1, za_x2, za_x3, za_x4, za_x5, za_x6, za_x7, za_x8, za_xf, za_xl⟩ := zz; replace zd := C3.carry zd hb; have zz := zd; obtain ⟨zd_0, zd_1, zd_2, zd_3, zd_4, zd_5, zd_6⟩ := zz) | (go_at_call 43; (with_reducible refine Calls.mono (KS.out _) ?_); rintro r w1 ⟨rfl, hb⟩; replace hB := hB.trans (hb.mono hB.size); have hz := hb.size; replace za := C9.carry za hb; have zz := za; obtain ⟨za_x0, za_x1, za_x2, za_x3, za_x4, za_x5, za_x6, za_x7, za_x8, za_xf, za_xl⟩ := zz; replace zd := C3.carry zd hb; have zz := zd; obtain ⟨zd_0, zd_1, zd_2, zd_3, zd_4, zd_5, zd_6⟩ := zz))
      all_goals go_ret
      all_goals exact ⟨rfl, hB⟩
    · rw [Bool.true_and]
      go_enter Tryz.func65, Tryz.ntmps65
      go_wp2_with (first | (go_at_call 42; (with_reducible refine Calls.mono (KV.out _) ?_); rintro r w1 ⟨rfl, hb⟩; replace hB := hB.trans (hb.mono hB.size); have hz := hb.size; replace za := C9.carry za hb; have zz := za; obtain ⟨za_x0, za_x1, za_x2, za_x3, za_x4, za_x5, za_x6, za_x7, za_x8, za_xf, za_xl⟩ := zz; replace zd := C3.carry zd hb; have zz := zd; obtain ⟨zd_0, zd_1, zd_2, zd_3, zd_4, zd_5, zd_6⟩ := zz) | (go_at_call 43; (with_reducible refine Calls.mono (KS.out _) ?_); rintro r w1 ⟨rfl, hb⟩; replace hB := hB.trans (hb.mono hB.size); have hz := hb.size; replace za := C9.carry za hb; have zz := za; obtain ⟨za_x0, za_x1, za_x2, za_x3, za_x4, za_x5, za_x6, za_x7, za_x8, za_xf, za_xl⟩ := zz; replace zd := C3.carry zd hb; have zz := zd; obtain ⟨zd_0, zd_1, zd_2, zd_3, zd_4, zd_5, zd_6⟩ := zz) | (go_at_call 102; (with_reducible refine Calls.mono (KD.out _) ?_); rintro r w1 ⟨rfl, hb⟩; replace hB := hB.trans (hb.mono hB.size); have hz := hb.size; replace za := C9.carry za hb; have zz := za; obtain ⟨za_x0, za_x1, za_x2, za_x3, za_x4, za_x5, za_x6, za_x7, za_x8, za_xf, za_xl⟩ := zz; replace zd := C3.carry zd hb; have zz := zd; obtain ⟨zd_0, zd_1, zd_2, zd_3, zd_4, zd_5, zd_6⟩ := zz))
      all_goals go_ret
      all_goals exact ⟨rfl, hB⟩
/-- the model's text of what can be written -/
theorem formatRealS_is (f : ByteArray) (al si : Int) (alt ze : Bool) (wi gr pr : Int) (t : ByteArray) (n : Bool) (c e : Int) (w : World) (hb : grB (vSp f al si wi gr pr t) (suitT al si alt ze gr pr t 1) (Fd.vld ⟨n, c, e⟩) = true) :
    ∃ A B T, amT alt pr t.data.toList n c e = (A, B, T) ∧ Calls Tryz.prog 66 #[.agg #[.string f, .int .i64 al, .int .i64 si, .bool alt, .bool ze, .int .i64 wi, .int .i64 gr, .int .i64 pr, .string t], .agg #[.bool n, .int .i64 c, .int .i64 e]] w fun r w' => r = .returned (.string ⟨(frL (fcB f ze) (alW al ze 1) si alt wi.toNat gr n A B T).toArray⟩) ∧ Below w.heap.size w w' := by
  unfold grB at hb
  simp only [Bool.and_eq_true] at hb
  obtain ⟨hv, hs, hd⟩ := hb
  have V := vSp_open hv
  have hw0 := V.wi0; have hw30 := V.wi30
  have hT := tyR_of hs
  have et := of_list t
  obtain ⟨A, B, T, hA, hAT⟩ := am_ex f al si alt ze wi gr pr t.data.toList n c e hd V.pr0 V.pr9 hT
  have hal := alW_in (al := al) ze V.al0 V.al4
  have hal1 : alW al ze 1 = alW al ze 0 := by
    unfold alW
    split
    · cases ze <;> rfl
    · rfl
  refine ⟨A, B, T, hAT, ?_⟩
  have kf := fun W => fillOfS_any f al si alt ze wi gr pr t W
  rw [fill_one V.fill] at kf
  have ka := fun W => alignOfS_any f al si alt ze wi gr pr t 0 W
  rw [← hal1] at ka
  obtain ⟨L, _, am⟩ := hA
  obtain ⟨m, rfl⟩ := Int.eq_ofNat_of_zero_le hw0
  rw [et] at kf ka ⊢
  exact formatRealS_ok f al si alt ze m gr pr t.data.toList n c e A B T (fcB f ze) (alW al ze 1) w L (by omega) V.gr0 V.gr2 (by rw [hal1]; exact hal) hT am kf ka
set_option maxRecDepth 100000 in
set_option maxHeartbeats 8000000 in
/-- both sides answer one text at every specification and decimal -/
theorem FormatReal_both (f : ByteArray) (al si : Int) (alt ze : Bool) (wi gr pr : Int) (t : ByteArray) (n : Bool) (c e : Int) :
    ∃ R : ByteArray, (∀ W, PT W → Calls Tryz.prog 18 #[.agg #[.string f, .int .i64 al, .int .i64 si, .bool alt, .bool ze, .int .i64 wi, .int .i64 gr, .int .i64 pr, .string t], .agg #[.bool n, .int .i64 c, .int .i64 e]] W fun r w' => r = .returned (.string R) ∧ Below W.heap.size W w') ∧
      (∀ W, Calls Tryz.prog 19 #[.agg #[.string f, .int .i64 al, .int .i64 si, .bool alt, .bool ze, .int .i64 wi, .int .i64 gr, .int .i64 pr, .string t], .agg #[.bool n, .int .i64 c, .int .i64 e]] W fun r w' => r = .returned (.string R) ∧ Below W.heap.size W w') ∧
      (grB (vSp f al si wi gr pr t) (suitT al si alt ze gr pr t 1) (Fd.vld ⟨n, c, e⟩) = false → R = ⟨#[]⟩) ∧
      (grB (vSp f al si wi gr pr t) (suitT al si alt ze gr pr t 1) (Fd.vld ⟨n, c, e⟩) = true → ∃ A B T, AmB f al si alt ze wi gr pr t.data.toList n c e A B T ∧ amT alt pr t.data.toList n c e = (A, B, T) ∧ R = ⟨(frL (fcB f ze) (alW al ze 1) si alt wi.toNat gr n A B T).toArray⟩) := by
  have kg := fun W => goodRealS_any f al si alt ze wi gr pr t n c e W
  have ks := fun W => SpecSuits_any f al si alt ze wi gr pr t 1 W
  have kd := fun W => ValidDec_any n c e W
  cases hb : grB (vSp f al si wi gr pr t) (suitT al si alt ze gr pr t 1) (Fd.vld ⟨n, c, e⟩)
  · rw [hb] at kg
    refine ⟨⟨#[]⟩, fun w hP => ?_, fun w => ?_, fun _ => rfl, fun h => by cases h⟩
    · have hs : (suitW (vSp f al si wi gr pr t) al si alt ze gr pr t 1 && Fd.vld ⟨n, c, e⟩) = false := by
        unfold grB at hb
        unfold suitW
        rw [Bool.and_assoc]; exact hb
      clear hb kg
      generalize suitW (vSp f al si wi gr pr t) al si alt ze gr pr t 1 = s at *
      generalize Fd.vld ⟨n, c, e⟩ = d at *
      have za := (C9.new w (.string f) (.int .i64 al) (.int .i64 si) (.bool alt) (.bool ze) (.int .i64 wi) (.int .i64 gr) (.int .i64 pr) (.string t) 24).up (.cells #[.bool n, .int .i64 c, .int .i64 e] 31)
      have zd : C3 ((w.alloc (.cells #[.string f, .int .i64 al, .int .i64 si, .bool alt, .bool ze, .int .i64 wi, .int .i64 gr, .int .i64 pr, .string t] 24)).alloc (.cells #[.bool n, .int .i64 c, .int .i64 e] 31)) (w.heap.size + 1) (.bool n) (.int .i64 c) (.int .i64 e) := by
        have h := C3.new (w.alloc (.cells #[.string f, .int .i64 al, .int .i64 si, .bool alt, .bool ze, .int .i64 wi, .int .i64 gr, .int .i64 pr, .string t] 24)) (.bool n) (.int .i64 c) (.int .i64 e) 31
        rw [show (w.alloc (.cells #[.string f, .int .i64 al, .int .i64 si, .bool alt, .bool ze, .int .i64 wi, .int .i64 gr, .int .i64 pr, .string t] 24)).heap.size = w.heap.size + 1 by simp] at h
        exact h
      have hB : Below w.heap.size w ((w.alloc (.cells #[.string f, .int .i64 al, .int .i64 si, .bool alt, .bool ze, .int .i64 wi, .int .i64 gr, .int .i64 pr, .string t] 24)).alloc (.cells #[.bool n, .int .i64 c, .int .i64 e] 31)) := ((Below.refl _ _).alloc (Nat.le_refl _) _).alloc (by simp) _
      have KS := Lib.hid ks; have KD := Lib.hid kd
      clear ks kd
      have zz := za
      obtain ⟨za_x0, za_x1, za_x2, za_x3, za_x4, za_x5, za_x6, za_x7, za_x8, za_xf, za_xl⟩ := zz
      have zz := zd
      obtain ⟨zd_0, zd_1, zd_2, zd_3, zd_4, zd_5, zd_6⟩ := zz
      cases s
      · clear hs
        go_enter Tryz.func18, Tryz.ntmps18
        go_wp2_with (first | (go_at_call 15; (with_reducible refine Calls.mono (KS.out _) ?_); rintro r w1 ⟨rfl, hb⟩; replace hB := hB.trans (hb.mono hB.size); have hz := hb.size; replace za := C9.carry za hb; have zz := za; obtain ⟨za_x0, za_x1, za_x2, za_x3, za_x4, za_x5, za_x6, za_x7, za_x8, za_xf, za_xl⟩ := zz; replace zd := C3.carry zd hb; have zz := zd; obtain ⟨zd_0, zd_1, zd_2, zd_3, zd_4, zd_5, zd_6⟩ := zz))
        all_goals go_ret
        all_goals exact ⟨rfl, hB⟩
      · have hd : d = false := by simpa using hs
        subst hd
        clear hs
        go_enter Tryz.func18, Tryz.ntmps18
        go_wp2_with (first | (go_at_call 15; (with_reducible refine Calls.mono (KS.out _) ?_); rintro r w1 ⟨rfl, hb⟩; replace hB := hB.trans (hb.mono hB.size); have hz := hb.size; replace za := C9.carry za hb; have zz := za; obtain ⟨za_x0, za_x1, za_x2, za_x3, za_x4, za_x5, za_x6, za_x7, za_x8, za_xf, za_xl⟩ := zz; replace zd := C3.carry zd hb; have zz := zd; obtain ⟨zd_0, zd_1, zd_2, zd_3, zd_4, zd_5, zd_6⟩ := zz) | (go_at_call 55; (with_reducible refine Calls.mono (KD.out _) ?_); rintro r w1 ⟨rfl, hb⟩; replace hB := hB.trans (hb.mono hB.size); have hz := hb.size; replace za := C9.carry za hb; have zz := za; obtain ⟨za_x0, za_x1, za_x2, za_x3, za_x4, za_x5, za_x6, za_x7, za_x8, za_xf, za_xl⟩ := zz; replace zd := C3.carry zd hb; have zz := zd; obtain ⟨zd_0, zd_1, zd_2, zd_3, zd_4, zd_5, zd_6⟩ := zz))
        all_goals go_ret
        all_goals exact ⟨rfl, hB⟩
    · have KG := Lib.hid kg
      clear kg ks kd hb
      have za := (C9.new w (.string f) (.int .i64 al) (.int .i64 si) (.bool alt) (.bool ze) (.int .i64 wi) (.int .i64 gr) (.int .i64 pr) (.string t) 24).up (.cells #[.bool n, .int .i64 c, .int .i64 e] 31)
      have zd : C3 ((w.alloc (.cells #[.string f, .int .i64 al, .int .i64 si, .bool alt, .bool ze, .int .i64 wi, .int .i64 gr, .int .i64 pr, .string t] 24)).alloc (.cells #[.bool n, .int .i64 c, .int .i64 e] 31)) (w.heap.size + 1) (.bool n) (.int .i64 c) (.int .i64 e) := by
        have h := C3.new (w.alloc (.cells #[.string f, .int .i64 al, .int .i64 si, .bool alt, .bool ze, .int .i64 wi, .int .i64 gr, .int .i64 pr, .string t] 24)) (.bool n) (.int .i64 c) (.int .i64 e) 31
        rw [show (w.alloc (.cells #[.string f, .int .i64 al, .int .i64 si, .bool alt, .bool ze, .int .i64 wi, .int .i64 gr, .int .i64 pr, .string t] 24)).heap.size = w.heap.size + 1 by simp] at h
        exact h
      have hB : Below w.heap.size w ((w.alloc (.cells #[.string f, .int .i64 al, .int .i64 si, .bool alt, .bool ze, .int .i64 wi, .int .i64 gr, .int .i64 pr, .string t] 24)).alloc (.cells #[.bool n, .int .i64 c, .int .i64 e] 31)) := ((Below.refl _ _).alloc (Nat.le_refl _) _).alloc (by simp) _
      go_enter Tryz.func19, Tryz.ntmps19
      go_wp2_with (first | (go_at_call 65; (with_reducible refine Calls.mono (KG.out _) ?_); rintro r w1 ⟨rfl, hb⟩; replace hB := hB.trans (hb.mono hB.size); have hz := hb.size; replace za := C9.carry za hb; have zz := za; obtain ⟨za_x0, za_x1, za_x2, za_x3, za_x4, za_x5, za_x6, za_x7, za_x8, za_xf, za_xl⟩ := zz; replace zd := C3.carry zd hb; have zz := zd; obtain ⟨zd_0, zd_1, zd_2, zd_3, zd_4, zd_5, zd_6⟩ := zz))
      all_goals go_ret
      all_goals exact ⟨rfl, hB⟩
  · have h3 := hb
    unfold grB at h3
    simp only [Bool.and_eq_true] at h3
    obtain ⟨hv, hs, hd⟩ := h3
    have V := vSp_open hv
    have hw0 := V.wi0; have hw30 := V.wi30
    have hT := tyR_of hs
    have et := of_list t
    obtain ⟨A, B, T, hA, hAT⟩ := am_ex f al si alt ze wi gr pr t.data.toList n c e hd V.pr0 V.pr9 hT
    have hsw : suitW (vSp f al si wi gr pr t) al si alt ze gr pr t 1 = true := by unfold suitW; rw [hv, hs]; rfl
    have hal := alW_in (al := al) ze V.al0 V.al4
    have hal1 : alW al ze 1 = alW al ze 0 := by
      unfold alW
      split
      · cases ze <;> rfl
      · rfl
    refine ⟨⟨(frL (fcB f ze) (alW al ze 1) si alt wi.toNat gr n A B T).toArray⟩, fun W hP => ?_, fun w => ?_, (fun h => by cases h), fun _ => ⟨A, B, T, hA, hAT, rfl⟩⟩
    · rw [hsw] at ks
      rw [hd] at kd
      have kf := fun W => FillFor_any f al si alt ze wi gr pr t W
      rw [hv, fill_one V.fill] at kf
      have ka := fun W => AlignFor_any f al si alt ze wi gr pr t 1 W
      rw [hsw] at ka
      obtain ⟨L, am, _⟩ := hA
      obtain ⟨m, rfl⟩ := Int.eq_ofNat_of_zero_le hw0
      rw [et] at ks kf ka ⊢
      have h := FormatReal_ok f al si alt ze m gr pr t.data.toList n c e A B T (fcB f ze) (alW al ze 1) W hP L (by omega) V.gr0 V.gr2 (by rw [hal1]; exact hal) ks kd am kf ka
      exact h
    · rw [hb] at kg
      have kf := fun W => fillOfS_any f al si alt ze wi gr pr t W
      rw [fill_one V.fill] at kf
      have ka := fun W => alignOfS_any f al si alt ze wi gr pr t 0 W
      rw [← hal1] at ka
      obtain ⟨L, _, am⟩ := hA
      have kx : ∀ W, Calls Tryz.prog 66 #[.agg #[.string f, .int .i64 al, .int .i64 si, .bool alt, .bool ze, .int .i64 wi, .int .i64 gr, .int .i64 pr, .string t], .agg #[.bool n, .int .i64 c, .int .i64 e]] W fun r w' => r = .returned (.string ⟨(frL (fcB f ze) (alW al ze 1) si alt wi.toNat gr n A B T).toArray⟩) ∧ Below W.heap.size W w' := by
        intro W
        obtain ⟨m, rfl⟩ := Int.eq_ofNat_of_zero_le hw0
        rw [et] at kf ka ⊢
        exact formatRealS_ok f al si alt ze m gr pr t.data.toList n c e A B T (fcB f ze) (alW al ze 1) W L (by omega) V.gr0 V.gr2 (by rw [hal1]; exact hal) hT am kf ka
      generalize (⟨(frL (fcB f ze) (alW al ze 1) si alt wi.toNat gr n A B T).toArray⟩ : ByteArray) = R at *
      have KG := Lib.hid kg; have KX := Lib.hid kx
      clear kg kx ks kd kf ka am L hb hv hs hd V hT et
      have za := (C9.new w (.string f) (.int .i64 al) (.int .i64 si) (.bool alt) (.bool ze) (.int .i64 wi) (.int .i64 gr) (.int .i64 pr) (.string t) 24).up (.cells #[.bool n, .int .i64 c, .int .i64 e] 31)
      have zd : C3 ((w.alloc (.cells #[.string f, .int .i64 al, .int .i64 si, .bool alt, .bool ze, .int .i64 wi, .int .i64 gr, .int .i64 pr, .string t] 24)).alloc (.cells #[.bool n, .int .i64 c, .int .i64 e] 31)) (w.heap.size + 1) (.bool n) (.int .i64 c) (.int .i64 e) := by
        have h := C3.new (w.alloc (.cells #[.string f, .int .i64 al, .int .i64 si, .bool alt, .bool ze, .int .i64 wi, .int .i64 gr, .int .i64 pr, .string t] 24)) (.bool n) (.int .i64 c) (.int .i64 e) 31
        rw [show (w.alloc (.cells #[.string f, .int .i64 al, .int .i64 si, .bool alt, .bool ze, .int .i64 wi, .int .i64 gr, .int .i64 pr, .string t] 24)).heap.size = w.heap.size + 1 by simp] at h
        exact h
      have hB : Below w.heap.size w ((w.alloc (.cells #[.string f, .int .i64 al, .int .i64 si, .bool alt, .bool ze, .int .i64 wi, .int .i64 gr, .int .i64 pr, .string t] 24)).alloc (.cells #[.bool n, .int .i64 c, .int .i64 e] 31)) := ((Below.refl _ _).alloc (Nat.le_refl _) _).alloc (by simp) _
      go_enter Tryz.func19, Tryz.ntmps19
      go_wp2_with (first | (go_at_call 65; (with_reducible refine Calls.mono (KG.out _) ?_); rintro r w1 ⟨rfl, hb⟩; replace hB := hB.trans (hb.mono hB.size); have hz := hb.size; replace za := C9.carry za hb; have zz := za; obtain ⟨za_x0, za_x1, za_x2, za_x3, za_x4, za_x5, za_x6, za_x7, za_x8, za_xf, za_xl⟩ := zz; replace zd := C3.carry zd hb; have zz := zd; obtain ⟨zd_0, zd_1, zd_2, zd_3, zd_4, zd_5, zd_6⟩ := zz) | (go_at_call 66; (with_reducible refine Calls.mono (KX.out _) ?_); rintro r w1 ⟨rfl, hb⟩; replace hB := hB.trans (hb.mono hB.size); have hz := hb.size; replace za := C9.carry za hb; have zz := za; obtain ⟨za_x0, za_x1, za_x2, za_x3, za_x4, za_x5, za_x6, za_x7, za_x8, za_xf, za_xl⟩ := zz; replace zd := C3.carry zd hb; have zz := zd; obtain ⟨zd_0, zd_1, zd_2, zd_3, zd_4, zd_5, zd_6⟩ := zz))
      all_goals go_ret
      all_goals exact ⟨rfl, hB⟩
end Go.Proofs.YtejganoipbblcaaGreatDoor
namespace Go.Proofs.YtejganoipbblcaaGreatDoor
open Go Go.RowKit
theorem padL_zero (H B : List UInt8) (c : UInt8) (a : Int) : padL H B 0 c a = H ++ B := by
  unfold padL
  rw [show (0 : Nat) - H.length - B.length = 0 by omega]
  simp only [Nat.zero_div, Nat.sub_zero, show rep c 0 = [] from rfl, List.append_nil, List.nil_append]
  split
  · rfl
  · split
    · rfl
    · split <;> rfl
theorem padL_len (H B : List UInt8) (wi : Nat) (c : UInt8) (a : Int) : (padL H B wi c a).length = max wi (H.length + B.length) := by
  unfold padL
  split
  · simp only [List.length_append, rep_len]; omega
  · split
    · simp only [List.length_append, rep_len]; omega
    · split
      · simp only [List.length_append, rep_len]; omega
      · simp only [List.length_append, rep_len]; omega
theorem padL_full {H B : List UInt8} {wi : Nat} (h : wi ≤ H.length + B.length) (c : UInt8) (a : Int) : padL H B wi c a = H ++ B := by
  rw [← padL_zero H B c a]
  unfold padL
  rw [show (0 : Nat) - H.length - B.length = 0 by omega, show wi - H.length - B.length = 0 by omega]
theorem widL_full {l sep : List UInt8} {wd n : Nat} (hl : l.length ≤ 80) (hw : wd ≤ 30) (hn0 : 1 ≤ n) (hn1 : n ≤ 9) (hs : sep.length ≤ 1) (h : wd ≤ (joinL n sep l).length) : widL l wd n sep = joinL n sep l := by
  have h0 := tz_ok (wd := wd) (n := n) (size := l.length) (j := 0) (sep := sep) (l := l) rfl hl hw hn0 hn1 hs (Nat.zero_le _)
  rw [show zeros 0 ++ l = l from rfl] at h0
  rw [widL_eq, show tz wd n l.length sep = 0 by omega]
  rfl
/-- an amount's text without a width -/
def frZ (si : Int) (alt : Bool) (gr : Int) (n : Bool) (A B T : List UInt8) : List UInt8 := sgnL si (n && !zdB (A ++ B)) ++ (joinL 3 (mkL gr) A ++ restL B T alt)
theorem fr_zero (fc : UInt8) (a si : Int) (alt : Bool) (gr : Int) (n : Bool) (A B T : List UInt8) : frL fc a si alt 0 gr n A B T = frZ si alt gr n A B T := by
  unfold frL frZ
  split
  · rw [Nat.zero_sub, Nat.zero_sub, widL_zero]
  · rw [padL_zero]
theorem fr_wide {fc : UInt8} {a si : Int} {alt : Bool} {wi : Nat} {gr : Int} {n : Bool} {A B T : List UInt8} (hw : wi ≤ 30) (hA : A.length ≤ 70) :
    wi ≤ (frL fc a si alt wi gr n A B T).length ∧ (frZ si alt gr n A B T).length ≤ (frL fc a si alt wi gr n A B T).length ∧ (wi ≤ (frZ si alt gr n A B T).length → frL fc a si alt wi gr n A B T = frZ si alt gr n A B T) := by
  unfold frL frZ
  generalize sgnL si (n && !zdB (A ++ B)) = H at *
  generalize restL B T alt = E at *
  split
  · have f1 := widL_ge (l := A) (sep := mkL gr) (wd := wi - H.length - E.length) (n := 3) (by omega) (by omega) (by omega) (by omega) (mkL_len gr)
    have f2 := widL_full (l := A) (sep := mkL gr) (wd := wi - H.length - E.length) (n := 3) (by omega) (by omega) (by omega) (by omega) (mkL_len gr)
    generalize widL A (wi - H.length - E.length) 3 (mkL gr) = X at *
    generalize joinL 3 (mkL gr) A = J at *
    simp only [List.length_append]
    refine ⟨by omega, ?_, fun h => by rw [f2 (by omega)]⟩
    by_cases hq : wi - H.length - E.length ≤ J.length
    · rw [f2 hq]; exact Nat.le_refl _
    · omega
  · rw [padL_len]
    simp only [List.length_append]
    exact ⟨by omega, by omega, fun h => padL_full (by rw [List.length_append]; omega) _ _⟩
theorem join_head {l : List UInt8} {b : UInt8} {r : List UInt8} (n : Nat) (sep : List UInt8) (e : l = b :: r) : ∃ r', joinL n sep l = b :: r' := by
  subst e
  unfold joinL
  split
  · exact ⟨r, rfl⟩
  · exact ⟨_, rfl⟩
theorem fxA_pos {c e : Int} {p : Nat} (h : p + 1 ≤ (fxL c e p).length) : 1 ≤ (fxA c e p).length := by
  unfold fxA
  rw [List.length_take]
  omega
theorem fxL_ge (c e : Int) (p : Nat) : p + 1 ≤ (fxL c e p).length := by
  unfold fxL
  rw [widL_none, List.length_append, zeros_len]
  omega
theorem gnA_pos (n : Bool) (c e : Int) (p : Nat) : 1 ≤ (gnA n c e p).length := by
  unfold gnA
  split
  · exact fxA_pos (fxL_ge _ _ _)
  · exact fxA_pos (fxL_ge _ _ _)
/-- the digits ahead of the point are some -/
theorem am_pos (alt : Bool) (pr : Int) (t : List UInt8) (n : Bool) (c e : Int) : 1 ≤ (amT alt pr t n c e).1.length := by
  unfold amT
  repeat' split
  all_goals first | exact fxA_pos (fxL_ge _ _ _) | exact gnA_pos _ _ _ _
theorem first_dg {A : List UInt8} (h : 1 ≤ A.length) (hd : DgL A) : ∃ b r, A = b :: r ∧ 48 ≤ b.toNat ∧ b.toNat ≤ 57 := by
  match A, h with
  | b :: r, _ => exact ⟨b, r, rfl, hd b (List.mem_cons_self ..)⟩
/-- a text without a width has a first byte, a minus only if there is one -/
theorem frZ_head {si : Int} {alt : Bool} {gr : Int} {n : Bool} {A B T : List UInt8} (h : 1 ≤ A.length) (hd : DgL A) :
    ∃ b r, frZ si alt gr n A B T = b :: r ∧ (n = false → b ≠ 45) := by
  obtain ⟨b, r, e, h1, h2⟩ := first_dg h hd
  obtain ⟨r', e'⟩ := join_head 3 (mkL gr) e
  unfold frZ
  rw [e']
  unfold sgnL
  by_cases hn : (n && !zdB (A ++ B)) = true
  · rw [if_pos hn]
    refine ⟨45, _, rfl, fun hf => ?_⟩
    rw [hf] at hn
    simp at hn
  · rw [if_neg hn]
    split
    · exact ⟨43, _, rfl, fun _ => by decide⟩
    · split
      · exact ⟨32, _, rfl, fun _ => by decide⟩
      · refine ⟨b, _, rfl, fun _ hb => ?_⟩
        rw [hb] at h1
        exact absurd h1 (by decide)
/-- a minus struck off leaves the amount -/
theorem frZ_bare {alt : Bool} {n : Bool} {A B T : List UInt8} (h : 1 ≤ A.length) (hd : DgL A) :
    (frZ 0 alt 0 n A B T = 45 :: (A ++ restL B T alt)) ∨ (frZ 0 alt 0 n A B T = A ++ restL B T alt ∧ ∃ b r, A ++ restL B T alt = b :: r ∧ b ≠ 45) := by
  obtain ⟨b, r, e, h1, h2⟩ := first_dg h hd
  unfold frZ sgnL
  rw [show joinL 3 (mkL 0) A = A from rfl]
  by_cases hn : (n && !zdB (A ++ B)) = true
  · rw [if_pos hn]; exact .inl rfl
  · rw [if_neg hn]
    refine .inr ⟨rfl, b, r ++ restL B T alt, by rw [e]; rfl, fun hb => ?_⟩
    rw [hb] at h1
    exact absurd h1 (by decide)
/-- without the commas -/
theorem frZ_marks {si : Int} {alt : Bool} {n : Bool} {A B T : List UInt8} (hA : DgL A) (hB : DgL B) (hT : (44 : UInt8) ∉ T) : wo 44 (frZ si alt 1 n A B T) = frZ si alt 0 n A B T := by
  have hne : ∀ x : UInt8, 48 ≤ x.toNat ∧ x.toNat ≤ 57 → x ≠ 44 := fun x h e => by rw [e] at h; exact absurd h.1 (by decide)
  unfold frZ
  rw [wo_append, wo_append, show joinL 3 (mkL 1) A = grp 3 [44] A from rfl, show joinL 3 (mkL 0) A = A from rfl, wo_grp, wo_self (l := A) (fun b hb => hne b (hA b hb))]
  congr 1
  · apply wo_self
    unfold sgnL
    intro b hb
    split at hb
    · simp at hb; subst hb; decide
    · split at hb
      · simp at hb; subst hb; decide
      · split at hb
        · simp at hb; subst hb; decide
        · simp at hb
  · congr 1
    apply wo_self
    intro b hb
    unfold restL at hb
    split at hb
    · exact fun e => hT (e ▸ hb)
    · rcases List.mem_cons.1 hb with rfl | hb
      · decide
      · rcases List.mem_append.1 hb with hb | hb
        · exact hne b (hB b hb)
        · exact fun e => hT (e ▸ hb)
theorem frZ_len {si : Int} {alt : Bool} {gr : Int} {n : Bool} {A B T : List UInt8} (L : AmL A B T) : (frZ si alt gr n A B T).length ≤ 500 := by
  obtain ⟨la, lb, lt, _, _⟩ := L
  have h1 := sgn_len si (n && !zdB (A ++ B))
  have h2 := rest_le B T alt
  have h3 := widL_len70 (l := A) (sep := mkL gr) (wd := 0) (n := 3) la (by omega) (mkL_len gr)
  rw [widL_zero] at h3
  unfold frZ
  simp only [List.length_append]
  omega
theorem frL_le {fc : UInt8} {a si : Int} {alt : Bool} {wi : Nat} {gr : Int} {n : Bool} {A B T : List UInt8} (hw : wi ≤ 30) (L : AmL A B T) : (frL fc a si alt wi gr n A B T).length ≤ 600 := by
  obtain ⟨la, lb, lt, _, _⟩ := L
  have h1 := sgn_len si (n && !zdB (A ++ B))
  have h2 := rest_le B T alt
  have h3 := widL_len70 (l := A) (sep := mkL gr) (wd := 0) (n := 3) la (by omega) (mkL_len gr)
  have h4 := widL_len70 (l := A) (sep := mkL gr) (wd := wi - (sgnL si (n && !zdB (A ++ B))).length - (restL B T alt).length) (n := 3) la (by omega) (mkL_len gr)
  rw [widL_zero] at h3
  unfold frL
  split
  · simp only [List.length_append]; omega
  · rw [padL_len, List.length_append]; omega
theorem digs_ten {c : Nat} (h : 0 < c) : digs false 10 (c * 10) = digs false 10 c ++ [48] := by
  rw [digs_ge (by omega) (by omega), show c * 10 / 10 = c by omega, show c * 10 % 10 = 0 by omega]
  rfl
/-- one zero of the coefficient is one of the exponent -/
theorem fxD_up {c : Int} (e : Int) (p : Nat) (h0 : 0 < c) (h9 : c * 10 ≤ 999999999) : fxD (c * 10) e p = fxD c (e + 1) p := by
  have e1 := fxC_drop (c * 10) e p _ rfl
  have e2 := fxC_drop c (e + 1) p (-(p : Int) - e - 1) (by omega)
  unfold fxD
  by_cases k0 : -(p : Int) - e ≤ 0
  · rw [if_pos k0] at e1
    rw [if_pos (by omega)] at e2
    rw [e1, e2, if_neg (by omega), if_neg (by omega), show (c * 10).toNat = c.toNat * 10 by omega, digs_ten (by omega), show (e + 1 + p).toNat = (e + p).toNat + 1 by omega, List.append_assoc]
    rfl
  · rw [if_neg k0] at e1
    by_cases k1 : -(p : Int) - e = 1
    · rw [k1] at e1 e2
      rw [if_neg (by omega)] at e1
      rw [if_pos (by omega)] at e2
      have hq : Fd.rq (c * 10) 1 = c := by
        unfold Fd.rq
        rw [show Fd.p10 1 = 10 from rfl, show c * 10 % 10 = 0 by omega, show c * 10 / 10 = c by omega, if_neg (by omega)]
      rw [hq] at e1
      rw [e1, e2, show (e + (p : Int)).toNat = 0 by omega, show (e + 1 + (p : Int)).toNat = 0 by omega]
    · have hz : (e + (p : Int)).toNat = 0 := by omega
      have hz2 : (e + 1 + (p : Int)).toNat = 0 := by omega
      have hC : fxC (c * 10) e p = fxC c (e + 1) p := by
        rw [if_neg (show ¬ (-(p : Int) - e - 1 ≤ 0) by omega)] at e2
        rw [e1, e2]
        by_cases k9 : 9 < -(p : Int) - e
        · rw [if_pos k9]
          by_cases k10 : 9 < -(p : Int) - e - 1
          · rw [if_pos k10]
          · rw [if_neg k10, show -(p : Int) - e - 1 = 9 by omega]
            have hq : Fd.rq c 9 = 0 := by
              unfold Fd.rq
              rw [Fd.p10_9, show c % 1000000000 = c by omega, show c / 1000000000 = 0 by omega, if_neg (by omega)]
            rw [hq]
        · rw [if_neg k9, if_neg (by omega)]
          generalize hk : -(p : Int) - e - 1 = k at *
          rw [show -(p : Int) - e = k + 1 by omega]
          unfold Fd.rq
          have hP := Fd.p10_pos k
          rw [Fd.p10_succ (by omega), show c * 10 = 10 * c by omega, Int.mul_ediv_mul_of_pos _ _ (by omega), Int.mul_emod_mul_of_pos _ _ (by omega)]
          generalize c % Fd.p10 k = m
          generalize Fd.p10 k = q at *
          congr 1
          by_cases hh : 2 * m > q ∨ 2 * m = q ∧ c / q % 2 = 1
          · rw [if_pos hh, if_pos (by omega)]
          · rw [if_neg hh, if_neg (by omega)]
      rw [hC, hz, hz2]
theorem fxD_ups {c : Int} (p : Nat) (h0 : 0 < c) : ∀ (j : Nat) (e : Int), c * Fd.p10 j ≤ 999999999 → fxD (c * Fd.p10 j) e p = fxD c (e + j) p
  | 0, e, _ => by rw [show Fd.p10 ((0 : Nat) : Int) = 1 from rfl, Int.mul_one]; simp
  | j + 1, e, h => by
    have hs : Fd.p10 ((j + 1 : Nat) : Int) = 10 * Fd.p10 j := by rw [show ((j + 1 : Nat) : Int) = (j : Int) + 1 by omega, Fd.p10_succ (by omega)]
    have hP := Fd.p10_pos (j : Int)
    rw [hs, show c * (10 * Fd.p10 j) = c * Fd.p10 j * 10 by rw [Int.mul_comm 10, Int.mul_assoc]] at h ⊢
    have hq : 0 < c * Fd.p10 j := Int.mul_pos h0 hP
    rw [fxD_up e p hq h, fxD_ups p h0 j (e + 1) (by omega)]
    congr 1
    omega
/-- equal amounts are shown alike -/
theorem fxD_same {c e c' e' : Int} (p : Nat) (h0 : 0 < c) (h0' : 0 < c') (h9 : c ≤ 999999999) (h9' : c' ≤ 999999999) (he : -24 ≤ e) (he' : -24 ≤ e') (h : Fd.U c e = Fd.U c' e') : fxD c e p = fxD c' e' p := by
  by_cases hle : e ≤ e'
  · have hd := Fd.U_down he hle h
    have h2 := fxD_ups p h0' (e' - e).toNat e
    rw [show (((e' - e).toNat : Nat) : Int) = e' - e by omega, ← hd] at h2
    rw [h2 h9]
    congr 1
    omega
  · have hd := Fd.U_down he' (by omega) h.symm
    have h2 := fxD_ups p h0 (e - e').toNat e'
    rw [show (((e - e').toNat : Nat) : Int) = e - e' by omega, ← hd] at h2
    rw [h2 h9']
    congr 1
    omega
theorem fxAB_same {c e c' e' : Int} (p : Nat) (h : fxD c e p = fxD c' e' p) : fxA c e p = fxA c' e' p ∧ fxB c e p = fxB c' e' p := by
  unfold fxA fxB fxL
  rw [h]
  exact ⟨rfl, rfl⟩
end Go.Proofs.YtejganoipbblcaaGreatDoor
namespace Go.Proofs.YtejganoipbblcaaGreatDoor
open Go Go.RowKit
/-- the 6 cells of a struct, as a later world has them -/
structure C6 (w : World) (g : Nat) (v0 v1 v2 v3 v4 v5 : Value) : Prop where
  c0 : w.cell? ⟨g, 0, none⟩ = some v0
  c1 : w.cell? ⟨g, 1, none⟩ = some v1
  c2 : w.cell? ⟨g, 2, none⟩ = some v2
  c3 : w.cell? ⟨g, 3, none⟩ = some v3
  c4 : w.cell? ⟨g, 4, none⟩ = some v4
  c5 : w.cell? ⟨g, 5, none⟩ = some v5
  fz : ∀ o, w.frozen? ⟨g, o, none⟩ = false
  lt : g < w.heap.size
theorem C6.new (V : World) (v0 v1 v2 v3 v4 v5 : Value) (t : TypeId) : C6 (V.alloc (.cells #[v0, v1, v2, v3, v4, v5] t)) V.heap.size v0 v1 v2 v3 v4 v5 := by
  constructor <;> simp [go_sem]
theorem C6.keep {w w' : World} {g : Nat} {v0 v1 v2 v3 v4 v5 : Value} (h : C6 w g v0 v1 v2 v3 v4 v5) (hs : w.heap.size ≤ w'.heap.size) (hc : ∀ o, w'.cell? ⟨g, o, none⟩ = w.cell? ⟨g, o, none⟩) (hf : ∀ o, w'.frozen? ⟨g, o, none⟩ = w.frozen? ⟨g, o, none⟩) : C6 w' g v0 v1 v2 v3 v4 v5 :=
  ⟨(hc _).trans h.c0, (hc _).trans h.c1, (hc _).trans h.c2, (hc _).trans h.c3, (hc _).trans h.c4, (hc _).trans h.c5, fun o => (hf o).trans (h.fz o), Nat.lt_of_lt_of_le h.lt hs⟩
theorem C6.carry {g : Nat} {w w' : World} {v0 v1 v2 v3 v4 v5 : Value} (h : C6 w g v0 v1 v2 v3 v4 v5) (hb : Below w.heap.size w w') : C6 w' g v0 v1 v2 v3 v4 v5 :=
  h.keep hb.size (fun o => hb.cell (p := ⟨g, o, none⟩) h.lt) (fun o => hb.frozen (p := ⟨g, o, none⟩) h.lt)
theorem C6.up {g : Nat} {w : World} {v0 v1 v2 v3 v4 v5 : Value} (h : C6 w g v0 v1 v2 v3 v4 v5) (o : Obj) : C6 (w.alloc o) g v0 v1 v2 v3 v4 v5 := h.carry ((Below.refl _ _).alloc (Nat.le_refl _) _)
theorem C6.drew {g : Nat} {w : World} {v0 v1 v2 v3 v4 v5 : Value} (h : C6 w g v0 v1 v2 v3 v4 v5) : C6 w.drew g v0 v1 v2 v3 v4 v5 := h.keep (Nat.le_refl _) (fun _ => rfl) (fun _ => rfl)
theorem C6.far {g : Nat} {w : World} {v0 v1 v2 v3 v4 v5 : Value} (h : C6 w g v0 v1 v2 v3 v4 v5) {b o : Nat} (hn : b ≠ g) (v : Value) : C6 (w.setCell ⟨b, o, none⟩ v) g v0 v1 v2 v3 v4 v5 :=
  h.keep ((Below.setCell (p := ⟨b, o, none⟩) (Below.refl 0 w) (Nat.zero_le _) v).size) (fun _ => World.cell?_setCell_far _ ⟨b, o, none⟩ _ _ hn) (fun _ => set_frozen _ _ _ _ _)
theorem C6.set0 {g : Nat} {w : World} {v0 v1 v2 v3 v4 v5 : Value} (h : C6 w g v0 v1 v2 v3 v4 v5) (x : Value) : C6 (w.setCell ⟨g, 0, none⟩ x) g x v1 v2 v3 v4 v5 := by
  obtain ⟨h0, h1, h2, h3, h4, h5, hf, hl⟩ := h
  have hz := (Below.setCell (p := ⟨g, 0, none⟩) (Below.refl 0 w) (Nat.zero_le _) x).size
  constructor <;> first | (simp [go_sem, *]; done) | (intro o; rw [set_frozen]; exact hf o) | omega
theorem C6.set1 {g : Nat} {w : World} {v0 v1 v2 v3 v4 v5 : Value} (h : C6 w g v0 v1 v2 v3 v4 v5) (x : Value) : C6 (w.setCell ⟨g, 1, none⟩ x) g v0 x v2 v3 v4 v5 := by
  obtain ⟨h0, h1, h2, h3, h4, h5, hf, hl⟩ := h
  have hz := (Below.setCell (p := ⟨g, 1, none⟩) (Below.refl 0 w) (Nat.zero_le _) x).size
  constructor <;> first | (simp [go_sem, *]; done) | (intro o; rw [set_frozen]; exact hf o) | omega
theorem C6.set2 {g : Nat} {w : World} {v0 v1 v2 v3 v4 v5 : Value} (h : C6 w g v0 v1 v2 v3 v4 v5) (x : Value) : C6 (w.setCell ⟨g, 2, none⟩ x) g v0 v1 x v3 v4 v5 := by
  obtain ⟨h0, h1, h2, h3, h4, h5, hf, hl⟩ := h
  have hz := (Below.setCell (p := ⟨g, 2, none⟩) (Below.refl 0 w) (Nat.zero_le _) x).size
  constructor <;> first | (simp [go_sem, *]; done) | (intro o; rw [set_frozen]; exact hf o) | omega
theorem C6.set3 {g : Nat} {w : World} {v0 v1 v2 v3 v4 v5 : Value} (h : C6 w g v0 v1 v2 v3 v4 v5) (x : Value) : C6 (w.setCell ⟨g, 3, none⟩ x) g v0 v1 v2 x v4 v5 := by
  obtain ⟨h0, h1, h2, h3, h4, h5, hf, hl⟩ := h
  have hz := (Below.setCell (p := ⟨g, 3, none⟩) (Below.refl 0 w) (Nat.zero_le _) x).size
  constructor <;> first | (simp [go_sem, *]; done) | (intro o; rw [set_frozen]; exact hf o) | omega
theorem C6.set4 {g : Nat} {w : World} {v0 v1 v2 v3 v4 v5 : Value} (h : C6 w g v0 v1 v2 v3 v4 v5) (x : Value) : C6 (w.setCell ⟨g, 4, none⟩ x) g v0 v1 v2 v3 x v5 := by
  obtain ⟨h0, h1, h2, h3, h4, h5, hf, hl⟩ := h
  have hz := (Below.setCell (p := ⟨g, 4, none⟩) (Below.refl 0 w) (Nat.zero_le _) x).size
  constructor <;> first | (simp [go_sem, *]; done) | (intro o; rw [set_frozen]; exact hf o) | omega
theorem C6.set5 {g : Nat} {w : World} {v0 v1 v2 v3 v4 v5 : Value} (h : C6 w g v0 v1 v2 v3 v4 v5) (x : Value) : C6 (w.setCell ⟨g, 5, none⟩ x) g v0 v1 v2 v3 v4 x := by
  obtain ⟨h0, h1, h2, h3, h4, h5, hf, hl⟩ := h
  have hz := (Below.setCell (p := ⟨g, 5, none⟩) (Below.refl 0 w) (Nat.zero_le _) x).size
  constructor <;> first | (simp [go_sem, *]; done) | (intro o; rw [set_frozen]; exact hf o) | omega
theorem C6.since {W : World} {g : Nat} {v0 v1 v2 v3 v4 v5 : Value} (h : C6 W g v0 v1 v2 v3 v4 v5) : (∀ p : Since W, p.v.cell? ⟨g, 0, none⟩ = some v0) ∧ (∀ p : Since W, p.v.cell? ⟨g, 1, none⟩ = some v1) ∧ (∀ p : Since W, p.v.cell? ⟨g, 2, none⟩ = some v2) ∧ (∀ p : Since W, p.v.cell? ⟨g, 3, none⟩ = some v3) ∧ (∀ p : Since W, p.v.cell? ⟨g, 4, none⟩ = some v4) ∧ (∀ p : Since W, p.v.cell? ⟨g, 5, none⟩ = some v5) :=
  ⟨fun p => (h.carry p.h).c0, fun p => (h.carry p.h).c1, fun p => (h.carry p.h).c2, fun p => (h.carry p.h).c3, fun p => (h.carry p.h).c4, fun p => (h.carry p.h).c5⟩
theorem C6.carry_of {W0 V w1 : World} {g : Nat} {u0 u1 u2 u3 u4 u5 v0 v1 v2 v3 v4 v5 : Value} (_ : C6 W0 g u0 u1 u2 u3 u4 u5) (h : C6 V g v0 v1 v2 v3 v4 v5) (hb : Below V.heap.size V w1) : C6 w1 g v0 v1 v2 v3 v4 v5 := h.carry hb
theorem grp_pos (n : Nat) (sep l : List UInt8) (h : 1 ≤ l.length) : 1 ≤ (grp n sep l).length := by
  match l, h with
  | b :: l, _ => simp [grp]
theorem kind_of {k i : Int} {n : Bool} {c e : Int} {x : ByteArray} (h : vvB k i n c e x = true) : k = 0 ∨ k = 1 ∨ k = 2 := by
  unfold vvB at h
  by_cases h0 : k = 0
  · exact .inl h0
  · by_cases h1 : k = 1
    · exact .inr (.inl h1)
    · by_cases h2 : k = 2
      · exact .inr (.inr h2)
      · rw [if_neg h0, if_neg h1, if_neg h2] at h; cases h
/-- a whole number's text is nothing only where it is asked as a byte, and is none -/
theorem fwL_none {f : ByteArray} {al si : Int} {alt ze : Bool} {wi gr pr : Int} {t : ByteArray} {i : Int} (hs : suitT al si alt ze gr pr t 0 = true) :
    (fwL f al si alt ze wi gr t.data.toList i = []) ↔ (t.data.toList = [99] ∧ ¬ (32 ≤ i ∧ i ≤ 126)) := by
  unfold fwL
  by_cases hc : t.data.toList = [99]
  · rw [if_pos hc]
    unfold byteL
    by_cases h : 32 ≤ i ∧ i ≤ 126
    · rw [if_pos h]
      refine ⟨fun h0 => ?_, fun hh => absurd h hh.2⟩
      have := congrArg List.length h0
      rw [padL_len] at this
      simp only [List.length_nil, List.length_cons] at this
      omega
    · rw [if_neg h]
      exact ⟨fun _ => ⟨hc, h⟩, fun _ => rfl⟩
  · rw [if_neg hc]
    refine ⟨fun h0 => ?_, fun hh => absurd hh.1 hc⟩
    have hT := tyOk_of hs hc
    exfalso
    unfold wholeL at h0
    have := congrArg List.length h0
    rw [padL_len] at this
    have h2 : 1 ≤ (widL (digs (t.data.toList == [88]) (tyBase t.data.toList) i.natAbs) (zuN (fcB f ze) (alW al ze 0) wi.toNat (headL si (decide (i < 0)) alt t.data.toList).length) (tyGrp t.data.toList) (mkL gr)).length := by
      have hp := digs_pos (t.data.toList == [88]) (tyBase t.data.toList) i.natAbs
      unfold widL
      split
      · rw [List.length_append]; omega
      · exact grp_pos _ _ _ (by rw [List.length_append]; omega)
    rw [List.length_nil] at this
    omega
/-- a real's text -/
def frX (ok : Bool) (f : ByteArray) (al si : Int) (alt ze : Bool) (wi gr pr : Int) (t : ByteArray) (n : Bool) (c e : Int) : List UInt8 :=
  if ok then frL (fcB f ze) (alW al ze 1) si alt wi.toNat gr n (amT alt pr t.data.toList n c e).1 (amT alt pr t.data.toList n c e).2.1 (amT alt pr t.data.toList n c e).2.2 else []
theorem frX_eq {R : ByteArray} {f : ByteArray} {al si : Int} {alt ze : Bool} {wi gr pr : Int} {t : ByteArray} {n : Bool} {c e : Int} {ok : Bool} (h0 : ok = false → R = ⟨#[]⟩)
    (h1 : ok = true → ∃ A B T, AmB f al si alt ze wi gr pr t.data.toList n c e A B T ∧ amT alt pr t.data.toList n c e = (A, B, T) ∧ R = ⟨(frL (fcB f ze) (alW al ze 1) si alt wi.toNat gr n A B T).toArray⟩) :
    R = ⟨(frX ok f al si alt ze wi gr pr t n c e).toArray⟩ := by
  cases ok
  · exact h0 rfl
  · obtain ⟨A, B, T, _, ha, hr⟩ := h1 rfl
    rw [hr]
    unfold frX
    rw [ha]
    rfl
def rOk (f : ByteArray) (al si : Int) (alt ze : Bool) (wi gr pr : Int) (t : ByteArray) (n : Bool) (c e : Int) : Bool := grB (vSp f al si wi gr pr t) (suitT al si alt ze gr pr t 1) (Fd.vld ⟨n, c, e⟩)
theorem FormatReal_any (f : ByteArray) (al si : Int) (alt ze : Bool) (wi gr pr : Int) (t : ByteArray) (n : Bool) (c e : Int) (w : World) (hT : PT w) :
    Calls Tryz.prog 18 #[.agg #[.string f, .int .i64 al, .int .i64 si, .bool alt, .bool ze, .int .i64 wi, .int .i64 gr, .int .i64 pr, .string t], .agg #[.bool n, .int .i64 c, .int .i64 e]] w fun r w' => r = .returned (.string ⟨(frX (rOk f al si alt ze wi gr pr t n c e) f al si alt ze wi gr pr t n c e).toArray⟩) ∧ Below w.heap.size w w' := by
  obtain ⟨R, k1, _, h0, h1⟩ := FormatReal_both f al si alt ze wi gr pr t n c e
  unfold rOk
  rw [← frX_eq h0 h1]
  exact k1 w hT
theorem FormatRealS_any (f : ByteArray) (al si : Int) (alt ze : Bool) (wi gr pr : Int) (t : ByteArray) (n : Bool) (c e : Int) (w : World) :
    Calls Tryz.prog 19 #[.agg #[.string f, .int .i64 al, .int .i64 si, .bool alt, .bool ze, .int .i64 wi, .int .i64 gr, .int .i64 pr, .string t], .agg #[.bool n, .int .i64 c, .int .i64 e]] w fun r w' => r = .returned (.string ⟨(frX (rOk f al si alt ze wi gr pr t n c e) f al si alt ze wi gr pr t n c e).toArray⟩) ∧ Below w.heap.size w w' := by
  obtain ⟨R, _, k2, h0, h1⟩ := FormatReal_both f al si alt ze wi gr pr t n c e
  unfold rOk
  rw [← frX_eq h0 h1]
  exact k2 w
/-- whether the value is written, and how -/
def fvB (f : ByteArray) (al si : Int) (alt ze : Bool) (wi gr pr : Int) (t : ByteArray) (k i : Int) (n : Bool) (c e : Int) (x : ByteArray) : Bool := vvB k i n c e x && (suitW (vSp f al si wi gr pr t) al si alt ze gr pr t k && !(decide (k = 0) && (t.data.toList == [99] && !inr i 32 126)))
def fvT (f : ByteArray) (al si : Int) (alt ze : Bool) (wi gr pr : Int) (t : ByteArray) (k i : Int) (n : Bool) (c e : Int) (x : ByteArray) : List UInt8 :=
  if k = 0 then fwL f al si alt ze wi gr t.data.toList i else if k = 1 then frX true f al si alt ze wi gr pr t n c e else (fmR f al ze wi pr x).data.toList
def fvW (f : ByteArray) (al si : Int) (alt ze : Bool) (wi gr pr : Int) (t : ByteArray) (k i : Int) (n : Bool) (c e : Int) (x : ByteArray) : List UInt8 := if fvB f al si alt ze wi gr pr t k i n c e x then fvT f al si alt ze wi gr pr t k i n c e x else []
theorem list_of (x : ByteArray) : (⟨x.data.toList.toArray⟩ : ByteArray) = x := (of_list x).symm
set_option maxRecDepth 100000 in
set_option maxHeartbeats 8000000 in
theorem FormatValue_any (f : ByteArray) (al si : Int) (alt ze : Bool) (wi gr pr : Int) (t : ByteArray) (k i : Int) (n : Bool) (c e : Int) (x : ByteArray) (hx : x.size ≤ 9223372036854775807) (w : World) (hT : PT w) (hD : DT w) :
    Calls Tryz.prog 16 #[.agg #[.string f, .int .i64 al, .int .i64 si, .bool alt, .bool ze, .int .i64 wi, .int .i64 gr, .int .i64 pr, .string t], .agg #[.int .i64 k, .int .i64 i, .bool n, .int .i64 c, .int .i64 e, .string x]] w fun r w' => r = .returned (.tuple #[.string ⟨(fvW f al si alt ze wi gr pr t k i n c e x).toArray⟩, .bool (fvB f al si alt ze wi gr pr t k i n c e x)]) ∧ Below w.heap.size w w' := by
  have kv := fun W => ValidValue_any k i n c e x hx W
  have ks := fun W => SpecSuits_any f al si alt ze wi gr pr t k W
  have za := (C9.new w (.string f) (.int .i64 al) (.int .i64 si) (.bool alt) (.bool ze) (.int .i64 wi) (.int .i64 gr) (.int .i64 pr) (.string t) 24).up (.cells #[.int .i64 k, .int .i64 i, .bool n, .int .i64 c, .int .i64 e, .string x] 33)
  have zv : C6 ((w.alloc (.cells #[.string f, .int .i64 al, .int .i64 si, .bool alt, .bool ze, .int .i64 wi, .int .i64 gr, .int .i64 pr, .string t] 24)).alloc (.cells #[.int .i64 k, .int .i64 i, .bool n, .int .i64 c, .int .i64 e, .string x] 33)) (w.heap.size + 1) (.int .i64 k) (.int .i64 i) (.bool n) (.int .i64 c) (.int .i64 e) (.string x) := by
    have h := C6.new (w.alloc (.cells #[.string f, .int .i64 al, .int .i64 si, .bool alt, .bool ze, .int .i64 wi, .int .i64 gr, .int .i64 pr, .string t] 24)) (.int .i64 k) (.int .i64 i) (.bool n) (.int .i64 c) (.int .i64 e) (.string x) 33
    rw [show (w.alloc (.cells #[.string f, .int .i64 al, .int .i64 si, .bool alt, .bool ze, .int .i64 wi, .int .i64 gr, .int .i64 pr, .string t] 24)).heap.size = w.heap.size + 1 by simp] at h
    exact h
  have hB : Below w.heap.size w ((w.alloc (.cells #[.string f, .int .i64 al, .int .i64 si, .bool alt, .bool ze, .int .i64 wi, .int .i64 gr, .int .i64 pr, .string t] 24)).alloc (.cells #[.int .i64 k, .int .i64 i, .bool n, .int .i64 c, .int .i64 e, .string x] 33)) := ((Below.refl _ _).alloc (Nat.le_refl _) _).alloc (by simp) _
  have zz := za
  obtain ⟨za_x0, za_x1, za_x2, za_x3, za_x4, za_x5, za_x6, za_x7, za_x8, za_xf, za_xl⟩ := zz
  have zz := zv; obtain ⟨zv_c0, zv_c1, zv_c2, zv_c3, zv_c4, zv_c5, zv_fz, zv_lt⟩ := zz
  cases hv : vvB k i n c e x
  · rw [show fvW f al si alt ze wi gr pr t k i n c e x = [] by unfold fvW fvB; rw [hv]; rfl, show fvB f al si alt ze wi gr pr t k i n c e x = false by unfold fvB; rw [hv]; rfl]
    rw [hv] at kv
    have KV := Lib.hid kv
    clear kv ks
    go_enter Tryz.func16, Tryz.ntmps16
    go_wp2_with (first | (go_at_call 27; (with_reducible refine Calls.mono (KV.out _) ?_); rintro r w1 ⟨rfl, hb⟩; replace hB := hB.trans (hb.mono hB.size); have hz := hb.size; replace za := C9.carry za hb; have zz := za; obtain ⟨za_x0, za_x1, za_x2, za_x3, za_x4, za_x5, za_x6, za_x7, za_x8, za_xf, za_xl⟩ := zz; replace zv := C6.carry zv hb; have zz := zv; obtain ⟨zv_c0, zv_c1, zv_c2, zv_c3, zv_c4, zv_c5, zv_fz, zv_lt⟩ := zz))
    all_goals go_ret2
    all_goals exact ⟨rfl, hB⟩
  · cases hs : suitW (vSp f al si wi gr pr t) al si alt ze gr pr t k
    · rw [show fvW f al si alt ze wi gr pr t k i n c e x = [] by unfold fvW fvB; rw [hv, hs]; rfl, show fvB f al si alt ze wi gr pr t k i n c e x = false by unfold fvB; rw [hv, hs]; rfl]
      rw [hv] at kv
      rw [hs] at ks
      have KV := Lib.hid kv; have KS := Lib.hid ks
      clear kv ks
      go_enter Tryz.func16, Tryz.ntmps16
      go_wp2_with (first | (go_at_call 27; (with_reducible refine Calls.mono (KV.out _) ?_); rintro r w1 ⟨rfl, hb⟩; replace hB := hB.trans (hb.mono hB.size); have hz := hb.size; replace za := C9.carry za hb; have zz := za; obtain ⟨za_x0, za_x1, za_x2, za_x3, za_x4, za_x5, za_x6, za_x7, za_x8, za_xf, za_xl⟩ := zz; replace zv := C6.carry zv hb; have zz := zv; obtain ⟨zv_c0, zv_c1, zv_c2, zv_c3, zv_c4, zv_c5, zv_fz, zv_lt⟩ := zz) | (go_at_call 15; (with_reducible refine Calls.mono (KS.out _) ?_); rintro r w1 ⟨rfl, hb⟩; replace hB := hB.trans (hb.mono hB.size); have hz := hb.size; replace za := C9.carry za hb; have zz := za; obtain ⟨za_x0, za_x1, za_x2, za_x3, za_x4, za_x5, za_x6, za_x7, za_x8, za_xf, za_xl⟩ := zz; replace zv := C6.carry zv hb; have zz := zv; obtain ⟨zv_c0, zv_c1, zv_c2, zv_c3, zv_c4, zv_c5, zv_fz, zv_lt⟩ := zz))
      all_goals go_ret2
      all_goals exact ⟨rfl, hB⟩
    · have hk := kind_of hv
      have hs' := hs
      unfold suitW at hs'
      simp only [Bool.and_eq_true] at hs'
      obtain ⟨hvs, hst⟩ := hs'
      rcases hk with rfl | rfl | rfl
      · have hi : inr i (-999999999999) 999999999999 = true := by
          unfold vvB at hv
          rw [if_pos rfl] at hv
          simp only [Bool.and_eq_true] at hv
          exact hv.1
        have kf := fun W h => FormatWhole_any f al si alt ze wi gr pr t i W h
        rw [show fwOk (vSp f al si wi gr pr t) al si alt ze gr pr t i = true by unfold fwOk; rw [hs, hi]; rfl, show fwR true f al si alt ze wi gr t.data.toList i = fwL f al si alt ze wi gr t.data.toList i from rfl] at kf
        have hN := fwL_none (f := f) (wi := wi) (i := i) hst
        by_cases hb : t.data.toList = [99] ∧ ¬ (32 ≤ i ∧ i ≤ 126)
        · have hbi : inr i 32 126 = false := by simp [inr]; omega
          rw [show fvW f al si alt ze wi gr pr t 0 i n c e x = [] by unfold fvW fvB; rw [hv, hs, hb.1, hbi]; rfl, show fvB f al si alt ze wi gr pr t 0 i n c e x = false by unfold fvB; rw [hv, hs, hb.1, hbi]; rfl]
          rw [hN.2 hb] at kf
          rw [hv] at kv
          rw [hs] at ks
          have KV := Lib.hid kv; have KS := Lib.hid ks; have KF := Lib.hid kf
          clear kv ks kf hN hv hs hvs hst hi hb hbi
          go_enter Tryz.func16, Tryz.ntmps16
          go_wp2_with (first | (go_at_call 27; (with_reducible refine Calls.mono (KV.out _) ?_); rintro r w1 ⟨rfl, hb⟩; replace hB := hB.trans (hb.mono hB.size); have hz := hb.size; replace za := C9.carry za hb; have zz := za; obtain ⟨za_x0, za_x1, za_x2, za_x3, za_x4, za_x5, za_x6, za_x7, za_x8, za_xf, za_xl⟩ := zz; replace zv := C6.carry zv hb; have zz := zv; obtain ⟨zv_c0, zv_c1, zv_c2, zv_c3, zv_c4, zv_c5, zv_fz, zv_lt⟩ := zz) | (go_at_call 15; (with_reducible refine Calls.mono (KS.out _) ?_); rintro r w1 ⟨rfl, hb⟩; replace hB := hB.trans (hb.mono hB.size); have hz := hb.size; replace za := C9.carry za hb; have zz := za; obtain ⟨za_x0, za_x1, za_x2, za_x3, za_x4, za_x5, za_x6, za_x7, za_x8, za_xf, za_xl⟩ := zz; replace zv := C6.carry zv hb; have zz := zv; obtain ⟨zv_c0, zv_c1, zv_c2, zv_c3, zv_c4, zv_c5, zv_fz, zv_lt⟩ := zz) | (go_at_call 32; (with_reducible refine Calls.mono (KF.out _ (hD.on hB)) ?_); rintro r w1 ⟨rfl, hb⟩; replace hB := hB.trans (hb.mono hB.size); have hz := hb.size; replace za := C9.carry za hb; have zz := za; obtain ⟨za_x0, za_x1, za_x2, za_x3, za_x4, za_x5, za_x6, za_x7, za_x8, za_xf, za_xl⟩ := zz; replace zv := C6.carry zv hb; have zz := zv; obtain ⟨zv_c0, zv_c1, zv_c2, zv_c3, zv_c4, zv_c5, zv_fz, zv_lt⟩ := zz))
          all_goals go_ret2
          all_goals exact ⟨rfl, hB⟩
        · have hbb : (t.data.toList == [99] && !inr i 32 126) = false := by
            rw [← Bool.not_eq_true]
            intro h
            simp only [Bool.and_eq_true, beq_iff_eq, Bool.not_eq_true'] at h
            refine hb ⟨h.1, fun hh => ?_⟩
            have : inr i 32 126 = true := by simp [inr]; omega
            rw [h.2] at this
            cases this
          have hF : fvB f al si alt ze wi gr pr t 0 i n c e x = true := by unfold fvB; rw [hv, hs, hbb]; rfl
          rw [show fvW f al si alt ze wi gr pr t 0 i n c e x = fwL f al si alt ze wi gr t.data.toList i by unfold fvW; rw [hF]; rfl, hF]
          have hXe : (fwL f al si alt ze wi gr t.data.toList i).isEmpty = false := by
            rw [List.isEmpty_eq_false_iff]
            exact fun h => hb (hN.1 h)
          rw [hv] at kv
          rw [hs] at ks
          generalize fwL f al si alt ze wi gr t.data.toList i = X at *
          have KV := Lib.hid kv; have KS := Lib.hid ks; have KF := Lib.hid kf
          clear kv ks kf hN hv hs hvs hst hi hb hbb hF
          go_enter Tryz.func16, Tryz.ntmps16
          go_wp2_with (first | (go_at_call 27; (with_reducible refine Calls.mono (KV.out _) ?_); rintro r w1 ⟨rfl, hb⟩; replace hB := hB.trans (hb.mono hB.size); have hz := hb.size; replace za := C9.carry za hb; have zz := za; obtain ⟨za_x0, za_x1, za_x2, za_x3, za_x4, za_x5, za_x6, za_x7, za_x8, za_xf, za_xl⟩ := zz; replace zv := C6.carry zv hb; have zz := zv; obtain ⟨zv_c0, zv_c1, zv_c2, zv_c3, zv_c4, zv_c5, zv_fz, zv_lt⟩ := zz) | (go_at_call 15; (with_reducible refine Calls.mono (KS.out _) ?_); rintro r w1 ⟨rfl, hb⟩; replace hB := hB.trans (hb.mono hB.size); have hz := hb.size; replace za := C9.carry za hb; have zz := za; obtain ⟨za_x0, za_x1, za_x2, za_x3, za_x4, za_x5, za_x6, za_x7, za_x8, za_xf, za_xl⟩ := zz; replace zv := C6.carry zv hb; have zz := zv; obtain ⟨zv_c0, zv_c1, zv_c2, zv_c3, zv_c4, zv_c5, zv_fz, zv_lt⟩ := zz) | (go_at_call 32; (with_reducible refine Calls.mono (KF.out _ (hD.on hB)) ?_); rintro r w1 ⟨rfl, hb⟩; replace hB := hB.trans (hb.mono hB.size); have hz := hb.size; replace za := C9.carry za hb; have zz := za; obtain ⟨za_x0, za_x1, za_x2, za_x3, za_x4, za_x5, za_x6, za_x7, za_x8, za_xf, za_xl⟩ := zz; replace zv := C6.carry zv hb; have zz := zv; obtain ⟨zv_c0, zv_c1, zv_c2, zv_c3, zv_c4, zv_c5, zv_fz, zv_lt⟩ := zz))
          all_goals go_ret2
          all_goals exact ⟨rfl, hB⟩
      · have hd : Fd.vld ⟨n, c, e⟩ = true := by
          unfold vvB at hv
          rw [if_neg (by decide), if_pos rfl] at hv
          simp only [Bool.and_eq_true] at hv
          exact hv.2.1
        have kf := fun W h => FormatReal_any f al si alt ze wi gr pr t n c e W h
        rw [show rOk f al si alt ze wi gr pr t n c e = true by unfold rOk grB; rw [hvs, hst, hd]; rfl] at kf
        have hF : fvB f al si alt ze wi gr pr t 1 i n c e x = true := by unfold fvB; rw [hv, hs]; rfl
        rw [show fvW f al si alt ze wi gr pr t 1 i n c e x = frX true f al si alt ze wi gr pr t n c e by unfold fvW; rw [hF]; rfl, hF]
        rw [hv] at kv
        rw [hs] at ks
        generalize frX true f al si alt ze wi gr pr t n c e = X at *
        have KV := Lib.hid kv; have KS := Lib.hid ks; have KF := Lib.hid kf
        clear kv ks kf hv hs hvs hst hd hF
        go_enter Tryz.func16, Tryz.ntmps16
        go_wp2_with (first | (go_at_call 27; (with_reducible refine Calls.mono (KV.out _) ?_); rintro r w1 ⟨rfl, hb⟩; replace hB := hB.trans (hb.mono hB.size); have hz := hb.size; replace za := C9.carry za hb; have zz := za; obtain ⟨za_x0, za_x1, za_x2, za_x3, za_x4, za_x5, za_x6, za_x7, za_x8, za_xf, za_xl⟩ := zz; replace zv := C6.carry zv hb; have zz := zv; obtain ⟨zv_c0, zv_c1, zv_c2, zv_c3, zv_c4, zv_c5, zv_fz, zv_lt⟩ := zz) | (go_at_call 15; (with_reducible refine Calls.mono (KS.out _) ?_); rintro r w1 ⟨rfl, hb⟩; replace hB := hB.trans (hb.mono hB.size); have hz := hb.size; replace za := C9.carry za hb; have zz := za; obtain ⟨za_x0, za_x1, za_x2, za_x3, za_x4, za_x5, za_x6, za_x7, za_x8, za_xf, za_xl⟩ := zz; replace zv := C6.carry zv hb; have zz := zv; obtain ⟨zv_c0, zv_c1, zv_c2, zv_c3, zv_c4, zv_c5, zv_fz, zv_lt⟩ := zz) | (go_at_call 18; (with_reducible refine Calls.mono (KF.out _ (hT.on hB)) ?_); rintro r w1 ⟨rfl, hb⟩; replace hB := hB.trans (hb.mono hB.size); have hz := hb.size; replace za := C9.carry za hb; have zz := za; obtain ⟨za_x0, za_x1, za_x2, za_x3, za_x4, za_x5, za_x6, za_x7, za_x8, za_xf, za_xl⟩ := zz; replace zv := C6.carry zv hb; have zz := zv; obtain ⟨zv_c0, zv_c1, zv_c2, zv_c3, zv_c4, zv_c5, zv_fz, zv_lt⟩ := zz))
        all_goals go_ret2
        all_goals exact ⟨rfl, hB⟩
      · have hd : vtB x = true := by
          unfold vvB at hv
          rw [if_neg (by decide), if_neg (by decide), if_pos rfl] at hv
          simp only [Bool.and_eq_true] at hv
          exact hv.2.2
        have kf := fun W => FormatText_any f al si alt ze wi gr pr t x hx W
        rw [hs, hd, show fmW (true && true) f al ze wi pr x = fmR f al ze wi pr x from rfl] at kf
        have hF : fvB f al si alt ze wi gr pr t 2 i n c e x = true := by unfold fvB; rw [hv, hs]; rfl
        rw [show fvW f al si alt ze wi gr pr t 2 i n c e x = (fmR f al ze wi pr x).data.toList by unfold fvW; rw [hF]; rfl, hF, list_of]
        rw [hv] at kv
        rw [hs] at ks
        generalize fmR f al ze wi pr x = X at *
        have KV := Lib.hid kv; have KS := Lib.hid ks; have KF := Lib.hid kf
        clear kv ks kf hv hs hvs hst hd hF
        go_enter Tryz.func16, Tryz.ntmps16
        go_wp2_with (first | (go_at_call 27; (with_reducible refine Calls.mono (KV.out _) ?_); rintro r w1 ⟨rfl, hb⟩; replace hB := hB.trans (hb.mono hB.size); have hz := hb.size; replace za := C9.carry za hb; have zz := za; obtain ⟨za_x0, za_x1, za_x2, za_x3, za_x4, za_x5, za_x6, za_x7, za_x8, za_xf, za_xl⟩ := zz; replace zv := C6.carry zv hb; have zz := zv; obtain ⟨zv_c0, zv_c1, zv_c2, zv_c3, zv_c4, zv_c5, zv_fz, zv_lt⟩ := zz) | (go_at_call 15; (with_reducible refine Calls.mono (KS.out _) ?_); rintro r w1 ⟨rfl, hb⟩; replace hB := hB.trans (hb.mono hB.size); have hz := hb.size; replace za := C9.carry za hb; have zz := za; obtain ⟨za_x0, za_x1, za_x2, za_x3, za_x4, za_x5, za_x6, za_x7, za_x8, za_xf, za_xl⟩ := zz; replace zv := C6.carry zv hb; have zz := zv; obtain ⟨zv_c0, zv_c1, zv_c2, zv_c3, zv_c4, zv_c5, zv_fz, zv_lt⟩ := zz) | (go_at_call 33; (with_reducible refine Calls.mono (KF.out _) ?_); rintro r w1 ⟨rfl, hb⟩; replace hB := hB.trans (hb.mono hB.size); have hz := hb.size; replace za := C9.carry za hb; have zz := za; obtain ⟨za_x0, za_x1, za_x2, za_x3, za_x4, za_x5, za_x6, za_x7, za_x8, za_xf, za_xl⟩ := zz; replace zv := C6.carry zv hb; have zz := zv; obtain ⟨zv_c0, zv_c1, zv_c2, zv_c3, zv_c4, zv_c5, zv_fz, zv_lt⟩ := zz))
        all_goals go_ret2
        all_goals exact ⟨rfl, hB⟩
end Go.Proofs.YtejganoipbblcaaGreatDoor
