import Derived.Test.YtfnmlcgnbmphlaaGreatDoorG14
namespace Go.Proofs.YtfnmlcgnbmphlaaGreatDoor
open Go Go.RowKit
theorem kind_one {b : UInt8} (h : (kindB b == 1) = true) : b = 102 ∨ b = 101 ∨ b = 69 ∨ b = 103 ∨ b = 71 ∨ b = 37 := by
  have := all_bytes (fun b => !(kindB b == 1) || (b == 102 || (b == 101 || (b == 69 || (b == 103 || (b == 71 || b == 37)))))) (by kernel_rfl) b
  simp only [h, Bool.not_true, Bool.false_or, Bool.or_eq_true, beq_iff_eq] at this
  exact this
theorem tyR_of {al si : Int} {alt ze : Bool} {gr pr : Int} {t : ByteArray} (h : suitT al si alt ze gr pr t 1 = true) : TyR t.data.toList := by
  unfold suitT at h
  split at h
  · rename_i e; rw [e]; exact .inl rfl
  · rename_i b e
    rw [e]
    simp only [Bool.and_eq_true] at h
    rcases kind_one h.1 with rfl | rfl | rfl | rfl | rfl | rfl
    · exact .inr (.inl rfl)
    · exact .inr (.inr (.inl rfl))
    · exact .inr (.inr (.inr (.inl rfl)))
    · exact .inr (.inr (.inr (.inr (.inl rfl))))
    · exact .inr (.inr (.inr (.inr (.inr (.inl rfl)))))
    · exact .inr (.inr (.inr (.inr (.inr (.inr rfl)))))
  · cases h
def grB (v s d : Bool) : Bool := v && (s && d)
set_option maxRecDepth 100000 in
set_option maxHeartbeats 8000000 in
theorem goodRealS_any (f : ByteArray) (al si : Int) (alt ze : Bool) (wi gr pr : Int) (t : ByteArray) (n : Bool) (c e : Int) (w : World) :
    Calls Tryz.prog 88 #[.agg #[.string f, .int .i64 al, .int .i64 si, .bool alt, .bool ze, .int .i64 wi, .int .i64 gr, .int .i64 pr, .string t], .agg #[.bool n, .int .i64 c, .int .i64 e]] w fun r w' => r = .returned (.bool (grB (vSp f al si wi gr pr t) (suitT al si alt ze gr pr t 1) (Fd.vld ⟨n, c, e⟩))) ∧ Below w.heap.size w w' := by
  have kv := fun W => validSpecS_any f al si alt ze wi gr pr t W
  have kd := fun W => validS_any n c e W
  have za := (C9.new w (.string f) (.int .i64 al) (.int .i64 si) (.bool alt) (.bool ze) (.int .i64 wi) (.int .i64 gr) (.int .i64 pr) (.string t) 42).up (.cells #[.bool n, .int .i64 c, .int .i64 e] 25)
  have zd : C3 ((w.alloc (.cells #[.string f, .int .i64 al, .int .i64 si, .bool alt, .bool ze, .int .i64 wi, .int .i64 gr, .int .i64 pr, .string t] 42)).alloc (.cells #[.bool n, .int .i64 c, .int .i64 e] 25)) (w.heap.size + 1) (.bool n) (.int .i64 c) (.int .i64 e) := by
    have h := C3.new (w.alloc (.cells #[.string f, .int .i64 al, .int .i64 si, .bool alt, .bool ze, .int .i64 wi, .int .i64 gr, .int .i64 pr, .string t] 42)) (.bool n) (.int .i64 c) (.int .i64 e) 25
    rw [show (w.alloc (.cells #[.string f, .int .i64 al, .int .i64 si, .bool alt, .bool ze, .int .i64 wi, .int .i64 gr, .int .i64 pr, .string t] 42)).heap.size = w.heap.size + 1 by simp] at h
    exact h
  have hB : Below w.heap.size w ((w.alloc (.cells #[.string f, .int .i64 al, .int .i64 si, .bool alt, .bool ze, .int .i64 wi, .int .i64 gr, .int .i64 pr, .string t] 42)).alloc (.cells #[.bool n, .int .i64 c, .int .i64 e] 25)) := ((Below.refl _ _).alloc (Nat.le_refl _) _).alloc (by simp) _
  unfold grB
  have zz := za
  obtain ⟨za_x0, za_x1, za_x2, za_x3, za_x4, za_x5, za_x6, za_x7, za_x8, za_xf, za_xl⟩ := zz
  have zz := zd
  obtain ⟨zd_0, zd_1, zd_2, zd_3, zd_4, zd_5, zd_6⟩ := zz
  cases hv : vSp f al si wi gr pr t
  · rw [Bool.false_and]
    rw [hv] at kv
    have KV := Lib.hid kv
    clear kv kd hv
    go_enter Tryz.func88, Tryz.ntmps88
    go_wp2_with (first | (go_at_call 117; (with_reducible refine Calls.mono (KV.out _) ?_); rintro r w1 ⟨rfl, hb⟩; replace hB := hB.trans (hb.mono hB.size); have hz := hb.size; replace za := C9.carry za hb; have zz := za; obtain ⟨za_x0, za_x1, za_x2, za_x3, za_x4, za_x5, za_x6, za_x7, za_x8, za_xf, za_xl⟩ := zz; replace zd := C3.carry zd hb; have zz := zd; obtain ⟨zd_0, zd_1, zd_2, zd_3, zd_4, zd_5, zd_6⟩ := zz))
    all_goals go_ret
    all_goals exact ⟨rfl, hB⟩
  · have V := vSp_open hv
    have ks := fun W => suitsS_any f al si alt ze wi gr pr t 1 W V.pr0 V.type
    rw [hv] at kv
    rw [Bool.true_and]
    clear V hv
    generalize suitT al si alt ze gr pr t 1 = s at *
    generalize Fd.vld ⟨n, c, e⟩ = d at *
    have KV := Lib.hid kv; have KS := Lib.hid ks; have KD := Lib.hid kd
    clear kv ks kd
    cases s
    · go_enter Tryz.func88, Tryz.ntmps88
      go_wp2_with (first | (go_at_call 117; (with_reducible refine Calls.mono (KV.out _) ?_); rintro r w1 ⟨rfl, hb⟩; replace hB := hB.trans (hb.mono hB.size); have hz := hb.size; replace za := C9.carry za hb; have zz := za; obtain ⟨za_x0, za_x1, za_x2, za_x3, za_x4, za_x5, za_x6, za_x7, za_x8, za_xf, za_xl⟩ := zz; replace zd := C3.carry zd hb; have zz := zd; obtain ⟨zd_0, zd_1, zd_2, zd_3, zd_4, zd_5, zd_6⟩ := zz) | (go_at_call 118; (with_reducible refine Calls.mono (KS.out _) ?_); rintro r w1 ⟨rfl, hb⟩; replace hB := hB.trans (hb.mono hB.size); have hz := hb.size; replace za := C9.carry za hb; have zz := za; obtain ⟨za_x0, za_x1, za_x2, za_x3, za_x4, za_x5, za_x6, za_x7, za_x8, za_xf, za_xl⟩ := zz; replace zd := C3.carry zd hb; have zz := zd; obtain ⟨zd_0, zd_1, zd_2, zd_3, zd_4, zd_5, zd_6⟩ := zz))
      all_goals go_ret
      all_goals exact ⟨rfl, hB⟩
    · rw [Bool.true_and]
      go_enter Tryz.func88, Tryz.ntmps88
      go_wp2_with (first | (go_at_call 117; (with_reducible refine Calls.mono (KV.out _) ?_); rintro r w1 ⟨rfl, hb⟩; replace hB := hB.trans (hb.mono hB.size); have hz := hb.size; replace za := C9.carry za hb; have zz := za; obtain ⟨za_x0, za_x1, za_x2, za_x3, za_x4, za_x5, za_x6, za_x7, za_x8, za_xf, za_xl⟩ := zz; replace zd := C3.carry zd hb; have zz := zd; obtain ⟨zd_0, zd_1, zd_2, zd_3, zd_4, zd_5, zd_6⟩ := zz) | (go_at_call 118; (with_reducible refine Calls.mono (KS.out _) ?_); rintro r w1 ⟨rfl, hb⟩; replace hB := hB.trans (hb.mono hB.size); have hz := hb.size; replace za := C9.carry za hb; have zz := za; obtain ⟨za_x0, za_x1, za_x2, za_x3, za_x4, za_x5, za_x6, za_x7, za_x8, za_xf, za_xl⟩ := zz; replace zd := C3.carry zd hb; have zz := zd; obtain ⟨zd_0, zd_1, zd_2, zd_3, zd_4, zd_5, zd_6⟩ := zz) | (go_at_call 77; (with_reducible refine Calls.mono (KD.out _) ?_); rintro r w1 ⟨rfl, hb⟩; replace hB := hB.trans (hb.mono hB.size); have hz := hb.size; replace za := C9.carry za hb; have zz := za; obtain ⟨za_x0, za_x1, za_x2, za_x3, za_x4, za_x5, za_x6, za_x7, za_x8, za_xf, za_xl⟩ := zz; replace zd := C3.carry zd hb; have zz := zd; obtain ⟨zd_0, zd_1, zd_2, zd_3, zd_4, zd_5, zd_6⟩ := zz))
      all_goals go_ret
      all_goals exact ⟨rfl, hB⟩
set_option maxRecDepth 100000 in
set_option maxHeartbeats 8000000 in
/-- both sides answer one text at every specification and decimal -/
theorem FormatReal_both (f : ByteArray) (al si : Int) (alt ze : Bool) (wi gr pr : Int) (t : ByteArray) (n : Bool) (c e : Int) :
    ∃ R : ByteArray, (∀ W, PT W → Calls Tryz.prog 34 #[.agg #[.string f, .int .i64 al, .int .i64 si, .bool alt, .bool ze, .int .i64 wi, .int .i64 gr, .int .i64 pr, .string t], .agg #[.bool n, .int .i64 c, .int .i64 e]] W fun r w' => r = .returned (.string R) ∧ Below W.heap.size W w') ∧
      (∀ W, Calls Tryz.prog 31 #[.agg #[.string f, .int .i64 al, .int .i64 si, .bool alt, .bool ze, .int .i64 wi, .int .i64 gr, .int .i64 pr, .string t], .agg #[.bool n, .int .i64 c, .int .i64 e]] W fun r w' => r = .returned (.string R) ∧ Below W.heap.size W w') ∧
      (grB (vSp f al si wi gr pr t) (suitT al si alt ze gr pr t 1) (Fd.vld ⟨n, c, e⟩) = false → R = ⟨#[]⟩) ∧
      (grB (vSp f al si wi gr pr t) (suitT al si alt ze gr pr t 1) (Fd.vld ⟨n, c, e⟩) = true → ∃ A B T, AmB f al si alt ze wi gr pr t.data.toList n c e A B T ∧ R = ⟨(frL (fcB f ze) (alW al ze 1) si alt wi.toNat gr n A B T).toArray⟩) := by
  have kg := fun W => goodRealS_any f al si alt ze wi gr pr t n c e W
  have ks := fun W => SpecSuits_any f al si alt ze wi gr pr t 1 W
  have kd := fun W => ValidDec_any n c e W
  cases hb : grB (vSp f al si wi gr pr t) (suitT al si alt ze gr pr t 1) (Fd.vld ⟨n, c, e⟩)
  · rw [hb] at kg
    refine ⟨⟨#[]⟩, fun w hP => ?_, fun w => ?_, fun _ => rfl, fun h => by cases h⟩
    · have hs : (suitW (vSp f al si wi gr pr t) al si alt ze gr pr t 1 && Fd.vld ⟨n, c, e⟩) = false := by
        unfold grB at hb
        unfold suitW
        rw [Bool.and_assoc]; exact hb
      clear hb kg
      generalize suitW (vSp f al si wi gr pr t) al si alt ze gr pr t 1 = s at *
      generalize Fd.vld ⟨n, c, e⟩ = d at *
      have za := (C9.new w (.string f) (.int .i64 al) (.int .i64 si) (.bool alt) (.bool ze) (.int .i64 wi) (.int .i64 gr) (.int .i64 pr) (.string t) 42).up (.cells #[.bool n, .int .i64 c, .int .i64 e] 25)
      have zd : C3 ((w.alloc (.cells #[.string f, .int .i64 al, .int .i64 si, .bool alt, .bool ze, .int .i64 wi, .int .i64 gr, .int .i64 pr, .string t] 42)).alloc (.cells #[.bool n, .int .i64 c, .int .i64 e] 25)) (w.heap.size + 1) (.bool n) (.int .i64 c) (.int .i64 e) := by
        have h := C3.new (w.alloc (.cells #[.string f, .int .i64 al, .int .i64 si, .bool alt, .bool ze, .int .i64 wi, .int .i64 gr, .int .i64 pr, .string t] 42)) (.bool n) (.int .i64 c) (.int .i64 e) 25
        rw [show (w.alloc (.cells #[.string f, .int .i64 al, .int .i64 si, .bool alt, .bool ze, .int .i64 wi, .int .i64 gr, .int .i64 pr, .string t] 42)).heap.size = w.heap.size + 1 by simp] at h
        exact h
      have hB : Below w.heap.size w ((w.alloc (.cells #[.string f, .int .i64 al, .int .i64 si, .bool alt, .bool ze, .int .i64 wi, .int .i64 gr, .int .i64 pr, .string t] 42)).alloc (.cells #[.bool n, .int .i64 c, .int .i64 e] 25)) := ((Below.refl _ _).alloc (Nat.le_refl _) _).alloc (by simp) _
      have KS := Lib.hid ks; have KD := Lib.hid kd
      clear ks kd
      have zz := za
      obtain ⟨za_x0, za_x1, za_x2, za_x3, za_x4, za_x5, za_x6, za_x7, za_x8, za_xf, za_xl⟩ := zz
      have zz := zd
      obtain ⟨zd_0, zd_1, zd_2, zd_3, zd_4, zd_5, zd_6⟩ := zz
      cases s
      · clear hs
        go_enter Tryz.func34, Tryz.ntmps34
        go_wp2_with (first | (go_at_call 45; (with_reducible refine Calls.mono (KS.out _) ?_); rintro r w1 ⟨rfl, hb⟩; replace hB := hB.trans (hb.mono hB.size); have hz := hb.size; replace za := C9.carry za hb; have zz := za; obtain ⟨za_x0, za_x1, za_x2, za_x3, za_x4, za_x5, za_x6, za_x7, za_x8, za_xf, za_xl⟩ := zz; replace zd := C3.carry zd hb; have zz := zd; obtain ⟨zd_0, zd_1, zd_2, zd_3, zd_4, zd_5, zd_6⟩ := zz))
        all_goals go_ret
        all_goals exact ⟨rfl, hB⟩
      · have hd : d = false := by simpa using hs
        subst hd
        clear hs
        go_enter Tryz.func34, Tryz.ntmps34
        go_wp2_with (first | (go_at_call 45; (with_reducible refine Calls.mono (KS.out _) ?_); rintro r w1 ⟨rfl, hb⟩; replace hB := hB.trans (hb.mono hB.size); have hz := hb.size; replace za := C9.carry za hb; have zz := za; obtain ⟨za_x0, za_x1, za_x2, za_x3, za_x4, za_x5, za_x6, za_x7, za_x8, za_xf, za_xl⟩ := zz; replace zd := C3.carry zd hb; have zz := zd; obtain ⟨zd_0, zd_1, zd_2, zd_3, zd_4, zd_5, zd_6⟩ := zz) | (go_at_call 69; (with_reducible refine Calls.mono (KD.out _) ?_); rintro r w1 ⟨rfl, hb⟩; replace hB := hB.trans (hb.mono hB.size); have hz := hb.size; replace za := C9.carry za hb; have zz := za; obtain ⟨za_x0, za_x1, za_x2, za_x3, za_x4, za_x5, za_x6, za_x7, za_x8, za_xf, za_xl⟩ := zz; replace zd := C3.carry zd hb; have zz := zd; obtain ⟨zd_0, zd_1, zd_2, zd_3, zd_4, zd_5, zd_6⟩ := zz))
        all_goals go_ret
        all_goals exact ⟨rfl, hB⟩
    · have KG := Lib.hid kg
      clear kg ks kd hb
      have za := (C9.new w (.string f) (.int .i64 al) (.int .i64 si) (.bool alt) (.bool ze) (.int .i64 wi) (.int .i64 gr) (.int .i64 pr) (.string t) 42).up (.cells #[.bool n, .int .i64 c, .int .i64 e] 25)
      have zd : C3 ((w.alloc (.cells #[.string f, .int .i64 al, .int .i64 si, .bool alt, .bool ze, .int .i64 wi, .int .i64 gr, .int .i64 pr, .string t] 42)).alloc (.cells #[.bool n, .int .i64 c, .int .i64 e] 25)) (w.heap.size + 1) (.bool n) (.int .i64 c) (.int .i64 e) := by
        have h := C3.new (w.alloc (.cells #[.string f, .int .i64 al, .int .i64 si, .bool alt, .bool ze, .int .i64 wi, .int .i64 gr, .int .i64 pr, .string t] 42)) (.bool n) (.int .i64 c) (.int .i64 e) 25
        rw [show (w.alloc (.cells #[.string f, .int .i64 al, .int .i64 si, .bool alt, .bool ze, .int .i64 wi, .int .i64 gr, .int .i64 pr, .string t] 42)).heap.size = w.heap.size + 1 by simp] at h
        exact h
      have hB : Below w.heap.size w ((w.alloc (.cells #[.string f, .int .i64 al, .int .i64 si, .bool alt, .bool ze, .int .i64 wi, .int .i64 gr, .int .i64 pr, .string t] 42)).alloc (.cells #[.bool n, .int .i64 c, .int .i64 e] 25)) := ((Below.refl _ _).alloc (Nat.le_refl _) _).alloc (by simp) _
      go_enter Tryz.func31, Tryz.ntmps31
      go_wp2_with (first | (go_at_call 88; (with_reducible refine Calls.mono (KG.out _) ?_); rintro r w1 ⟨rfl, hb⟩; replace hB := hB.trans (hb.mono hB.size); have hz := hb.size; replace za := C9.carry za hb; have zz := za; obtain ⟨za_x0, za_x1, za_x2, za_x3, za_x4, za_x5, za_x6, za_x7, za_x8, za_xf, za_xl⟩ := zz; replace zd := C3.carry zd hb; have zz := zd; obtain ⟨zd_0, zd_1, zd_2, zd_3, zd_4, zd_5, zd_6⟩ := zz))
      all_goals go_ret
      all_goals exact ⟨rfl, hB⟩
  · have h3 := hb
    unfold grB at h3
    simp only [Bool.and_eq_true] at h3
    obtain ⟨hv, hs, hd⟩ := h3
    have V := vSp_open hv
    have hw0 := V.wi0; have hw30 := V.wi30
    have hT := tyR_of hs
    have et := of_list t
    obtain ⟨A, B, T, hA⟩ := am_ex f al si alt ze wi gr pr t.data.toList n c e hd V.pr0 V.pr9 hT
    have hsw : suitW (vSp f al si wi gr pr t) al si alt ze gr pr t 1 = true := by unfold suitW; rw [hv, hs]; rfl
    have hal := alW_in (al := al) ze V.al0 V.al4
    have hal1 : alW al ze 1 = alW al ze 0 := by
      unfold alW
      split
      · cases ze <;> rfl
      · rfl
    refine ⟨⟨(frL (fcB f ze) (alW al ze 1) si alt wi.toNat gr n A B T).toArray⟩, fun W hP => ?_, fun w => ?_, (fun h => by cases h), fun _ => ⟨A, B, T, hA, rfl⟩⟩
    · rw [hsw] at ks
      rw [hd] at kd
      have kf := fun W => FillFor_any f al si alt ze wi gr pr t W
      rw [hv, fill_one V.fill] at kf
      have ka := fun W => AlignFor_any f al si alt ze wi gr pr t 1 W
      rw [hsw] at ka
      obtain ⟨L, am, _⟩ := hA
      obtain ⟨m, rfl⟩ := Int.eq_ofNat_of_zero_le hw0
      rw [et] at ks kf ka ⊢
      have h := FormatReal_ok f al si alt ze m gr pr t.data.toList n c e A B T (fcB f ze) (alW al ze 1) W hP L (by omega) V.gr0 V.gr2 (by rw [hal1]; exact hal) ks kd am kf ka
      exact h
    · rw [hb] at kg
      have kf := fun W => fillOfS_any f al si alt ze wi gr pr t W
      rw [fill_one V.fill] at kf
      have ka := fun W => alignOfS_any f al si alt ze wi gr pr t 0 W
      rw [← hal1] at ka
      obtain ⟨L, _, am⟩ := hA
      have kx : ∀ W, Calls Tryz.prog 89 #[.agg #[.string f, .int .i64 al, .int .i64 si, .bool alt, .bool ze, .int .i64 wi, .int .i64 gr, .int .i64 pr, .string t], .agg #[.bool n, .int .i64 c, .int .i64 e]] W fun r w' => r = .returned (.string ⟨(frL (fcB f ze) (alW al ze 1) si alt wi.toNat gr n A B T).toArray⟩) ∧ Below W.heap.size W w' := by
        intro W
        obtain ⟨m, rfl⟩ := Int.eq_ofNat_of_zero_le hw0
        rw [et] at kf ka ⊢
        exact formatRealS_ok f al si alt ze m gr pr t.data.toList n c e A B T (fcB f ze) (alW al ze 1) W L (by omega) V.gr0 V.gr2 (by rw [hal1]; exact hal) hT am kf ka
      generalize (⟨(frL (fcB f ze) (alW al ze 1) si alt wi.toNat gr n A B T).toArray⟩ : ByteArray) = R at *
      have KG := Lib.hid kg; have KX := Lib.hid kx
      clear kg kx ks kd kf ka am L hb hv hs hd V hT et
      have za := (C9.new w (.string f) (.int .i64 al) (.int .i64 si) (.bool alt) (.bool ze) (.int .i64 wi) (.int .i64 gr) (.int .i64 pr) (.string t) 42).up (.cells #[.bool n, .int .i64 c, .int .i64 e] 25)
      have zd : C3 ((w.alloc (.cells #[.string f, .int .i64 al, .int .i64 si, .bool alt, .bool ze, .int .i64 wi, .int .i64 gr, .int .i64 pr, .string t] 42)).alloc (.cells #[.bool n, .int .i64 c, .int .i64 e] 25)) (w.heap.size + 1) (.bool n) (.int .i64 c) (.int .i64 e) := by
        have h := C3.new (w.alloc (.cells #[.string f, .int .i64 al, .int .i64 si, .bool alt, .bool ze, .int .i64 wi, .int .i64 gr, .int .i64 pr, .string t] 42)) (.bool n) (.int .i64 c) (.int .i64 e) 25
        rw [show (w.alloc (.cells #[.string f, .int .i64 al, .int .i64 si, .bool alt, .bool ze, .int .i64 wi, .int .i64 gr, .int .i64 pr, .string t] 42)).heap.size = w.heap.size + 1 by simp] at h
        exact h
      have hB : Below w.heap.size w ((w.alloc (.cells #[.string f, .int .i64 al, .int .i64 si, .bool alt, .bool ze, .int .i64 wi, .int .i64 gr, .int .i64 pr, .string t] 42)).alloc (.cells #[.bool n, .int .i64 c, .int .i64 e] 25)) := ((Below.refl _ _).alloc (Nat.le_refl _) _).alloc (by simp) _
      go_enter Tryz.func31, Tryz.ntmps31
      go_wp2_with (first | (go_at_call 88; (with_reducible refine Calls.mono (KG.out _) ?_); rintro r w1 ⟨rfl, hb⟩; replace hB := hB.trans (hb.mono hB.size); have hz := hb.size; replace za := C9.carry za hb; have zz := za; obtain ⟨za_x0, za_x1, za_x2, za_x3, za_x4, za_x5, za_x6, za_x7, za_x8, za_xf, za_xl⟩ := zz; replace zd := C3.carry zd hb; have zz := zd; obtain ⟨zd_0, zd_1, zd_2, zd_3, zd_4, zd_5, zd_6⟩ := zz) | (go_at_call 89; (with_reducible refine Calls.mono (KX.out _) ?_); rintro r w1 ⟨rfl, hb⟩; replace hB := hB.trans (hb.mono hB.size); have hz := hb.size; replace za := C9.carry za hb; have zz := za; obtain ⟨za_x0, za_x1, za_x2, za_x3, za_x4, za_x5, za_x6, za_x7, za_x8, za_xf, za_xl⟩ := zz; replace zd := C3.carry zd hb; have zz := zd; obtain ⟨zd_0, zd_1, zd_2, zd_3, zd_4, zd_5, zd_6⟩ := zz))
      all_goals go_ret
      all_goals exact ⟨rfl, hB⟩
end Go.Proofs.YtfnmlcgnbmphlaaGreatDoor
