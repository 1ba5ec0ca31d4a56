import Derived.Test.YtejganoipbblcaaGreatDoorGV1
namespace Go.Proofs.YtejganoipbblcaaGreatDoor
open Go Go.RowKit
theorem formatWholeS_ok (f : ByteArray) (al si : Int) (alt ze : Bool) (wi gr pr : Int) (t : ByteArray) (i : Int) (w : World) (hv : vSp f al si wi gr pr t = true) (hs : suitT al si alt ze gr pr t 0 = true) (hn : -999999999999 ≤ i ∧ i ≤ 999999999999) (hb : t.data.toList = [99] → 32 ≤ i ∧ i ≤ 126) :
    Calls Tryz.prog 120 #[.agg #[.string f, .int .i64 al, .int .i64 si, .bool alt, .bool ze, .int .i64 wi, .int .i64 gr, .int .i64 pr, .string t], .int .i64 i] w fun r w' => r = .returned (.string ⟨(fwL f al si alt ze wi gr t.data.toList i).toArray⟩) ∧ Below w.heap.size w w' := by
  have e := of_list t
  generalize t.data.toList = T at *
  subst e
  have V := vSp_open hv
  have hwi := V.wi30
  obtain ⟨m, rfl⟩ := Int.eq_ofNat_of_zero_le V.wi0
  unfold fwL
  rw [show (((m : Nat) : Int)).toNat = m from rfl]
  by_cases hc : T = [99]
  · subst hc
    rw [if_pos rfl]
    exact formatWholeS_byte f al si alt ze m gr pr i w (by omega) V.al0 V.al4 V.fill (hb rfl)
  · rw [if_neg hc]
    exact formatWholeS_num f al si alt ze m gr pr T i w (by omega) V.al0 V.al4 V.gr0 V.gr2 V.fill (tyOk_of hs hc) hn
theorem formatRealS_any (f : ByteArray) (al si : Int) (alt ze : Bool) (wi gr pr : Int) (t : ByteArray) (n : Bool) (c e : Int) (w : World) (h : rOk f al si alt ze wi gr pr t n c e = true) :
    Calls Tryz.prog 66 #[.agg #[.string f, .int .i64 al, .int .i64 si, .bool alt, .bool ze, .int .i64 wi, .int .i64 gr, .int .i64 pr, .string t], .agg #[.bool n, .int .i64 c, .int .i64 e]] w fun r w' => r = .returned (.string ⟨(frX true f al si alt ze wi gr pr t n c e).toArray⟩) ∧ Below w.heap.size w w' := by
  have kx := formatRealS_is f al si alt ze wi gr pr t n c e w h
  obtain ⟨A, B, T, ha, hc⟩ := kx
  unfold frX
  rw [ha]
  exact hc
theorem goodWholeT_any (f : ByteArray) (al si : Int) (alt ze : Bool) (wi gr pr : Int) (t : ByteArray) (i : Int) (w : World) :
    Calls Tryz.prog 119 #[.agg #[.string f, .int .i64 al, .int .i64 si, .bool alt, .bool ze, .int .i64 wi, .int .i64 gr, .int .i64 pr, .string t], .int .i64 i] w fun r w' => r = .returned (.bool (gwB (vSp f al si wi gr pr t) (suitT al si alt ze gr pr t 0) t.data.toList i)) ∧ Below w.heap.size w w' := by
  have e := of_list t
  generalize t.data.toList = T at *
  subst e
  exact goodWholeS_any f al si alt ze wi gr pr T i w
set_option maxRecDepth 100000 in
set_option maxHeartbeats 8000000 in
/-- the model, of a valid value -/
theorem formatValueS_any (f : ByteArray) (al si : Int) (alt ze : Bool) (wi gr pr : Int) (t : ByteArray) (k i : Int) (n : Bool) (c e : Int) (x : ByteArray) (hv : vvB k i n c e x = true) (w : World) :
    Calls Tryz.prog 80 #[.agg #[.string f, .int .i64 al, .int .i64 si, .bool alt, .bool ze, .int .i64 wi, .int .i64 gr, .int .i64 pr, .string t], .agg #[.int .i64 k, .int .i64 i, .bool n, .int .i64 c, .int .i64 e, .string x]] w fun r w' => r = .returned (.tuple #[.string ⟨(fvW f al si alt ze wi gr pr t k i n c e x).toArray⟩, .bool (fvB f al si alt ze wi gr pr t k i n c e x)]) ∧ Below w.heap.size w w' := by
  have za := (C9.new w (.string f) (.int .i64 al) (.int .i64 si) (.bool alt) (.bool ze) (.int .i64 wi) (.int .i64 gr) (.int .i64 pr) (.string t) 24).up (.cells #[.int .i64 k, .int .i64 i, .bool n, .int .i64 c, .int .i64 e, .string x] 33)
  have zv : C6 ((w.alloc (.cells #[.string f, .int .i64 al, .int .i64 si, .bool alt, .bool ze, .int .i64 wi, .int .i64 gr, .int .i64 pr, .string t] 24)).alloc (.cells #[.int .i64 k, .int .i64 i, .bool n, .int .i64 c, .int .i64 e, .string x] 33)) (w.heap.size + 1) (.int .i64 k) (.int .i64 i) (.bool n) (.int .i64 c) (.int .i64 e) (.string x) := by
    have h := C6.new (w.alloc (.cells #[.string f, .int .i64 al, .int .i64 si, .bool alt, .bool ze, .int .i64 wi, .int .i64 gr, .int .i64 pr, .string t] 24)) (.int .i64 k) (.int .i64 i) (.bool n) (.int .i64 c) (.int .i64 e) (.string x) 33
    rw [show (w.alloc (.cells #[.string f, .int .i64 al, .int .i64 si, .bool alt, .bool ze, .int .i64 wi, .int .i64 gr, .int .i64 pr, .string t] 24)).heap.size = w.heap.size + 1 by simp] at h
    exact h
  have hB : Below w.heap.size w ((w.alloc (.cells #[.string f, .int .i64 al, .int .i64 si, .bool alt, .bool ze, .int .i64 wi, .int .i64 gr, .int .i64 pr, .string t] 24)).alloc (.cells #[.int .i64 k, .int .i64 i, .bool n, .int .i64 c, .int .i64 e, .string x] 33)) := ((Below.refl _ _).alloc (Nat.le_refl _) _).alloc (by simp) _
  have zz := za
  obtain ⟨za_x0, za_x1, za_x2, za_x3, za_x4, za_x5, za_x6, za_x7, za_x8, za_xf, za_xl⟩ := zz
  have zz := zv; obtain ⟨zv_c0, zv_c1, zv_c2, zv_c3, zv_c4, zv_c5, zv_fz, zv_lt⟩ := zz
  rcases kind_of hv with rfl | rfl | rfl
  · have hi : inr i (-999999999999) 999999999999 = true := by
      unfold vvB at hv
      rw [if_pos rfl] at hv
      simp only [Bool.and_eq_true] at hv
      exact hv.1
    have hi' : -999999999999 ≤ i ∧ i ≤ 999999999999 := by simpa only [inr, Bool.and_eq_true, decide_eq_true_eq] using hi
    have kg := fun W => goodWholeT_any f al si alt ze wi gr pr t i W
    have hFB : fvB f al si alt ze wi gr pr t 0 i n c e x = gwB (vSp f al si wi gr pr t) (suitT al si alt ze gr pr t 0) t.data.toList i := by
      unfold fvB gwB suitW
      rw [hv, hi]
      cases vSp f al si wi gr pr t <;> cases suitT al si alt ze gr pr t 0 <;> cases (t.data.toList == [99]) <;> cases inr i 32 126 <;> rfl
    cases hb : gwB (vSp f al si wi gr pr t) (suitT al si alt ze gr pr t 0) t.data.toList i
    · rw [hb] at kg hFB
      rw [show fvW f al si alt ze wi gr pr t 0 i n c e x = [] by unfold fvW; rw [hFB]; rfl, hFB]
      have KG := Lib.hid kg
      clear kg hv hi hi' hFB hb
      go_enter Tryz.func80, Tryz.ntmps80
      go_wp2_with (first | (go_at_call 119; (with_reducible refine Calls.mono (KG.out _) ?_); rintro r w1 ⟨rfl, hb⟩; replace hB := hB.trans (hb.mono hB.size); have hz := hb.size; replace za := C9.carry za hb; have zz := za; obtain ⟨za_x0, za_x1, za_x2, za_x3, za_x4, za_x5, za_x6, za_x7, za_x8, za_xf, za_xl⟩ := zz; replace zv := C6.carry zv hb; have zz := zv; obtain ⟨zv_c0, zv_c1, zv_c2, zv_c3, zv_c4, zv_c5, zv_fz, zv_lt⟩ := zz))
      all_goals go_ret2
      all_goals exact ⟨rfl, hB⟩
    · have hb' := hb
      unfold gwB at hb'
      simp only [Bool.and_eq_true] at hb'
      obtain ⟨g1, g2, _, g4⟩ := hb'
      have kf := fun W => formatWholeS_ok f al si alt ze wi gr pr t i W g1 g2 hi' (fun h => by
        rw [h] at g4
        simpa [inr] using g4)
      rw [hb] at kg hFB
      rw [show fvW f al si alt ze wi gr pr t 0 i n c e x = fwL f al si alt ze wi gr t.data.toList i by unfold fvW; rw [hFB]; rfl, hFB]
      generalize fwL f al si alt ze wi gr t.data.toList i = X at *
      have KG := Lib.hid kg; have KF := Lib.hid kf
      clear kg kf hv hi hi' hFB hb g1 g2 g4
      go_enter Tryz.func80, Tryz.ntmps80
      go_wp2_with (first | (go_at_call 119; (with_reducible refine Calls.mono (KG.out _) ?_); rintro r w1 ⟨rfl, hb⟩; replace hB := hB.trans (hb.mono hB.size); have hz := hb.size; replace za := C9.carry za hb; have zz := za; obtain ⟨za_x0, za_x1, za_x2, za_x3, za_x4, za_x5, za_x6, za_x7, za_x8, za_xf, za_xl⟩ := zz; replace zv := C6.carry zv hb; have zz := zv; obtain ⟨zv_c0, zv_c1, zv_c2, zv_c3, zv_c4, zv_c5, zv_fz, zv_lt⟩ := zz) | (go_at_call 120; (with_reducible refine Calls.mono (KF.out _) ?_); rintro r w1 ⟨rfl, hb⟩; replace hB := hB.trans (hb.mono hB.size); have hz := hb.size; replace za := C9.carry za hb; have zz := za; obtain ⟨za_x0, za_x1, za_x2, za_x3, za_x4, za_x5, za_x6, za_x7, za_x8, za_xf, za_xl⟩ := zz; replace zv := C6.carry zv hb; have zz := zv; obtain ⟨zv_c0, zv_c1, zv_c2, zv_c3, zv_c4, zv_c5, zv_fz, zv_lt⟩ := zz))
      all_goals go_ret2
      all_goals exact ⟨rfl, hB⟩
  · have hd : Fd.vld ⟨n, c, e⟩ = true := by
      unfold vvB at hv
      rw [if_neg (by decide), if_pos rfl] at hv
      simp only [Bool.and_eq_true] at hv
      exact hv.2.1
    have kg := fun W => goodRealS_any f al si alt ze wi gr pr t n c e W
    have hFB : fvB f al si alt ze wi gr pr t 1 i n c e x = grB (vSp f al si wi gr pr t) (suitT al si alt ze gr pr t 1) (Fd.vld ⟨n, c, e⟩) := by
      unfold fvB grB suitW
      rw [hv, hd]
      cases vSp f al si wi gr pr t <;> cases suitT al si alt ze gr pr t 1 <;> rfl
    cases hb : grB (vSp f al si wi gr pr t) (suitT al si alt ze gr pr t 1) (Fd.vld ⟨n, c, e⟩)
    · rw [hb] at kg hFB
      rw [show fvW f al si alt ze wi gr pr t 1 i n c e x = [] by unfold fvW; rw [hFB]; rfl, hFB]
      have KG := Lib.hid kg
      clear kg hv hd hFB hb
      go_enter Tryz.func80, Tryz.ntmps80
      go_wp2_with (first | (go_at_call 65; (with_reducible refine Calls.mono (KG.out _) ?_); rintro r w1 ⟨rfl, hb⟩; replace hB := hB.trans (hb.mono hB.size); have hz := hb.size; replace za := C9.carry za hb; have zz := za; obtain ⟨za_x0, za_x1, za_x2, za_x3, za_x4, za_x5, za_x6, za_x7, za_x8, za_xf, za_xl⟩ := zz; replace zv := C6.carry zv hb; have zz := zv; obtain ⟨zv_c0, zv_c1, zv_c2, zv_c3, zv_c4, zv_c5, zv_fz, zv_lt⟩ := zz))
      all_goals go_ret2
      all_goals exact ⟨rfl, hB⟩
    · have kf := fun W => formatRealS_any f al si alt ze wi gr pr t n c e W hb
      rw [hb] at kg hFB
      rw [show fvW f al si alt ze wi gr pr t 1 i n c e x = frX true f al si alt ze wi gr pr t n c e by unfold fvW; rw [hFB]; rfl, hFB]
      generalize frX true f al si alt ze wi gr pr t n c e = X at *
      have KG := Lib.hid kg; have KF := Lib.hid kf
      clear kg kf hv hd hFB hb
      go_enter Tryz.func80, Tryz.ntmps80
      go_wp2_with (first | (go_at_call 65; (with_reducible refine Calls.mono (KG.out _) ?_); rintro r w1 ⟨rfl, hb⟩; replace hB := hB.trans (hb.mono hB.size); have hz := hb.size; replace za := C9.carry za hb; have zz := za; obtain ⟨za_x0, za_x1, za_x2, za_x3, za_x4, za_x5, za_x6, za_x7, za_x8, za_xf, za_xl⟩ := zz; replace zv := C6.carry zv hb; have zz := zv; obtain ⟨zv_c0, zv_c1, zv_c2, zv_c3, zv_c4, zv_c5, zv_fz, zv_lt⟩ := zz) | (go_at_call 66; (with_reducible refine Calls.mono (KF.out _) ?_); rintro r w1 ⟨rfl, hb⟩; replace hB := hB.trans (hb.mono hB.size); have hz := hb.size; replace za := C9.carry za hb; have zz := za; obtain ⟨za_x0, za_x1, za_x2, za_x3, za_x4, za_x5, za_x6, za_x7, za_x8, za_xf, za_xl⟩ := zz; replace zv := C6.carry zv hb; have zz := zv; obtain ⟨zv_c0, zv_c1, zv_c2, zv_c3, zv_c4, zv_c5, zv_fz, zv_lt⟩ := zz))
      all_goals go_ret2
      all_goals exact ⟨rfl, hB⟩
  · have hd : vtB x = true := by
      unfold vvB at hv
      rw [if_neg (by decide), if_neg (by decide), if_pos rfl] at hv
      simp only [Bool.and_eq_true] at hv
      exact hv.2.2
    have hz80 := vtB_size hd
    have kv := fun W => validSpecS_any f al si alt ze wi gr pr t W
    have hFB : fvB f al si alt ze wi gr pr t 2 i n c e x = (vSp f al si wi gr pr t && suitT al si alt ze gr pr t 2) := by
      unfold fvB suitW
      rw [hv]
      cases vSp f al si wi gr pr t <;> cases suitT al si alt ze gr pr t 2 <;> rfl
    cases hvs : vSp f al si wi gr pr t
    · rw [hvs] at kv hFB
      rw [Bool.false_and] at hFB
      rw [show fvW f al si alt ze wi gr pr t 2 i n c e x = [] by unfold fvW; rw [hFB]; rfl, hFB]
      have KV := Lib.hid kv
      clear kv hv hd hFB hvs
      go_enter Tryz.func80, Tryz.ntmps80
      go_wp2_with (first | (go_at_call 42; (with_reducible refine Calls.mono (KV.out _) ?_); rintro r w1 ⟨rfl, hb⟩; replace hB := hB.trans (hb.mono hB.size); have hz := hb.size; replace za := C9.carry za hb; have zz := za; obtain ⟨za_x0, za_x1, za_x2, za_x3, za_x4, za_x5, za_x6, za_x7, za_x8, za_xf, za_xl⟩ := zz; replace zv := C6.carry zv hb; have zz := zv; obtain ⟨zv_c0, zv_c1, zv_c2, zv_c3, zv_c4, zv_c5, zv_fz, zv_lt⟩ := zz))
      all_goals go_ret2
      all_goals exact ⟨rfl, hB⟩
    · have V := vSp_open hvs
      have ks := fun W => suitsS_any f al si alt ze wi gr pr t 2 W V.pr0 V.type
      cases hst : suitT al si alt ze gr pr t 2
      · rw [hvs, hst] at hFB
        rw [hst] at ks
        rw [hvs] at kv
        rw [Bool.true_and] at hFB
        rw [show fvW f al si alt ze wi gr pr t 2 i n c e x = [] by unfold fvW; rw [hFB]; rfl, hFB]
        have KV := Lib.hid kv; have KS := Lib.hid ks
        clear kv ks hv hd hFB hvs hst V
        go_enter Tryz.func80, Tryz.ntmps80
        go_wp2_with (first | (go_at_call 42; (with_reducible refine Calls.mono (KV.out _) ?_); rintro r w1 ⟨rfl, hb⟩; replace hB := hB.trans (hb.mono hB.size); have hz := hb.size; replace za := C9.carry za hb; have zz := za; obtain ⟨za_x0, za_x1, za_x2, za_x3, za_x4, za_x5, za_x6, za_x7, za_x8, za_xf, za_xl⟩ := zz; replace zv := C6.carry zv hb; have zz := zv; obtain ⟨zv_c0, zv_c1, zv_c2, zv_c3, zv_c4, zv_c5, zv_fz, zv_lt⟩ := zz) | (go_at_call 43; (with_reducible refine Calls.mono (KS.out _) ?_); rintro r w1 ⟨rfl, hb⟩; replace hB := hB.trans (hb.mono hB.size); have hz := hb.size; replace za := C9.carry za hb; have zz := za; obtain ⟨za_x0, za_x1, za_x2, za_x3, za_x4, za_x5, za_x6, za_x7, za_x8, za_xf, za_xl⟩ := zz; replace zv := C6.carry zv hb; have zz := zv; obtain ⟨zv_c0, zv_c1, zv_c2, zv_c3, zv_c4, zv_c5, zv_fz, zv_lt⟩ := zz))
        all_goals go_ret2
        all_goals exact ⟨rfl, hB⟩
      · have kf := fun W => formatTextS_any f al si alt ze wi gr pr t x hz80 hvs hst W
        rw [hvs, hst] at hFB
        rw [hst] at ks
        rw [hvs] at kv
        rw [Bool.true_and] at hFB
        rw [show fvW f al si alt ze wi gr pr t 2 i n c e x = (fmR f al ze wi pr x).data.toList by unfold fvW; rw [hFB]; rfl, hFB, list_of]
        generalize fmR f al ze wi pr x = X at *
        have KV := Lib.hid kv; have KS := Lib.hid ks; have KF := Lib.hid kf
        clear kv ks kf hv hd hFB hvs hst V
        go_enter Tryz.func80, Tryz.ntmps80
        go_wp2_with (first | (go_at_call 42; (with_reducible refine Calls.mono (KV.out _) ?_); rintro r w1 ⟨rfl, hb⟩; replace hB := hB.trans (hb.mono hB.size); have hz := hb.size; replace za := C9.carry za hb; have zz := za; obtain ⟨za_x0, za_x1, za_x2, za_x3, za_x4, za_x5, za_x6, za_x7, za_x8, za_xf, za_xl⟩ := zz; replace zv := C6.carry zv hb; have zz := zv; obtain ⟨zv_c0, zv_c1, zv_c2, zv_c3, zv_c4, zv_c5, zv_fz, zv_lt⟩ := zz) | (go_at_call 43; (with_reducible refine Calls.mono (KS.out _) ?_); rintro r w1 ⟨rfl, hb⟩; replace hB := hB.trans (hb.mono hB.size); have hz := hb.size; replace za := C9.carry za hb; have zz := za; obtain ⟨za_x0, za_x1, za_x2, za_x3, za_x4, za_x5, za_x6, za_x7, za_x8, za_xf, za_xl⟩ := zz; replace zv := C6.carry zv hb; have zz := zv; obtain ⟨zv_c0, zv_c1, zv_c2, zv_c3, zv_c4, zv_c5, zv_fz, zv_lt⟩ := zz) | (go_at_call 121; (with_reducible refine Calls.mono (KF.out _) ?_); rintro r w1 ⟨rfl, hb⟩; replace hB := hB.trans (hb.mono hB.size); have hz := hb.size; replace za := C9.carry za hb; have zz := za; obtain ⟨za_x0, za_x1, za_x2, za_x3, za_x4, za_x5, za_x6, za_x7, za_x8, za_xf, za_xl⟩ := zz; replace zv := C6.carry zv hb; have zz := zv; obtain ⟨zv_c0, zv_c1, zv_c2, zv_c3, zv_c4, zv_c5, zv_fz, zv_lt⟩ := zz))
        all_goals go_ret2
        all_goals exact ⟨rfl, hB⟩
set_option maxRecDepth 100000 in
set_option maxHeartbeats 8000000 in
theorem FormatValueS_any (f : ByteArray) (al si : Int) (alt ze : Bool) (wi gr pr : Int) (t : ByteArray) (k i : Int) (n : Bool) (c e : Int) (x : ByteArray) (hx : x.size ≤ 9223372036854775807) (w : World) :
    Calls Tryz.prog 31 #[.agg #[.string f, .int .i64 al, .int .i64 si, .bool alt, .bool ze, .int .i64 wi, .int .i64 gr, .int .i64 pr, .string t], .agg #[.int .i64 k, .int .i64 i, .bool n, .int .i64 c, .int .i64 e, .string x]] w fun r w' => r = .returned (.tuple #[.string ⟨(fvW f al si alt ze wi gr pr t k i n c e x).toArray⟩, .bool (fvB f al si alt ze wi gr pr t k i n c e x)]) ∧ Below w.heap.size w w' := by
  have kv := fun W => validValueS_any k i n c e x hx W
  have za := (C9.new w (.string f) (.int .i64 al) (.int .i64 si) (.bool alt) (.bool ze) (.int .i64 wi) (.int .i64 gr) (.int .i64 pr) (.string t) 24).up (.cells #[.int .i64 k, .int .i64 i, .bool n, .int .i64 c, .int .i64 e, .string x] 33)
  have zv : C6 ((w.alloc (.cells #[.string f, .int .i64 al, .int .i64 si, .bool alt, .bool ze, .int .i64 wi, .int .i64 gr, .int .i64 pr, .string t] 24)).alloc (.cells #[.int .i64 k, .int .i64 i, .bool n, .int .i64 c, .int .i64 e, .string x] 33)) (w.heap.size + 1) (.int .i64 k) (.int .i64 i) (.bool n) (.int .i64 c) (.int .i64 e) (.string x) := by
    have h := C6.new (w.alloc (.cells #[.string f, .int .i64 al, .int .i64 si, .bool alt, .bool ze, .int .i64 wi, .int .i64 gr, .int .i64 pr, .string t] 24)) (.int .i64 k) (.int .i64 i) (.bool n) (.int .i64 c) (.int .i64 e) (.string x) 33
    rw [show (w.alloc (.cells #[.string f, .int .i64 al, .int .i64 si, .bool alt, .bool ze, .int .i64 wi, .int .i64 gr, .int .i64 pr, .string t] 24)).heap.size = w.heap.size + 1 by simp] at h
    exact h
  have hB : Below w.heap.size w ((w.alloc (.cells #[.string f, .int .i64 al, .int .i64 si, .bool alt, .bool ze, .int .i64 wi, .int .i64 gr, .int .i64 pr, .string t] 24)).alloc (.cells #[.int .i64 k, .int .i64 i, .bool n, .int .i64 c, .int .i64 e, .string x] 33)) := ((Below.refl _ _).alloc (Nat.le_refl _) _).alloc (by simp) _
  have zz := za
  obtain ⟨za_x0, za_x1, za_x2, za_x3, za_x4, za_x5, za_x6, za_x7, za_x8, za_xf, za_xl⟩ := zz
  have zz := zv; obtain ⟨zv_c0, zv_c1, zv_c2, zv_c3, zv_c4, zv_c5, zv_fz, zv_lt⟩ := zz
  cases hv : vvB k i n c e x
  · rw [show fvW f al si alt ze wi gr pr t k i n c e x = [] by unfold fvW fvB; rw [hv]; rfl, show fvB f al si alt ze wi gr pr t k i n c e x = false by unfold fvB; rw [hv]; rfl]
    rw [hv] at kv
    have KV := Lib.hid kv
    clear kv
    go_enter Tryz.func31, Tryz.ntmps31
    go_wp2_with (first | (go_at_call 78; (with_reducible refine Calls.mono (KV.out _) ?_); rintro r w1 ⟨rfl, hb⟩; replace hB := hB.trans (hb.mono hB.size); have hz := hb.size; replace za := C9.carry za hb; have zz := za; obtain ⟨za_x0, za_x1, za_x2, za_x3, za_x4, za_x5, za_x6, za_x7, za_x8, za_xf, za_xl⟩ := zz; replace zv := C6.carry zv hb; have zz := zv; obtain ⟨zv_c0, zv_c1, zv_c2, zv_c3, zv_c4, zv_c5, zv_fz, zv_lt⟩ := zz))
    all_goals go_ret2
    all_goals exact ⟨rfl, hB⟩
  · have kf := fun W => formatValueS_any f al si alt ze wi gr pr t k i n c e x hv W
    rw [hv] at kv
    generalize fvW f al si alt ze wi gr pr t k i n c e x = X at *
    generalize fvB f al si alt ze wi gr pr t k i n c e x = b at *
    have KV := Lib.hid kv; have KF := Lib.hid kf
    clear kv kf hv
    go_enter Tryz.func31, Tryz.ntmps31
    go_wp2_with (first | (go_at_call 78; (with_reducible refine Calls.mono (KV.out _) ?_); rintro r w1 ⟨rfl, hb⟩; replace hB := hB.trans (hb.mono hB.size); have hz := hb.size; replace za := C9.carry za hb; have zz := za; obtain ⟨za_x0, za_x1, za_x2, za_x3, za_x4, za_x5, za_x6, za_x7, za_x8, za_xf, za_xl⟩ := zz; replace zv := C6.carry zv hb; have zz := zv; obtain ⟨zv_c0, zv_c1, zv_c2, zv_c3, zv_c4, zv_c5, zv_fz, zv_lt⟩ := zz) | (go_at_call 80; (with_reducible refine Calls.mono (KF.out _) ?_); rintro r w1 ⟨rfl, hb⟩; replace hB := hB.trans (hb.mono hB.size); have hz := hb.size; replace za := C9.carry za hb; have zz := za; obtain ⟨za_x0, za_x1, za_x2, za_x3, za_x4, za_x5, za_x6, za_x7, za_x8, za_xf, za_xl⟩ := zz; replace zv := C6.carry zv hb; have zz := zv; obtain ⟨zv_c0, zv_c1, zv_c2, zv_c3, zv_c4, zv_c5, zv_fz, zv_lt⟩ := zz))
    all_goals go_ret2
    all_goals exact ⟨rfl, hB⟩
end Go.Proofs.YtejganoipbblcaaGreatDoor
