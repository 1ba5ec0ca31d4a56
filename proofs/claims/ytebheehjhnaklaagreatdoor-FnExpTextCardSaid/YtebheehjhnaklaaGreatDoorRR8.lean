import Derived.Test.YtebheehjhnaklaaGreatDoorRR7
namespace Go.Proofs.YtebheehjhnaklaaGreatDoor
open Go Go.RowKit
theorem snoc_facts (x : List UInt8) (b : UInt8) : ∃ S : ByteArray, S = ⟨(x ++ [b]).toArray⟩ ∧ S.toList.isEmpty = false ∧ 0 < S.size ∧ S.size = x.length + 1 ∧ (∀ h : S.size - 1 < S.size, S[S.size - 1]'h = b) ∧ S.extract 0 (S.size - 1) = ⟨x.toArray⟩ := by
  have hs : (⟨(x ++ [b]).toArray⟩ : ByteArray).size = x.length + 1 := by show (x ++ [b]).length = _; simp
  refine ⟨_, rfl, nonempty_list (by omega), by omega, hs, ?_, ?_⟩
  · intro h
    show (x ++ [b]).toArray[(⟨(x ++ [b]).toArray⟩ : ByteArray).size - 1]'_ = b
    simp only [hs, List.getElem_toArray]
    simp
  · apply ByteArray.ext
    rw [hs, ByteArray.data_extract]
    simp
theorem point_cases2 (d : List UInt8) : (Lib.indexByte d 46 = -1 ∧ ptA d = d ∧ ptB d = []) ∨ ∃ k : Nat, k < d.length ∧ Lib.indexByte d 46 = k ∧ ptA d = d.take k ∧ ptB d = d.drop (k + 1) := by
  rcases point_cases d with h | ⟨x, y, e, h1, h2, h3⟩
  · exact .inl h
  · obtain ⟨c1, c2⟩ := mid_cut x y 46
    refine .inr ⟨x.length, by rw [e]; simp, h1, by rw [h2, e, c1], by rw [h3, e, c2]⟩
theorem byte_is {c : UInt8} (k : UInt8) (h : c ≠ k) : ((c.toNat : Int) == (k.toNat : Int)) = false := by
  rw [beq_eq_false_iff_ne]
  intro e
  exact h (UInt8.toNat_inj.1 (by omega))
theorem sign_yes {c : UInt8} (h : c = 45 ∨ c = 43 ∨ c = 32) : isSign c = true := by
  rw [isSign_eq]; rcases h with rfl | rfl | rfl <;> rfl
theorem sign_no {c : UInt8} (h1 : c ≠ 45) (h2 : c ≠ 43) (h3 : c ≠ 32) : isSign c = false := by
  rw [isSign_eq]; simp [h1, h2, h3]
/-- the call of fromDigits, with its power of 10 as the walk spells it -/
theorem from_E (neg : Bool) (D : List UInt8) (E0 : Int) (F : Fd.D × Bool) (hl : D.length ≤ 80) (hb : -250 ≤ E0 ∧ E0 ≤ 250) (hF : F = fdF neg D E0) (E : Int) (he : E = E0) (W : World) :
    Calls Tryz.prog 118 #[.bool neg, .string ⟨D.toArray⟩, .int .i64 E] W fun r w' => r = .returned (.tuple #[.agg #[.bool F.1.n, .int .i64 F.1.c, .int .i64 F.1.e], .bool F.2]) ∧ Below W.heap.size W w' := by
  subst he hF
  exact fromDigitsS_any neg D E W hl hb
set_option maxRecDepth 100000 in
set_option maxHeartbeats 8000000 in
theorem readReal_nil (w : World) :
    Calls Tryz.prog 73 #[.string ⟨([]).toArray⟩] w fun r w' => r = .returned (rV (rrL ([]))) ∧ Below w.heap.size w w' := by
  have zb := C3.new w (.bool false) (.int .i64 0) (.int .i64 0) 24
  have hB0 : Below w.heap.size w (w.alloc (.cells #[.bool false, .int .i64 0, .int .i64 0] 24)) := Below.alloc (Below.refl _ _) (Nat.le_refl _) _
  have zz := zb
  obtain ⟨y0, y1, y2, y3, y4, y5, y6⟩ := zz
  generalize hR : rrL ([]) = F
  have HR := Lib.hid hR
  clear hR
  have HM := Lib.hid (HR.out.symm.trans (show rrL [] = rrM false false [] from rfl))
  obtain ⟨d, p, ok, k1, hs⟩ := split_any false false [] (by simp)
  rcases hs with ⟨rfl, h1, h2, h3, h4⟩ | ⟨rfl, h1⟩
  · have hF := HM.out.trans (h1.trans (fin_fd false false d p))
    have dl : d.length ≤ 80 := Nat.le_trans h2 (by simp)
    have k2 := fun W => indexOfS_any ⟨d.toArray⟩ 46 (by show d.length ≤ _; omega) W
    rw [show (⟨d.toArray⟩ : ByteArray).data.toList = d from rfl, show (((46 : UInt8).toNat : Nat) : Int) = 46 from rfl] at k2
    have hsz : (⟨d.toArray⟩ : ByteArray).size = d.length := rfl
    clear h1 h2
    rcases point_cases2 d with ⟨i1, i2, i3⟩ | ⟨k, i0, i1, i2, i3⟩
    · rw [i1] at k2
      rw [i2, i3, List.append_nil] at hF
      have k4 := from_E false d _ F dl (by simp; omega) hF
      simp only [List.length_nil, Bool.false_eq_true, if_false] at k4
      clear hF i1 i2 i3 HM
      have K1 := Lib.hid k1; have K2 := Lib.hid k2; have K4 := Lib.hid k4
      clear k1 k2 k4 HR
      go_enter Tryz.func73, Tryz.ntmps73
      go_wp2_with (first | (go_at_call 116; (with_reducible refine Calls.mono (K1.out _) ?_); rintro r w1 ⟨rfl, rfl⟩) | (go_at_call 117; (with_reducible refine Calls.mono (K2.out _) ?_); rintro r w1 ⟨rfl, rfl⟩) | (go_at_call 118; (with_reducible refine Calls.mono (K4.out _ (by omega) _) ?_); rintro r w1 ⟨rfl, hb⟩; replace hB0 := hB0.trans (hb.mono hB0.size); have hz := hB0.size; replace zb := C3.carry zb hb; have zz := zb; obtain ⟨y0, y1, y2, y3, y4, y5, y6⟩ := zz))
      have s0 := y0; have s1 := y1; have s2 := y2
      obtain ⟨t0, t1, t2⟩ := set3 y0 y1 y2 (.bool F.1.n) (.int .i64 F.1.c) (.int .i64 F.1.e)
      exact bodyPost_ret (v := .tuple #[.agg #[.bool F.1.n, .int .i64 F.1.c, .int .i64 F.1.e], .bool F.2]) (by simp [results, Tryz.results73, go_sem, *]) rfl ⟨rfl, (by repeat (first | with_reducible exact Below.refl _ _ | with_reducible assumption | with_reducible refine Below.setCell ?_ (by first | omega | (simp; done) | (simp <;> omega)) _ | with_reducible refine below_drewN ?_ _ | with_reducible refine Below.drew ?_ | with_reducible refine Below.alloc ?_ (by first | omega | (simp; done) | (simp <;> omega)) _))⟩
    · rw [i1] at k2
      rw [i2, i3] at hF
      have e1 := ext_take k d
      have e2 := ext_drop (k + 1) d
      have c1 := cat_lN (d.take k) (d.drop (k + 1))
      have t1 : (d.take k).length ≤ k := List.length_take_le _ _
      have t2 : (d.drop (k + 1)).length = d.length - (k + 1) := List.length_drop
      have dl2 : (d.take k ++ d.drop (k + 1)).length ≤ 80 := by rw [List.length_append]; omega
      have k4 := from_E false (d.take k ++ d.drop (k + 1)) (p - ((d.length : Int) - k - 1) - 0) F dl2 (by omega) (by rw [hF]; congr 1; rw [t2]; simp <;> omega)
      have tn1 : ((k : Int) + 1).toNat = k + 1 := by omega
      have nn1 : 0 ≤ (k : Int) + 1 := by omega
      have wr1 : IntKind.i64.wrap ((k : Int) + 1) = (k : Int) + 1 := by rw [IntKind.wrap_i64]; omega
      have j1 : (k : Int) + 1 ≤ d.length := by omega
      have j2 : (k : Int) ≤ d.length := by omega
      have q1 : ¬ (9223372036854775807 < (d.take k).length + (d.drop (k + 1)).length) := by omega
      generalize d.take k = A at *
      generalize d.drop (k + 1) = B at *
      clear hF i1 i2 i3 HM t1 t2 dl2
      have K1 := Lib.hid k1; have K2 := Lib.hid k2; have K4 := Lib.hid k4
      clear k1 k2 k4 HR
      go_enter Tryz.func73, Tryz.ntmps73
      go_wp2_with (first | (go_at_call 116; (with_reducible refine Calls.mono (K1.out _) ?_); rintro r w1 ⟨rfl, rfl⟩) | (go_at_call 117; (with_reducible refine Calls.mono (K2.out _) ?_); rintro r w1 ⟨rfl, rfl⟩))
      have hB := hB0
      obtain ⟨szb0, szb1, szb2⟩ := C3.since zb
      refine wp_region_since (by kernel_rfl) (by kernel_rfl) ?_
      repeat (quiet_step (fail))
      refine wpQuiet_nil ?_
      intro w_ hw_
      obtain ⟨⟨w1, hb⟩, hw2⟩ := hw_
      have hw3 : w1 = w_ := hw2.symm
      clear hw2
      subst hw3
      clear szb0 szb1 szb2
      replace hB := hB.trans (hb.mono hB.size)
      have hz := hb.size
      replace zb := C3.carry zb hb
      have zz := zb
      obtain ⟨x0, x1, x2, x3, x4, x5, x6⟩ := zz
      clear wr1 tn1 nn1
      replace hB0 := hB
      clear y0 y1 y2 y3 y4 y5 y6
      have zz := zb
      obtain ⟨y0, y1, y2, y3, y4, y5, y6⟩ := zz
      go_wp2_with (first | (go_at_call 118; (with_reducible refine Calls.mono (K4.out _ (by omega) _) ?_); rintro r w1 ⟨rfl, hb⟩; replace hB0 := hB0.trans (hb.mono hB0.size); have hz := hB0.size; replace zb := C3.carry zb hb; have zz := zb; obtain ⟨y0, y1, y2, y3, y4, y5, y6⟩ := zz))
      have s0 := y0; have s1 := y1; have s2 := y2
      obtain ⟨t0, t1, t2⟩ := set3 y0 y1 y2 (.bool F.1.n) (.int .i64 F.1.c) (.int .i64 F.1.e)
      exact bodyPost_ret (v := .tuple #[.agg #[.bool F.1.n, .int .i64 F.1.c, .int .i64 F.1.e], .bool F.2]) (by simp [results, Tryz.results73, go_sem, *]) rfl ⟨rfl, (by repeat (first | with_reducible exact Below.refl _ _ | with_reducible assumption | with_reducible refine Below.setCell ?_ (by first | omega | (simp; done) | (simp <;> omega)) _ | with_reducible refine below_drewN ?_ _ | with_reducible refine Below.drew ?_ | with_reducible refine Below.alloc ?_ (by first | omega | (simp; done) | (simp <;> omega)) _))⟩
  · have HF := Lib.hid (HM.out.trans h1)
    have K1 := Lib.hid k1
    clear k1 h1 HM HR
    go_enter Tryz.func73, Tryz.ntmps73
    go_wp2_with (first | (go_at_call 116; (with_reducible refine Calls.mono (K1.out _) ?_); rintro r w1 ⟨rfl, rfl⟩))
    exact bodyPost_ret (v := .tuple #[.agg #[.bool false, .int .i64 0, .int .i64 0], .bool false]) (by simp [results, Tryz.results73, go_sem, *]) rfl ⟨by rw [HF.out]; rfl, (by repeat (first | with_reducible exact Below.refl _ _ | with_reducible assumption | with_reducible refine Below.setCell ?_ (by first | omega | (simp; done) | (simp <;> omega)) _ | with_reducible refine below_drewN ?_ _ | with_reducible refine Below.drew ?_ | with_reducible refine Below.alloc ?_ (by first | omega | (simp; done) | (simp <;> omega)) _))⟩
set_option maxRecDepth 100000 in
set_option maxHeartbeats 8000000 in
theorem readReal_minus (u : List UInt8) (hl : u.length ≤ 79) (w : World) :
    Calls Tryz.prog 73 #[.string ⟨(45 :: u).toArray⟩] w fun r w' => r = .returned (rV (rrL (45 :: u))) ∧ Below w.heap.size w w' := by
  have zb := C3.new w (.bool false) (.int .i64 0) (.int .i64 0) 24
  have hB0 : Below w.heap.size w (w.alloc (.cells #[.bool false, .int .i64 0, .int .i64 0] 24)) := Below.alloc (Below.refl _ _) (Nat.le_refl _) _
  have zz := zb
  obtain ⟨y0, y1, y2, y3, y4, y5, y6⟩ := zz
  generalize hR : rrL (45 :: u) = F
  have HR := Lib.hid hR
  clear hR
  have HM0 := Lib.hid (HR.out.symm.trans (show rrL (45 :: u) = rrM true (Lib.hasSuffix u [37]) (Lib.trimSuffix u [37]) from by unfold rrL; rw [show cutD (45 :: u) = u from by rw [cutD, if_pos (sign_yes (by simp))], show cutN (45 :: u) = true from rfl]))
  have hcut := ext_rest 45 u
  have hx : (((⟨(45 :: u).toArray⟩ : ByteArray)[0]'(by show 0 < (45 :: u).length; simp)).toNat : Int) = 45 := rfl
  have hz0 : (⟨(45 :: u).toArray⟩ : ByteArray).size = u.length + 1 := rfl
  have hne : (⟨(45 :: u).toArray⟩ : ByteArray).toList.isEmpty = false := nonempty_list (by show 1 ≤ (45 :: u).length; simp)
  rcases List.eq_nil_or_concat u with rfl | ⟨x, b, rfl⟩
  · have HM := Lib.hid (HM0.out.trans (show _ = rrM true false [] from rfl))
    clear HM0
    obtain ⟨d, p, ok, k1, hs⟩ := split_any true false [] (by simp)
    have k1 : ∀ W, Calls Tryz.prog 116 #[.string ByteArray.empty] W (fun rr w2 => rr = .returned (.tuple #[.string ⟨d.toArray⟩, .int .i64 p, .bool ok]) ∧ W = w2) := k1
    rcases hs with ⟨rfl, h1, h2, h3, h4⟩ | ⟨rfl, h1⟩
    · have hF := HM.out.trans (h1.trans (fin_fd true false d p))
      have dl : d.length ≤ 80 := Nat.le_trans h2 (by simp)
      have k2 := fun W => indexOfS_any ⟨d.toArray⟩ 46 (by show d.length ≤ _; omega) W
      rw [show (⟨d.toArray⟩ : ByteArray).data.toList = d from rfl, show (((46 : UInt8).toNat : Nat) : Int) = 46 from rfl] at k2
      have hsz : (⟨d.toArray⟩ : ByteArray).size = d.length := rfl
      clear h1 h2
      rcases point_cases2 d with ⟨i1, i2, i3⟩ | ⟨k, i0, i1, i2, i3⟩
      · rw [i1] at k2
        rw [i2, i3, List.append_nil] at hF
        have k4 := from_E true d _ F dl (by simp; omega) hF
        simp only [List.length_nil, Bool.false_eq_true, if_false] at k4
        clear hF i1 i2 i3 HM
        have K1 := Lib.hid k1; have K2 := Lib.hid k2; have K4 := Lib.hid k4
        clear k1 k2 k4 HR
        go_enter Tryz.func73, Tryz.ntmps73
        go_wp2_with (first | (go_at_call 116; (with_reducible refine Calls.mono (K1.out _) ?_); rintro r w1 ⟨rfl, rfl⟩) | (go_at_call 117; (with_reducible refine Calls.mono (K2.out _) ?_); rintro r w1 ⟨rfl, rfl⟩) | (go_at_call 118; (with_reducible refine Calls.mono (K4.out _ (by omega) _) ?_); rintro r w1 ⟨rfl, hb⟩; replace hB0 := hB0.trans (hb.mono hB0.size); have hz := hB0.size; replace zb := C3.carry zb hb; have zz := zb; obtain ⟨y0, y1, y2, y3, y4, y5, y6⟩ := zz))
        have s0 := y0; have s1 := y1; have s2 := y2
        obtain ⟨t0, t1, t2⟩ := set3 y0 y1 y2 (.bool F.1.n) (.int .i64 F.1.c) (.int .i64 F.1.e)
        exact bodyPost_ret (v := .tuple #[.agg #[.bool F.1.n, .int .i64 F.1.c, .int .i64 F.1.e], .bool F.2]) (by simp [results, Tryz.results73, go_sem, *]) rfl ⟨rfl, (by repeat (first | with_reducible exact Below.refl _ _ | with_reducible assumption | with_reducible refine Below.setCell ?_ (by first | omega | (simp; done) | (simp <;> omega)) _ | with_reducible refine below_drewN ?_ _ | with_reducible refine Below.drew ?_ | with_reducible refine Below.alloc ?_ (by first | omega | (simp; done) | (simp <;> omega)) _))⟩
      · rw [i1] at k2
        rw [i2, i3] at hF
        have e1 := ext_take k d
        have e2 := ext_drop (k + 1) d
        have c1 := cat_lN (d.take k) (d.drop (k + 1))
        have t1 : (d.take k).length ≤ k := List.length_take_le _ _
        have t2 : (d.drop (k + 1)).length = d.length - (k + 1) := List.length_drop
        have dl2 : (d.take k ++ d.drop (k + 1)).length ≤ 80 := by rw [List.length_append]; omega
        have k4 := from_E true (d.take k ++ d.drop (k + 1)) (p - ((d.length : Int) - k - 1) - 0) F dl2 (by omega) (by rw [hF]; congr 1; rw [t2]; simp <;> omega)
        have tn1 : ((k : Int) + 1).toNat = k + 1 := by omega
        have nn1 : 0 ≤ (k : Int) + 1 := by omega
        have wr1 : IntKind.i64.wrap ((k : Int) + 1) = (k : Int) + 1 := by rw [IntKind.wrap_i64]; omega
        have j1 : (k : Int) + 1 ≤ d.length := by omega
        have j2 : (k : Int) ≤ d.length := by omega
        have q1 : ¬ (9223372036854775807 < (d.take k).length + (d.drop (k + 1)).length) := by omega
        generalize d.take k = A at *
        generalize d.drop (k + 1) = B at *
        clear hF i1 i2 i3 HM t1 t2 dl2
        have K1 := Lib.hid k1; have K2 := Lib.hid k2; have K4 := Lib.hid k4
        clear k1 k2 k4 HR
        go_enter Tryz.func73, Tryz.ntmps73
        go_wp2_with (first | (go_at_call 116; (with_reducible refine Calls.mono (K1.out _) ?_); rintro r w1 ⟨rfl, rfl⟩) | (go_at_call 117; (with_reducible refine Calls.mono (K2.out _) ?_); rintro r w1 ⟨rfl, rfl⟩))
        have hB := hB0
        obtain ⟨szb0, szb1, szb2⟩ := C3.since zb
        refine wp_region_since (by kernel_rfl) (by kernel_rfl) ?_
        repeat (quiet_step (fail))
        refine wpQuiet_nil ?_
        intro w_ hw_
        obtain ⟨⟨w1, hb⟩, hw2⟩ := hw_
        have hw3 : w1 = w_ := hw2.symm
        clear hw2
        subst hw3
        clear szb0 szb1 szb2
        replace hB := hB.trans (hb.mono hB.size)
        have hz := hb.size
        replace zb := C3.carry zb hb
        have zz := zb
        obtain ⟨x0, x1, x2, x3, x4, x5, x6⟩ := zz
        clear wr1 tn1 nn1
        replace hB0 := hB
        clear y0 y1 y2 y3 y4 y5 y6
        have zz := zb
        obtain ⟨y0, y1, y2, y3, y4, y5, y6⟩ := zz
        go_wp2_with (first | (go_at_call 118; (with_reducible refine Calls.mono (K4.out _ (by omega) _) ?_); rintro r w1 ⟨rfl, hb⟩; replace hB0 := hB0.trans (hb.mono hB0.size); have hz := hB0.size; replace zb := C3.carry zb hb; have zz := zb; obtain ⟨y0, y1, y2, y3, y4, y5, y6⟩ := zz))
        have s0 := y0; have s1 := y1; have s2 := y2
        obtain ⟨t0, t1, t2⟩ := set3 y0 y1 y2 (.bool F.1.n) (.int .i64 F.1.c) (.int .i64 F.1.e)
        exact bodyPost_ret (v := .tuple #[.agg #[.bool F.1.n, .int .i64 F.1.c, .int .i64 F.1.e], .bool F.2]) (by simp [results, Tryz.results73, go_sem, *]) rfl ⟨rfl, (by repeat (first | with_reducible exact Below.refl _ _ | with_reducible assumption | with_reducible refine Below.setCell ?_ (by first | omega | (simp; done) | (simp <;> omega)) _ | with_reducible refine below_drewN ?_ _ | with_reducible refine Below.drew ?_ | with_reducible refine Below.alloc ?_ (by first | omega | (simp; done) | (simp <;> omega)) _))⟩
    · have HF := Lib.hid (HM.out.trans h1)
      have K1 := Lib.hid k1
      clear k1 h1 HM HR
      go_enter Tryz.func73, Tryz.ntmps73
      go_wp2_with (first | (go_at_call 116; (with_reducible refine Calls.mono (K1.out _) ?_); rintro r w1 ⟨rfl, rfl⟩))
      exact bodyPost_ret (v := .tuple #[.agg #[.bool false, .int .i64 0, .int .i64 0], .bool false]) (by simp [results, Tryz.results73, go_sem, *]) rfl ⟨by rw [HF.out]; rfl, (by repeat (first | with_reducible exact Below.refl _ _ | with_reducible assumption | with_reducible refine Below.setCell ?_ (by first | omega | (simp; done) | (simp <;> omega)) _ | with_reducible refine below_drewN ?_ _ | with_reducible refine Below.drew ?_ | with_reducible refine Below.alloc ?_ (by first | omega | (simp; done) | (simp <;> omega)) _))⟩
  · obtain ⟨w1, w2⟩ := suf_snoc x b
    rw [List.concat_eq_append] at *
    obtain ⟨S, hS, f1, f2, f3, f4, f5⟩ := snoc_facts x b
    rw [← hS] at hcut
    have g1 : S[S.size - 1]'(Nat.sub_lt f2 (by decide)) = b := f4 _
    have hmx : x.length ≤ 80 := by rw [List.length_append] at hl; simp at hl; omega
    have hmy : (x ++ [b]).length ≤ 80 := by omega
    have f2b : (1 : Int) ≤ S.size := by omega
    have f6 : S.size ≤ 80 := by rw [f3]; simp at hmy; omega
    have hSs := hS
    clear f4 f3
    generalize hL : (x ++ [b]).length = L at hcut hz0 hl
    clear hL
    by_cases hb : b = 37
    · rw [w2, if_pos hb, w1, show (b == 37) = true by simpa using hb] at HM0
      have HM := Lib.hid HM0.out
      have hq : (((S[S.size - 1]'(by omega)).toNat : Int) == 37) = true := by rw [g1, hb]; rfl
      clear HM0 w1 w2 g1 hb hS hSs hmy
      obtain ⟨d, p, ok, k1, hs⟩ := split_any true true x hmx
      rcases hs with ⟨rfl, h1, h2, h3, h4⟩ | ⟨rfl, h1⟩
      · have hF := HM.out.trans (h1.trans (fin_fd true true d p))
        have dl : d.length ≤ 80 := Nat.le_trans h2 hmx
        have k2 := fun W => indexOfS_any ⟨d.toArray⟩ 46 (by show d.length ≤ _; omega) W
        rw [show (⟨d.toArray⟩ : ByteArray).data.toList = d from rfl, show (((46 : UInt8).toNat : Nat) : Int) = 46 from rfl] at k2
        have hsz : (⟨d.toArray⟩ : ByteArray).size = d.length := rfl
        clear h1 h2
        rcases point_cases2 d with ⟨i1, i2, i3⟩ | ⟨k, i0, i1, i2, i3⟩
        · rw [i1] at k2
          rw [i2, i3, List.append_nil] at hF
          have k4 := from_E true d _ F dl (by simp; omega) hF
          simp only [List.length_nil, if_true] at k4
          clear hF i1 i2 i3 HM
          have K1 := Lib.hid k1; have K2 := Lib.hid k2; have K4 := Lib.hid k4
          clear k1 k2 k4 HR
          clear hmx
          go_enter Tryz.func73, Tryz.ntmps73
          go_wp2_with (first | (go_at_call 116; (with_reducible refine Calls.mono (K1.out _) ?_); rintro r w1 ⟨rfl, rfl⟩) | (go_at_call 117; (with_reducible refine Calls.mono (K2.out _) ?_); rintro r w1 ⟨rfl, rfl⟩) | (go_at_call 118; (with_reducible refine Calls.mono (K4.out _ (by omega) _) ?_); rintro r w1 ⟨rfl, hb⟩; replace hB0 := hB0.trans (hb.mono hB0.size); have hz := hB0.size; replace zb := C3.carry zb hb; have zz := zb; obtain ⟨y0, y1, y2, y3, y4, y5, y6⟩ := zz))
          have s0 := y0; have s1 := y1; have s2 := y2
          obtain ⟨t0, t1, t2⟩ := set3 y0 y1 y2 (.bool F.1.n) (.int .i64 F.1.c) (.int .i64 F.1.e)
          exact bodyPost_ret (v := .tuple #[.agg #[.bool F.1.n, .int .i64 F.1.c, .int .i64 F.1.e], .bool F.2]) (by simp [results, Tryz.results73, go_sem, *]) rfl ⟨rfl, (by repeat (first | with_reducible exact Below.refl _ _ | with_reducible assumption | with_reducible refine Below.setCell ?_ (by first | omega | (simp; done) | (simp <;> omega)) _ | with_reducible refine below_drewN ?_ _ | with_reducible refine Below.drew ?_ | with_reducible refine Below.alloc ?_ (by first | omega | (simp; done) | (simp <;> omega)) _))⟩
        · rw [i1] at k2
          rw [i2, i3] at hF
          have e1 := ext_take k d
          have e2 := ext_drop (k + 1) d
          have c1 := cat_lN (d.take k) (d.drop (k + 1))
          have t1 : (d.take k).length ≤ k := List.length_take_le _ _
          have t2 : (d.drop (k + 1)).length = d.length - (k + 1) := List.length_drop
          have dl2 : (d.take k ++ d.drop (k + 1)).length ≤ 80 := by rw [List.length_append]; omega
          have k4 := from_E true (d.take k ++ d.drop (k + 1)) (p - ((d.length : Int) - k - 1) - 2) F dl2 (by omega) (by rw [hF]; congr 1; rw [t2]; simp <;> omega)
          have tn1 : ((k : Int) + 1).toNat = k + 1 := by omega
          have nn1 : 0 ≤ (k : Int) + 1 := by omega
          have wr1 : IntKind.i64.wrap ((k : Int) + 1) = (k : Int) + 1 := by rw [IntKind.wrap_i64]; omega
          have j1 : (k : Int) + 1 ≤ d.length := by omega
          have j2 : (k : Int) ≤ d.length := by omega
          have q1 : ¬ (9223372036854775807 < (d.take k).length + (d.drop (k + 1)).length) := by omega
          generalize d.take k = A at *
          generalize d.drop (k + 1) = B at *
          clear hF i1 i2 i3 HM t1 t2 dl2
          have K1 := Lib.hid k1; have K2 := Lib.hid k2; have K4 := Lib.hid k4
          clear k1 k2 k4 HR
          clear hmx
          go_enter Tryz.func73, Tryz.ntmps73
          go_wp2_with (first | (go_at_call 116; (with_reducible refine Calls.mono (K1.out _) ?_); rintro r w1 ⟨rfl, rfl⟩) | (go_at_call 117; (with_reducible refine Calls.mono (K2.out _) ?_); rintro r w1 ⟨rfl, rfl⟩))
          have hB := hB0
          obtain ⟨szb0, szb1, szb2⟩ := C3.since zb
          refine wp_region_since (by kernel_rfl) (by kernel_rfl) ?_
          repeat (quiet_step (fail))
          refine wpQuiet_nil ?_
          intro w_ hw_
          obtain ⟨⟨w1, hb⟩, hw2⟩ := hw_
          have hw3 : w1 = w_ := hw2.symm
          clear hw2
          subst hw3
          clear szb0 szb1 szb2
          replace hB := hB.trans (hb.mono hB.size)
          have hz := hb.size
          replace zb := C3.carry zb hb
          have zz := zb
          obtain ⟨x0, x1, x2, x3, x4, x5, x6⟩ := zz
          clear wr1 tn1 nn1
          replace hB0 := hB
          clear y0 y1 y2 y3 y4 y5 y6
          have zz := zb
          obtain ⟨y0, y1, y2, y3, y4, y5, y6⟩ := zz
          go_wp2_with (first | (go_at_call 118; (with_reducible refine Calls.mono (K4.out _ (by omega) _) ?_); rintro r w1 ⟨rfl, hb⟩; replace hB0 := hB0.trans (hb.mono hB0.size); have hz := hB0.size; replace zb := C3.carry zb hb; have zz := zb; obtain ⟨y0, y1, y2, y3, y4, y5, y6⟩ := zz))
          have s0 := y0; have s1 := y1; have s2 := y2
          obtain ⟨t0, t1, t2⟩ := set3 y0 y1 y2 (.bool F.1.n) (.int .i64 F.1.c) (.int .i64 F.1.e)
          exact bodyPost_ret (v := .tuple #[.agg #[.bool F.1.n, .int .i64 F.1.c, .int .i64 F.1.e], .bool F.2]) (by simp [results, Tryz.results73, go_sem, *]) rfl ⟨rfl, (by repeat (first | with_reducible exact Below.refl _ _ | with_reducible assumption | with_reducible refine Below.setCell ?_ (by first | omega | (simp; done) | (simp <;> omega)) _ | with_reducible refine below_drewN ?_ _ | with_reducible refine Below.drew ?_ | with_reducible refine Below.alloc ?_ (by first | omega | (simp; done) | (simp <;> omega)) _))⟩
      · have HF := Lib.hid (HM.out.trans h1)
        have K1 := Lib.hid k1
        clear k1 h1 HM HR
        clear hmx
        go_enter Tryz.func73, Tryz.ntmps73
        go_wp2_with (first | (go_at_call 116; (with_reducible refine Calls.mono (K1.out _) ?_); rintro r w1 ⟨rfl, rfl⟩))
        exact bodyPost_ret (v := .tuple #[.agg #[.bool false, .int .i64 0, .int .i64 0], .bool false]) (by simp [results, Tryz.results73, go_sem, *]) rfl ⟨by rw [HF.out]; rfl, (by repeat (first | with_reducible exact Below.refl _ _ | with_reducible assumption | with_reducible refine Below.setCell ?_ (by first | omega | (simp; done) | (simp <;> omega)) _ | with_reducible refine below_drewN ?_ _ | with_reducible refine Below.drew ?_ | with_reducible refine Below.alloc ?_ (by first | omega | (simp; done) | (simp <;> omega)) _))⟩
    · rw [w2, if_neg hb, w1, show (b == 37) = false by simpa using hb] at HM0
      have HM := Lib.hid HM0.out
      have hq : (((S[S.size - 1]'(by omega)).toNat : Int) == 37) = false := by rw [g1]; exact byte_is 37 hb
      clear HM0 w1 w2 g1 hb f5 hmx
      obtain ⟨d, p, ok, k1, hs⟩ := split_any true false (x ++ [b]) hmy
      rw [← hS] at k1
      clear hS hSs
      rcases hs with ⟨rfl, h1, h2, h3, h4⟩ | ⟨rfl, h1⟩
      · have hF := HM.out.trans (h1.trans (fin_fd true false d p))
        have dl : d.length ≤ 80 := Nat.le_trans h2 hmy
        have k2 := fun W => indexOfS_any ⟨d.toArray⟩ 46 (by show d.length ≤ _; omega) W
        rw [show (⟨d.toArray⟩ : ByteArray).data.toList = d from rfl, show (((46 : UInt8).toNat : Nat) : Int) = 46 from rfl] at k2
        have hsz : (⟨d.toArray⟩ : ByteArray).size = d.length := rfl
        clear h1 h2
        rcases point_cases2 d with ⟨i1, i2, i3⟩ | ⟨k, i0, i1, i2, i3⟩
        · rw [i1] at k2
          rw [i2, i3, List.append_nil] at hF
          have k4 := from_E true d _ F dl (by simp; omega) hF
          simp only [List.length_nil, Bool.false_eq_true, if_false] at k4
          clear hF i1 i2 i3 HM
          have K1 := Lib.hid k1; have K2 := Lib.hid k2; have K4 := Lib.hid k4
          clear k1 k2 k4 HR
          clear hmy
          go_enter Tryz.func73, Tryz.ntmps73
          go_wp2_with (first | (go_at_call 116; (with_reducible refine Calls.mono (K1.out _) ?_); rintro r w1 ⟨rfl, rfl⟩) | (go_at_call 117; (with_reducible refine Calls.mono (K2.out _) ?_); rintro r w1 ⟨rfl, rfl⟩) | (go_at_call 118; (with_reducible refine Calls.mono (K4.out _ (by omega) _) ?_); rintro r w1 ⟨rfl, hb⟩; replace hB0 := hB0.trans (hb.mono hB0.size); have hz := hB0.size; replace zb := C3.carry zb hb; have zz := zb; obtain ⟨y0, y1, y2, y3, y4, y5, y6⟩ := zz))
          have s0 := y0; have s1 := y1; have s2 := y2
          obtain ⟨t0, t1, t2⟩ := set3 y0 y1 y2 (.bool F.1.n) (.int .i64 F.1.c) (.int .i64 F.1.e)
          exact bodyPost_ret (v := .tuple #[.agg #[.bool F.1.n, .int .i64 F.1.c, .int .i64 F.1.e], .bool F.2]) (by simp [results, Tryz.results73, go_sem, *]) rfl ⟨rfl, (by repeat (first | with_reducible exact Below.refl _ _ | with_reducible assumption | with_reducible refine Below.setCell ?_ (by first | omega | (simp; done) | (simp <;> omega)) _ | with_reducible refine below_drewN ?_ _ | with_reducible refine Below.drew ?_ | with_reducible refine Below.alloc ?_ (by first | omega | (simp; done) | (simp <;> omega)) _))⟩
        · rw [i1] at k2
          rw [i2, i3] at hF
          have e1 := ext_take k d
          have e2 := ext_drop (k + 1) d
          have c1 := cat_lN (d.take k) (d.drop (k + 1))
          have t1 : (d.take k).length ≤ k := List.length_take_le _ _
          have t2 : (d.drop (k + 1)).length = d.length - (k + 1) := List.length_drop
          have dl2 : (d.take k ++ d.drop (k + 1)).length ≤ 80 := by rw [List.length_append]; omega
          have k4 := from_E true (d.take k ++ d.drop (k + 1)) (p - ((d.length : Int) - k - 1) - 0) F dl2 (by omega) (by rw [hF]; congr 1; rw [t2]; simp <;> omega)
          have tn1 : ((k : Int) + 1).toNat = k + 1 := by omega
          have nn1 : 0 ≤ (k : Int) + 1 := by omega
          have wr1 : IntKind.i64.wrap ((k : Int) + 1) = (k : Int) + 1 := by rw [IntKind.wrap_i64]; omega
          have j1 : (k : Int) + 1 ≤ d.length := by omega
          have j2 : (k : Int) ≤ d.length := by omega
          have q1 : ¬ (9223372036854775807 < (d.take k).length + (d.drop (k + 1)).length) := by omega
          generalize d.take k = A at *
          generalize d.drop (k + 1) = B at *
          clear hF i1 i2 i3 HM t1 t2 dl2
          have K1 := Lib.hid k1; have K2 := Lib.hid k2; have K4 := Lib.hid k4
          clear k1 k2 k4 HR
          clear hmy
          go_enter Tryz.func73, Tryz.ntmps73
          go_wp2_with (first | (go_at_call 116; (with_reducible refine Calls.mono (K1.out _) ?_); rintro r w1 ⟨rfl, rfl⟩) | (go_at_call 117; (with_reducible refine Calls.mono (K2.out _) ?_); rintro r w1 ⟨rfl, rfl⟩))
          have hB := hB0
          obtain ⟨szb0, szb1, szb2⟩ := C3.since zb
          refine wp_region_since (by kernel_rfl) (by kernel_rfl) ?_
          repeat (quiet_step (fail))
          refine wpQuiet_nil ?_
          intro w_ hw_
          obtain ⟨⟨w1, hb⟩, hw2⟩ := hw_
          have hw3 : w1 = w_ := hw2.symm
          clear hw2
          subst hw3
          clear szb0 szb1 szb2
          replace hB := hB.trans (hb.mono hB.size)
          have hz := hb.size
          replace zb := C3.carry zb hb
          have zz := zb
          obtain ⟨x0, x1, x2, x3, x4, x5, x6⟩ := zz
          clear wr1 tn1 nn1
          replace hB0 := hB
          clear y0 y1 y2 y3 y4 y5 y6
          have zz := zb
          obtain ⟨y0, y1, y2, y3, y4, y5, y6⟩ := zz
          go_wp2_with (first | (go_at_call 118; (with_reducible refine Calls.mono (K4.out _ (by omega) _) ?_); rintro r w1 ⟨rfl, hb⟩; replace hB0 := hB0.trans (hb.mono hB0.size); have hz := hB0.size; replace zb := C3.carry zb hb; have zz := zb; obtain ⟨y0, y1, y2, y3, y4, y5, y6⟩ := zz))
          have s0 := y0; have s1 := y1; have s2 := y2
          obtain ⟨t0, t1, t2⟩ := set3 y0 y1 y2 (.bool F.1.n) (.int .i64 F.1.c) (.int .i64 F.1.e)
          exact bodyPost_ret (v := .tuple #[.agg #[.bool F.1.n, .int .i64 F.1.c, .int .i64 F.1.e], .bool F.2]) (by simp [results, Tryz.results73, go_sem, *]) rfl ⟨rfl, (by repeat (first | with_reducible exact Below.refl _ _ | with_reducible assumption | with_reducible refine Below.setCell ?_ (by first | omega | (simp; done) | (simp <;> omega)) _ | with_reducible refine below_drewN ?_ _ | with_reducible refine Below.drew ?_ | with_reducible refine Below.alloc ?_ (by first | omega | (simp; done) | (simp <;> omega)) _))⟩
      · have HF := Lib.hid (HM.out.trans h1)
        have K1 := Lib.hid k1
        clear k1 h1 HM HR
        clear hmy
        go_enter Tryz.func73, Tryz.ntmps73
        go_wp2_with (first | (go_at_call 116; (with_reducible refine Calls.mono (K1.out _) ?_); rintro r w1 ⟨rfl, rfl⟩))
        exact bodyPost_ret (v := .tuple #[.agg #[.bool false, .int .i64 0, .int .i64 0], .bool false]) (by simp [results, Tryz.results73, go_sem, *]) rfl ⟨by rw [HF.out]; rfl, (by repeat (first | with_reducible exact Below.refl _ _ | with_reducible assumption | with_reducible refine Below.setCell ?_ (by first | omega | (simp; done) | (simp <;> omega)) _ | with_reducible refine below_drewN ?_ _ | with_reducible refine Below.drew ?_ | with_reducible refine Below.alloc ?_ (by first | omega | (simp; done) | (simp <;> omega)) _))⟩
set_option maxRecDepth 100000 in
set_option maxHeartbeats 8000000 in
theorem readReal_plus (u : List UInt8) (hl : u.length ≤ 79) (w : World) :
    Calls Tryz.prog 73 #[.string ⟨(43 :: u).toArray⟩] w fun r w' => r = .returned (rV (rrL (43 :: u))) ∧ Below w.heap.size w w' := by
  have zb := C3.new w (.bool false) (.int .i64 0) (.int .i64 0) 24
  have hB0 : Below w.heap.size w (w.alloc (.cells #[.bool false, .int .i64 0, .int .i64 0] 24)) := Below.alloc (Below.refl _ _) (Nat.le_refl _) _
  have zz := zb
  obtain ⟨y0, y1, y2, y3, y4, y5, y6⟩ := zz
  generalize hR : rrL (43 :: u) = F
  have HR := Lib.hid hR
  clear hR
  have HM0 := Lib.hid (HR.out.symm.trans (show rrL (43 :: u) = rrM false (Lib.hasSuffix u [37]) (Lib.trimSuffix u [37]) from by unfold rrL; rw [show cutD (43 :: u) = u from by rw [cutD, if_pos (sign_yes (by simp))], show cutN (43 :: u) = false from rfl]))
  have hcut := ext_rest 43 u
  have hx : (((⟨(43 :: u).toArray⟩ : ByteArray)[0]'(by show 0 < (43 :: u).length; simp)).toNat : Int) = 43 := rfl
  have hz0 : (⟨(43 :: u).toArray⟩ : ByteArray).size = u.length + 1 := rfl
  have hne : (⟨(43 :: u).toArray⟩ : ByteArray).toList.isEmpty = false := nonempty_list (by show 1 ≤ (43 :: u).length; simp)
  rcases List.eq_nil_or_concat u with rfl | ⟨x, b, rfl⟩
  · have HM := Lib.hid (HM0.out.trans (show _ = rrM false false [] from rfl))
    clear HM0
    obtain ⟨d, p, ok, k1, hs⟩ := split_any false false [] (by simp)
    have k1 : ∀ W, Calls Tryz.prog 116 #[.string ByteArray.empty] W (fun rr w2 => rr = .returned (.tuple #[.string ⟨d.toArray⟩, .int .i64 p, .bool ok]) ∧ W = w2) := k1
    rcases hs with ⟨rfl, h1, h2, h3, h4⟩ | ⟨rfl, h1⟩
    · have hF := HM.out.trans (h1.trans (fin_fd false false d p))
      have dl : d.length ≤ 80 := Nat.le_trans h2 (by simp)
      have k2 := fun W => indexOfS_any ⟨d.toArray⟩ 46 (by show d.length ≤ _; omega) W
      rw [show (⟨d.toArray⟩ : ByteArray).data.toList = d from rfl, show (((46 : UInt8).toNat : Nat) : Int) = 46 from rfl] at k2
      have hsz : (⟨d.toArray⟩ : ByteArray).size = d.length := rfl
      clear h1 h2
      rcases point_cases2 d with ⟨i1, i2, i3⟩ | ⟨k, i0, i1, i2, i3⟩
      · rw [i1] at k2
        rw [i2, i3, List.append_nil] at hF
        have k4 := from_E false d _ F dl (by simp; omega) hF
        simp only [List.length_nil, Bool.false_eq_true, if_false] at k4
        clear hF i1 i2 i3 HM
        have K1 := Lib.hid k1; have K2 := Lib.hid k2; have K4 := Lib.hid k4
        clear k1 k2 k4 HR
        go_enter Tryz.func73, Tryz.ntmps73
        go_wp2_with (first | (go_at_call 116; (with_reducible refine Calls.mono (K1.out _) ?_); rintro r w1 ⟨rfl, rfl⟩) | (go_at_call 117; (with_reducible refine Calls.mono (K2.out _) ?_); rintro r w1 ⟨rfl, rfl⟩) | (go_at_call 118; (with_reducible refine Calls.mono (K4.out _ (by omega) _) ?_); rintro r w1 ⟨rfl, hb⟩; replace hB0 := hB0.trans (hb.mono hB0.size); have hz := hB0.size; replace zb := C3.carry zb hb; have zz := zb; obtain ⟨y0, y1, y2, y3, y4, y5, y6⟩ := zz))
        have s0 := y0; have s1 := y1; have s2 := y2
        obtain ⟨t0, t1, t2⟩ := set3 y0 y1 y2 (.bool F.1.n) (.int .i64 F.1.c) (.int .i64 F.1.e)
        exact bodyPost_ret (v := .tuple #[.agg #[.bool F.1.n, .int .i64 F.1.c, .int .i64 F.1.e], .bool F.2]) (by simp [results, Tryz.results73, go_sem, *]) rfl ⟨rfl, (by repeat (first | with_reducible exact Below.refl _ _ | with_reducible assumption | with_reducible refine Below.setCell ?_ (by first | omega | (simp; done) | (simp <;> omega)) _ | with_reducible refine below_drewN ?_ _ | with_reducible refine Below.drew ?_ | with_reducible refine Below.alloc ?_ (by first | omega | (simp; done) | (simp <;> omega)) _))⟩
      · rw [i1] at k2
        rw [i2, i3] at hF
        have e1 := ext_take k d
        have e2 := ext_drop (k + 1) d
        have c1 := cat_lN (d.take k) (d.drop (k + 1))
        have t1 : (d.take k).length ≤ k := List.length_take_le _ _
        have t2 : (d.drop (k + 1)).length = d.length - (k + 1) := List.length_drop
        have dl2 : (d.take k ++ d.drop (k + 1)).length ≤ 80 := by rw [List.length_append]; omega
        have k4 := from_E false (d.take k ++ d.drop (k + 1)) (p - ((d.length : Int) - k - 1) - 0) F dl2 (by omega) (by rw [hF]; congr 1; rw [t2]; simp <;> omega)
        have tn1 : ((k : Int) + 1).toNat = k + 1 := by omega
        have nn1 : 0 ≤ (k : Int) + 1 := by omega
        have wr1 : IntKind.i64.wrap ((k : Int) + 1) = (k : Int) + 1 := by rw [IntKind.wrap_i64]; omega
        have j1 : (k : Int) + 1 ≤ d.length := by omega
        have j2 : (k : Int) ≤ d.length := by omega
        have q1 : ¬ (9223372036854775807 < (d.take k).length + (d.drop (k + 1)).length) := by omega
        generalize d.take k = A at *
        generalize d.drop (k + 1) = B at *
        clear hF i1 i2 i3 HM t1 t2 dl2
        have K1 := Lib.hid k1; have K2 := Lib.hid k2; have K4 := Lib.hid k4
        clear k1 k2 k4 HR
        go_enter Tryz.func73, Tryz.ntmps73
        go_wp2_with (first | (go_at_call 116; (with_reducible refine Calls.mono (K1.out _) ?_); rintro r w1 ⟨rfl, rfl⟩) | (go_at_call 117; (with_reducible refine Calls.mono (K2.out _) ?_); rintro r w1 ⟨rfl, rfl⟩))
        have hB := hB0
        obtain ⟨szb0, szb1, szb2⟩ := C3.since zb
        refine wp_region_since (by kernel_rfl) (by kernel_rfl) ?_
        repeat (quiet_step (fail))
        refine wpQuiet_nil ?_
        intro w_ hw_
        obtain ⟨⟨w1, hb⟩, hw2⟩ := hw_
        have hw3 : w1 = w_ := hw2.symm
        clear hw2
        subst hw3
        clear szb0 szb1 szb2
        replace hB := hB.trans (hb.mono hB.size)
        have hz := hb.size
        replace zb := C3.carry zb hb
        have zz := zb
        obtain ⟨x0, x1, x2, x3, x4, x5, x6⟩ := zz
        clear wr1 tn1 nn1
        replace hB0 := hB
        clear y0 y1 y2 y3 y4 y5 y6
        have zz := zb
        obtain ⟨y0, y1, y2, y3, y4, y5, y6⟩ := zz
        go_wp2_with (first | (go_at_call 118; (with_reducible refine Calls.mono (K4.out _ (by omega) _) ?_); rintro r w1 ⟨rfl, hb⟩; replace hB0 := hB0.trans (hb.mono hB0.size); have hz := hB0.size; replace zb := C3.carry zb hb; have zz := zb; obtain ⟨y0, y1, y2, y3, y4, y5, y6⟩ := zz))
        have s0 := y0; have s1 := y1; have s2 := y2
        obtain ⟨t0, t1, t2⟩ := set3 y0 y1 y2 (.bool F.1.n) (.int .i64 F.1.c) (.int .i64 F.1.e)
        exact bodyPost_ret (v := .tuple #[.agg #[.bool F.1.n, .int .i64 F.1.c, .int .i64 F.1.e], .bool F.2]) (by simp [results, Tryz.results73, go_sem, *]) rfl ⟨rfl, (by repeat (first | with_reducible exact Below.refl _ _ | with_reducible assumption | with_reducible refine Below.setCell ?_ (by first | omega | (simp; done) | (simp <;> omega)) _ | with_reducible refine below_drewN ?_ _ | with_reducible refine Below.drew ?_ | with_reducible refine Below.alloc ?_ (by first | omega | (simp; done) | (simp <;> omega)) _))⟩
    · have HF := Lib.hid (HM.out.trans h1)
      have K1 := Lib.hid k1
      clear k1 h1 HM HR
      go_enter Tryz.func73, Tryz.ntmps73
      go_wp2_with (first | (go_at_call 116; (with_reducible refine Calls.mono (K1.out _) ?_); rintro r w1 ⟨rfl, rfl⟩))
      exact bodyPost_ret (v := .tuple #[.agg #[.bool false, .int .i64 0, .int .i64 0], .bool false]) (by simp [results, Tryz.results73, go_sem, *]) rfl ⟨by rw [HF.out]; rfl, (by repeat (first | with_reducible exact Below.refl _ _ | with_reducible assumption | with_reducible refine Below.setCell ?_ (by first | omega | (simp; done) | (simp <;> omega)) _ | with_reducible refine below_drewN ?_ _ | with_reducible refine Below.drew ?_ | with_reducible refine Below.alloc ?_ (by first | omega | (simp; done) | (simp <;> omega)) _))⟩
  · obtain ⟨w1, w2⟩ := suf_snoc x b
    rw [List.concat_eq_append] at *
    obtain ⟨S, hS, f1, f2, f3, f4, f5⟩ := snoc_facts x b
    rw [← hS] at hcut
    have g1 : S[S.size - 1]'(Nat.sub_lt f2 (by decide)) = b := f4 _
    have hmx : x.length ≤ 80 := by rw [List.length_append] at hl; simp at hl; omega
    have hmy : (x ++ [b]).length ≤ 80 := by omega
    have f2b : (1 : Int) ≤ S.size := by omega
    have f6 : S.size ≤ 80 := by rw [f3]; simp at hmy; omega
    have hSs := hS
    clear f4 f3
    generalize hL : (x ++ [b]).length = L at hcut hz0 hl
    clear hL
    by_cases hb : b = 37
    · rw [w2, if_pos hb, w1, show (b == 37) = true by simpa using hb] at HM0
      have HM := Lib.hid HM0.out
      have hq : (((S[S.size - 1]'(by omega)).toNat : Int) == 37) = true := by rw [g1, hb]; rfl
      clear HM0 w1 w2 g1 hb hS hSs hmy
      obtain ⟨d, p, ok, k1, hs⟩ := split_any false true x hmx
      rcases hs with ⟨rfl, h1, h2, h3, h4⟩ | ⟨rfl, h1⟩
      · have hF := HM.out.trans (h1.trans (fin_fd false true d p))
        have dl : d.length ≤ 80 := Nat.le_trans h2 hmx
        have k2 := fun W => indexOfS_any ⟨d.toArray⟩ 46 (by show d.length ≤ _; omega) W
        rw [show (⟨d.toArray⟩ : ByteArray).data.toList = d from rfl, show (((46 : UInt8).toNat : Nat) : Int) = 46 from rfl] at k2
        have hsz : (⟨d.toArray⟩ : ByteArray).size = d.length := rfl
        clear h1 h2
        rcases point_cases2 d with ⟨i1, i2, i3⟩ | ⟨k, i0, i1, i2, i3⟩
        · rw [i1] at k2
          rw [i2, i3, List.append_nil] at hF
          have k4 := from_E false d _ F dl (by simp; omega) hF
          simp only [List.length_nil, if_true] at k4
          clear hF i1 i2 i3 HM
          have K1 := Lib.hid k1; have K2 := Lib.hid k2; have K4 := Lib.hid k4
          clear k1 k2 k4 HR
          clear hmx
          go_enter Tryz.func73, Tryz.ntmps73
          go_wp2_with (first | (go_at_call 116; (with_reducible refine Calls.mono (K1.out _) ?_); rintro r w1 ⟨rfl, rfl⟩) | (go_at_call 117; (with_reducible refine Calls.mono (K2.out _) ?_); rintro r w1 ⟨rfl, rfl⟩) | (go_at_call 118; (with_reducible refine Calls.mono (K4.out _ (by omega) _) ?_); rintro r w1 ⟨rfl, hb⟩; replace hB0 := hB0.trans (hb.mono hB0.size); have hz := hB0.size; replace zb := C3.carry zb hb; have zz := zb; obtain ⟨y0, y1, y2, y3, y4, y5, y6⟩ := zz))
          have s0 := y0; have s1 := y1; have s2 := y2
          obtain ⟨t0, t1, t2⟩ := set3 y0 y1 y2 (.bool F.1.n) (.int .i64 F.1.c) (.int .i64 F.1.e)
          exact bodyPost_ret (v := .tuple #[.agg #[.bool F.1.n, .int .i64 F.1.c, .int .i64 F.1.e], .bool F.2]) (by simp [results, Tryz.results73, go_sem, *]) rfl ⟨rfl, (by repeat (first | with_reducible exact Below.refl _ _ | with_reducible assumption | with_reducible refine Below.setCell ?_ (by first | omega | (simp; done) | (simp <;> omega)) _ | with_reducible refine below_drewN ?_ _ | with_reducible refine Below.drew ?_ | with_reducible refine Below.alloc ?_ (by first | omega | (simp; done) | (simp <;> omega)) _))⟩
        · rw [i1] at k2
          rw [i2, i3] at hF
          have e1 := ext_take k d
          have e2 := ext_drop (k + 1) d
          have c1 := cat_lN (d.take k) (d.drop (k + 1))
          have t1 : (d.take k).length ≤ k := List.length_take_le _ _
          have t2 : (d.drop (k + 1)).length = d.length - (k + 1) := List.length_drop
          have dl2 : (d.take k ++ d.drop (k + 1)).length ≤ 80 := by rw [List.length_append]; omega
          have k4 := from_E false (d.take k ++ d.drop (k + 1)) (p - ((d.length : Int) - k - 1) - 2) F dl2 (by omega) (by rw [hF]; congr 1; rw [t2]; simp <;> omega)
          have tn1 : ((k : Int) + 1).toNat = k + 1 := by omega
          have nn1 : 0 ≤ (k : Int) + 1 := by omega
          have wr1 : IntKind.i64.wrap ((k : Int) + 1) = (k : Int) + 1 := by rw [IntKind.wrap_i64]; omega
          have j1 : (k : Int) + 1 ≤ d.length := by omega
          have j2 : (k : Int) ≤ d.length := by omega
          have q1 : ¬ (9223372036854775807 < (d.take k).length + (d.drop (k + 1)).length) := by omega
          generalize d.take k = A at *
          generalize d.drop (k + 1) = B at *
          clear hF i1 i2 i3 HM t1 t2 dl2
          have K1 := Lib.hid k1; have K2 := Lib.hid k2; have K4 := Lib.hid k4
          clear k1 k2 k4 HR
          clear hmx
          go_enter Tryz.func73, Tryz.ntmps73
          go_wp2_with (first | (go_at_call 116; (with_reducible refine Calls.mono (K1.out _) ?_); rintro r w1 ⟨rfl, rfl⟩) | (go_at_call 117; (with_reducible refine Calls.mono (K2.out _) ?_); rintro r w1 ⟨rfl, rfl⟩))
          have hB := hB0
          obtain ⟨szb0, szb1, szb2⟩ := C3.since zb
          refine wp_region_since (by kernel_rfl) (by kernel_rfl) ?_
          repeat (quiet_step (fail))
          refine wpQuiet_nil ?_
          intro w_ hw_
          obtain ⟨⟨w1, hb⟩, hw2⟩ := hw_
          have hw3 : w1 = w_ := hw2.symm
          clear hw2
          subst hw3
          clear szb0 szb1 szb2
          replace hB := hB.trans (hb.mono hB.size)
          have hz := hb.size
          replace zb := C3.carry zb hb
          have zz := zb
          obtain ⟨x0, x1, x2, x3, x4, x5, x6⟩ := zz
          clear wr1 tn1 nn1
          replace hB0 := hB
          clear y0 y1 y2 y3 y4 y5 y6
          have zz := zb
          obtain ⟨y0, y1, y2, y3, y4, y5, y6⟩ := zz
          go_wp2_with (first | (go_at_call 118; (with_reducible refine Calls.mono (K4.out _ (by omega) _) ?_); rintro r w1 ⟨rfl, hb⟩; replace hB0 := hB0.trans (hb.mono hB0.size); have hz := hB0.size; replace zb := C3.carry zb hb; have zz := zb; obtain ⟨y0, y1, y2, y3, y4, y5, y6⟩ := zz))
          have s0 := y0; have s1 := y1; have s2 := y2
          obtain ⟨t0, t1, t2⟩ := set3 y0 y1 y2 (.bool F.1.n) (.int .i64 F.1.c) (.int .i64 F.1.e)
          exact bodyPost_ret (v := .tuple #[.agg #[.bool F.1.n, .int .i64 F.1.c, .int .i64 F.1.e], .bool F.2]) (by simp [results, Tryz.results73, go_sem, *]) rfl ⟨rfl, (by repeat (first | with_reducible exact Below.refl _ _ | with_reducible assumption | with_reducible refine Below.setCell ?_ (by first | omega | (simp; done) | (simp <;> omega)) _ | with_reducible refine below_drewN ?_ _ | with_reducible refine Below.drew ?_ | with_reducible refine Below.alloc ?_ (by first | omega | (simp; done) | (simp <;> omega)) _))⟩
      · have HF := Lib.hid (HM.out.trans h1)
        have K1 := Lib.hid k1
        clear k1 h1 HM HR
        clear hmx
        go_enter Tryz.func73, Tryz.ntmps73
        go_wp2_with (first | (go_at_call 116; (with_reducible refine Calls.mono (K1.out _) ?_); rintro r w1 ⟨rfl, rfl⟩))
        exact bodyPost_ret (v := .tuple #[.agg #[.bool false, .int .i64 0, .int .i64 0], .bool false]) (by simp [results, Tryz.results73, go_sem, *]) rfl ⟨by rw [HF.out]; rfl, (by repeat (first | with_reducible exact Below.refl _ _ | with_reducible assumption | with_reducible refine Below.setCell ?_ (by first | omega | (simp; done) | (simp <;> omega)) _ | with_reducible refine below_drewN ?_ _ | with_reducible refine Below.drew ?_ | with_reducible refine Below.alloc ?_ (by first | omega | (simp; done) | (simp <;> omega)) _))⟩
    · rw [w2, if_neg hb, w1, show (b == 37) = false by simpa using hb] at HM0
      have HM := Lib.hid HM0.out
      have hq : (((S[S.size - 1]'(by omega)).toNat : Int) == 37) = false := by rw [g1]; exact byte_is 37 hb
      clear HM0 w1 w2 g1 hb f5 hmx
      obtain ⟨d, p, ok, k1, hs⟩ := split_any false false (x ++ [b]) hmy
      rw [← hS] at k1
      clear hS hSs
      rcases hs with ⟨rfl, h1, h2, h3, h4⟩ | ⟨rfl, h1⟩
      · have hF := HM.out.trans (h1.trans (fin_fd false false d p))
        have dl : d.length ≤ 80 := Nat.le_trans h2 hmy
        have k2 := fun W => indexOfS_any ⟨d.toArray⟩ 46 (by show d.length ≤ _; omega) W
        rw [show (⟨d.toArray⟩ : ByteArray).data.toList = d from rfl, show (((46 : UInt8).toNat : Nat) : Int) = 46 from rfl] at k2
        have hsz : (⟨d.toArray⟩ : ByteArray).size = d.length := rfl
        clear h1 h2
        rcases point_cases2 d with ⟨i1, i2, i3⟩ | ⟨k, i0, i1, i2, i3⟩
        · rw [i1] at k2
          rw [i2, i3, List.append_nil] at hF
          have k4 := from_E false d _ F dl (by simp; omega) hF
          simp only [List.length_nil, Bool.false_eq_true, if_false] at k4
          clear hF i1 i2 i3 HM
          have K1 := Lib.hid k1; have K2 := Lib.hid k2; have K4 := Lib.hid k4
          clear k1 k2 k4 HR
          clear hmy
          go_enter Tryz.func73, Tryz.ntmps73
          go_wp2_with (first | (go_at_call 116; (with_reducible refine Calls.mono (K1.out _) ?_); rintro r w1 ⟨rfl, rfl⟩) | (go_at_call 117; (with_reducible refine Calls.mono (K2.out _) ?_); rintro r w1 ⟨rfl, rfl⟩) | (go_at_call 118; (with_reducible refine Calls.mono (K4.out _ (by omega) _) ?_); rintro r w1 ⟨rfl, hb⟩; replace hB0 := hB0.trans (hb.mono hB0.size); have hz := hB0.size; replace zb := C3.carry zb hb; have zz := zb; obtain ⟨y0, y1, y2, y3, y4, y5, y6⟩ := zz))
          have s0 := y0; have s1 := y1; have s2 := y2
          obtain ⟨t0, t1, t2⟩ := set3 y0 y1 y2 (.bool F.1.n) (.int .i64 F.1.c) (.int .i64 F.1.e)
          exact bodyPost_ret (v := .tuple #[.agg #[.bool F.1.n, .int .i64 F.1.c, .int .i64 F.1.e], .bool F.2]) (by simp [results, Tryz.results73, go_sem, *]) rfl ⟨rfl, (by repeat (first | with_reducible exact Below.refl _ _ | with_reducible assumption | with_reducible refine Below.setCell ?_ (by first | omega | (simp; done) | (simp <;> omega)) _ | with_reducible refine below_drewN ?_ _ | with_reducible refine Below.drew ?_ | with_reducible refine Below.alloc ?_ (by first | omega | (simp; done) | (simp <;> omega)) _))⟩
        · rw [i1] at k2
          rw [i2, i3] at hF
          have e1 := ext_take k d
          have e2 := ext_drop (k + 1) d
          have c1 := cat_lN (d.take k) (d.drop (k + 1))
          have t1 : (d.take k).length ≤ k := List.length_take_le _ _
          have t2 : (d.drop (k + 1)).length = d.length - (k + 1) := List.length_drop
          have dl2 : (d.take k ++ d.drop (k + 1)).length ≤ 80 := by rw [List.length_append]; omega
          have k4 := from_E false (d.take k ++ d.drop (k + 1)) (p - ((d.length : Int) - k - 1) - 0) F dl2 (by omega) (by rw [hF]; congr 1; rw [t2]; simp <;> omega)
          have tn1 : ((k : Int) + 1).toNat = k + 1 := by omega
          have nn1 : 0 ≤ (k : Int) + 1 := by omega
          have wr1 : IntKind.i64.wrap ((k : Int) + 1) = (k : Int) + 1 := by rw [IntKind.wrap_i64]; omega
          have j1 : (k : Int) + 1 ≤ d.length := by omega
          have j2 : (k : Int) ≤ d.length := by omega
          have q1 : ¬ (9223372036854775807 < (d.take k).length + (d.drop (k + 1)).length) := by omega
          generalize d.take k = A at *
          generalize d.drop (k + 1) = B at *
          clear hF i1 i2 i3 HM t1 t2 dl2
          have K1 := Lib.hid k1; have K2 := Lib.hid k2; have K4 := Lib.hid k4
          clear k1 k2 k4 HR
          clear hmy
          go_enter Tryz.func73, Tryz.ntmps73
          go_wp2_with (first | (go_at_call 116; (with_reducible refine Calls.mono (K1.out _) ?_); rintro r w1 ⟨rfl, rfl⟩) | (go_at_call 117; (with_reducible refine Calls.mono (K2.out _) ?_); rintro r w1 ⟨rfl, rfl⟩))
          have hB := hB0
          obtain ⟨szb0, szb1, szb2⟩ := C3.since zb
          refine wp_region_since (by kernel_rfl) (by kernel_rfl) ?_
          repeat (quiet_step (fail))
          refine wpQuiet_nil ?_
          intro w_ hw_
          obtain ⟨⟨w1, hb⟩, hw2⟩ := hw_
          have hw3 : w1 = w_ := hw2.symm
          clear hw2
          subst hw3
          clear szb0 szb1 szb2
          replace hB := hB.trans (hb.mono hB.size)
          have hz := hb.size
          replace zb := C3.carry zb hb
          have zz := zb
          obtain ⟨x0, x1, x2, x3, x4, x5, x6⟩ := zz
          clear wr1 tn1 nn1
          replace hB0 := hB
          clear y0 y1 y2 y3 y4 y5 y6
          have zz := zb
          obtain ⟨y0, y1, y2, y3, y4, y5, y6⟩ := zz
          go_wp2_with (first | (go_at_call 118; (with_reducible refine Calls.mono (K4.out _ (by omega) _) ?_); rintro r w1 ⟨rfl, hb⟩; replace hB0 := hB0.trans (hb.mono hB0.size); have hz := hB0.size; replace zb := C3.carry zb hb; have zz := zb; obtain ⟨y0, y1, y2, y3, y4, y5, y6⟩ := zz))
          have s0 := y0; have s1 := y1; have s2 := y2
          obtain ⟨t0, t1, t2⟩ := set3 y0 y1 y2 (.bool F.1.n) (.int .i64 F.1.c) (.int .i64 F.1.e)
          exact bodyPost_ret (v := .tuple #[.agg #[.bool F.1.n, .int .i64 F.1.c, .int .i64 F.1.e], .bool F.2]) (by simp [results, Tryz.results73, go_sem, *]) rfl ⟨rfl, (by repeat (first | with_reducible exact Below.refl _ _ | with_reducible assumption | with_reducible refine Below.setCell ?_ (by first | omega | (simp; done) | (simp <;> omega)) _ | with_reducible refine below_drewN ?_ _ | with_reducible refine Below.drew ?_ | with_reducible refine Below.alloc ?_ (by first | omega | (simp; done) | (simp <;> omega)) _))⟩
      · have HF := Lib.hid (HM.out.trans h1)
        have K1 := Lib.hid k1
        clear k1 h1 HM HR
        clear hmy
        go_enter Tryz.func73, Tryz.ntmps73
        go_wp2_with (first | (go_at_call 116; (with_reducible refine Calls.mono (K1.out _) ?_); rintro r w1 ⟨rfl, rfl⟩))
        exact bodyPost_ret (v := .tuple #[.agg #[.bool false, .int .i64 0, .int .i64 0], .bool false]) (by simp [results, Tryz.results73, go_sem, *]) rfl ⟨by rw [HF.out]; rfl, (by repeat (first | with_reducible exact Below.refl _ _ | with_reducible assumption | with_reducible refine Below.setCell ?_ (by first | omega | (simp; done) | (simp <;> omega)) _ | with_reducible refine below_drewN ?_ _ | with_reducible refine Below.drew ?_ | with_reducible refine Below.alloc ?_ (by first | omega | (simp; done) | (simp <;> omega)) _))⟩
set_option maxRecDepth 100000 in
set_option maxHeartbeats 8000000 in
theorem readReal_space (u : List UInt8) (hl : u.length ≤ 79) (w : World) :
    Calls Tryz.prog 73 #[.string ⟨(32 :: u).toArray⟩] w fun r w' => r = .returned (rV (rrL (32 :: u))) ∧ Below w.heap.size w w' := by
  have zb := C3.new w (.bool false) (.int .i64 0) (.int .i64 0) 24
  have hB0 : Below w.heap.size w (w.alloc (.cells #[.bool false, .int .i64 0, .int .i64 0] 24)) := Below.alloc (Below.refl _ _) (Nat.le_refl _) _
  have zz := zb
  obtain ⟨y0, y1, y2, y3, y4, y5, y6⟩ := zz
  generalize hR : rrL (32 :: u) = F
  have HR := Lib.hid hR
  clear hR
  have HM0 := Lib.hid (HR.out.symm.trans (show rrL (32 :: u) = rrM false (Lib.hasSuffix u [37]) (Lib.trimSuffix u [37]) from by unfold rrL; rw [show cutD (32 :: u) = u from by rw [cutD, if_pos (sign_yes (by simp))], show cutN (32 :: u) = false from rfl]))
  have hcut := ext_rest 32 u
  have hx : (((⟨(32 :: u).toArray⟩ : ByteArray)[0]'(by show 0 < (32 :: u).length; simp)).toNat : Int) = 32 := rfl
  have hz0 : (⟨(32 :: u).toArray⟩ : ByteArray).size = u.length + 1 := rfl
  have hne : (⟨(32 :: u).toArray⟩ : ByteArray).toList.isEmpty = false := nonempty_list (by show 1 ≤ (32 :: u).length; simp)
  rcases List.eq_nil_or_concat u with rfl | ⟨x, b, rfl⟩
  · have HM := Lib.hid (HM0.out.trans (show _ = rrM false false [] from rfl))
    clear HM0
    obtain ⟨d, p, ok, k1, hs⟩ := split_any false false [] (by simp)
    have k1 : ∀ W, Calls Tryz.prog 116 #[.string ByteArray.empty] W (fun rr w2 => rr = .returned (.tuple #[.string ⟨d.toArray⟩, .int .i64 p, .bool ok]) ∧ W = w2) := k1
    rcases hs with ⟨rfl, h1, h2, h3, h4⟩ | ⟨rfl, h1⟩
    · have hF := HM.out.trans (h1.trans (fin_fd false false d p))
      have dl : d.length ≤ 80 := Nat.le_trans h2 (by simp)
      have k2 := fun W => indexOfS_any ⟨d.toArray⟩ 46 (by show d.length ≤ _; omega) W
      rw [show (⟨d.toArray⟩ : ByteArray).data.toList = d from rfl, show (((46 : UInt8).toNat : Nat) : Int) = 46 from rfl] at k2
      have hsz : (⟨d.toArray⟩ : ByteArray).size = d.length := rfl
      clear h1 h2
      rcases point_cases2 d with ⟨i1, i2, i3⟩ | ⟨k, i0, i1, i2, i3⟩
      · rw [i1] at k2
        rw [i2, i3, List.append_nil] at hF
        have k4 := from_E false d _ F dl (by simp; omega) hF
        simp only [List.length_nil, Bool.false_eq_true, if_false] at k4
        clear hF i1 i2 i3 HM
        have K1 := Lib.hid k1; have K2 := Lib.hid k2; have K4 := Lib.hid k4
        clear k1 k2 k4 HR
        go_enter Tryz.func73, Tryz.ntmps73
        go_wp2_with (first | (go_at_call 116; (with_reducible refine Calls.mono (K1.out _) ?_); rintro r w1 ⟨rfl, rfl⟩) | (go_at_call 117; (with_reducible refine Calls.mono (K2.out _) ?_); rintro r w1 ⟨rfl, rfl⟩) | (go_at_call 118; (with_reducible refine Calls.mono (K4.out _ (by omega) _) ?_); rintro r w1 ⟨rfl, hb⟩; replace hB0 := hB0.trans (hb.mono hB0.size); have hz := hB0.size; replace zb := C3.carry zb hb; have zz := zb; obtain ⟨y0, y1, y2, y3, y4, y5, y6⟩ := zz))
        have s0 := y0; have s1 := y1; have s2 := y2
        obtain ⟨t0, t1, t2⟩ := set3 y0 y1 y2 (.bool F.1.n) (.int .i64 F.1.c) (.int .i64 F.1.e)
        exact bodyPost_ret (v := .tuple #[.agg #[.bool F.1.n, .int .i64 F.1.c, .int .i64 F.1.e], .bool F.2]) (by simp [results, Tryz.results73, go_sem, *]) rfl ⟨rfl, (by repeat (first | with_reducible exact Below.refl _ _ | with_reducible assumption | with_reducible refine Below.setCell ?_ (by first | omega | (simp; done) | (simp <;> omega)) _ | with_reducible refine below_drewN ?_ _ | with_reducible refine Below.drew ?_ | with_reducible refine Below.alloc ?_ (by first | omega | (simp; done) | (simp <;> omega)) _))⟩
      · rw [i1] at k2
        rw [i2, i3] at hF
        have e1 := ext_take k d
        have e2 := ext_drop (k + 1) d
        have c1 := cat_lN (d.take k) (d.drop (k + 1))
        have t1 : (d.take k).length ≤ k := List.length_take_le _ _
        have t2 : (d.drop (k + 1)).length = d.length - (k + 1) := List.length_drop
        have dl2 : (d.take k ++ d.drop (k + 1)).length ≤ 80 := by rw [List.length_append]; omega
        have k4 := from_E false (d.take k ++ d.drop (k + 1)) (p - ((d.length : Int) - k - 1) - 0) F dl2 (by omega) (by rw [hF]; congr 1; rw [t2]; simp <;> omega)
        have tn1 : ((k : Int) + 1).toNat = k + 1 := by omega
        have nn1 : 0 ≤ (k : Int) + 1 := by omega
        have wr1 : IntKind.i64.wrap ((k : Int) + 1) = (k : Int) + 1 := by rw [IntKind.wrap_i64]; omega
        have j1 : (k : Int) + 1 ≤ d.length := by omega
        have j2 : (k : Int) ≤ d.length := by omega
        have q1 : ¬ (9223372036854775807 < (d.take k).length + (d.drop (k + 1)).length) := by omega
        generalize d.take k = A at *
        generalize d.drop (k + 1) = B at *
        clear hF i1 i2 i3 HM t1 t2 dl2
        have K1 := Lib.hid k1; have K2 := Lib.hid k2; have K4 := Lib.hid k4
        clear k1 k2 k4 HR
        go_enter Tryz.func73, Tryz.ntmps73
        go_wp2_with (first | (go_at_call 116; (with_reducible refine Calls.mono (K1.out _) ?_); rintro r w1 ⟨rfl, rfl⟩) | (go_at_call 117; (with_reducible refine Calls.mono (K2.out _) ?_); rintro r w1 ⟨rfl, rfl⟩))
        have hB := hB0
        obtain ⟨szb0, szb1, szb2⟩ := C3.since zb
        refine wp_region_since (by kernel_rfl) (by kernel_rfl) ?_
        repeat (quiet_step (fail))
        refine wpQuiet_nil ?_
        intro w_ hw_
        obtain ⟨⟨w1, hb⟩, hw2⟩ := hw_
        have hw3 : w1 = w_ := hw2.symm
        clear hw2
        subst hw3
        clear szb0 szb1 szb2
        replace hB := hB.trans (hb.mono hB.size)
        have hz := hb.size
        replace zb := C3.carry zb hb
        have zz := zb
        obtain ⟨x0, x1, x2, x3, x4, x5, x6⟩ := zz
        clear wr1 tn1 nn1
        replace hB0 := hB
        clear y0 y1 y2 y3 y4 y5 y6
        have zz := zb
        obtain ⟨y0, y1, y2, y3, y4, y5, y6⟩ := zz
        go_wp2_with (first | (go_at_call 118; (with_reducible refine Calls.mono (K4.out _ (by omega) _) ?_); rintro r w1 ⟨rfl, hb⟩; replace hB0 := hB0.trans (hb.mono hB0.size); have hz := hB0.size; replace zb := C3.carry zb hb; have zz := zb; obtain ⟨y0, y1, y2, y3, y4, y5, y6⟩ := zz))
        have s0 := y0; have s1 := y1; have s2 := y2
        obtain ⟨t0, t1, t2⟩ := set3 y0 y1 y2 (.bool F.1.n) (.int .i64 F.1.c) (.int .i64 F.1.e)
        exact bodyPost_ret (v := .tuple #[.agg #[.bool F.1.n, .int .i64 F.1.c, .int .i64 F.1.e], .bool F.2]) (by simp [results, Tryz.results73, go_sem, *]) rfl ⟨rfl, (by repeat (first | with_reducible exact Below.refl _ _ | with_reducible assumption | with_reducible refine Below.setCell ?_ (by first | omega | (simp; done) | (simp <;> omega)) _ | with_reducible refine below_drewN ?_ _ | with_reducible refine Below.drew ?_ | with_reducible refine Below.alloc ?_ (by first | omega | (simp; done) | (simp <;> omega)) _))⟩
    · have HF := Lib.hid (HM.out.trans h1)
      have K1 := Lib.hid k1
      clear k1 h1 HM HR
      go_enter Tryz.func73, Tryz.ntmps73
      go_wp2_with (first | (go_at_call 116; (with_reducible refine Calls.mono (K1.out _) ?_); rintro r w1 ⟨rfl, rfl⟩))
      exact bodyPost_ret (v := .tuple #[.agg #[.bool false, .int .i64 0, .int .i64 0], .bool false]) (by simp [results, Tryz.results73, go_sem, *]) rfl ⟨by rw [HF.out]; rfl, (by repeat (first | with_reducible exact Below.refl _ _ | with_reducible assumption | with_reducible refine Below.setCell ?_ (by first | omega | (simp; done) | (simp <;> omega)) _ | with_reducible refine below_drewN ?_ _ | with_reducible refine Below.drew ?_ | with_reducible refine Below.alloc ?_ (by first | omega | (simp; done) | (simp <;> omega)) _))⟩
  · obtain ⟨w1, w2⟩ := suf_snoc x b
    rw [List.concat_eq_append] at *
    obtain ⟨S, hS, f1, f2, f3, f4, f5⟩ := snoc_facts x b
    rw [← hS] at hcut
    have g1 : S[S.size - 1]'(Nat.sub_lt f2 (by decide)) = b := f4 _
    have hmx : x.length ≤ 80 := by rw [List.length_append] at hl; simp at hl; omega
    have hmy : (x ++ [b]).length ≤ 80 := by omega
    have f2b : (1 : Int) ≤ S.size := by omega
    have f6 : S.size ≤ 80 := by rw [f3]; simp at hmy; omega
    have hSs := hS
    clear f4 f3
    generalize hL : (x ++ [b]).length = L at hcut hz0 hl
    clear hL
    by_cases hb : b = 37
    · rw [w2, if_pos hb, w1, show (b == 37) = true by simpa using hb] at HM0
      have HM := Lib.hid HM0.out
      have hq : (((S[S.size - 1]'(by omega)).toNat : Int) == 37) = true := by rw [g1, hb]; rfl
      clear HM0 w1 w2 g1 hb hS hSs hmy
      obtain ⟨d, p, ok, k1, hs⟩ := split_any false true x hmx
      rcases hs with ⟨rfl, h1, h2, h3, h4⟩ | ⟨rfl, h1⟩
      · have hF := HM.out.trans (h1.trans (fin_fd false true d p))
        have dl : d.length ≤ 80 := Nat.le_trans h2 hmx
        have k2 := fun W => indexOfS_any ⟨d.toArray⟩ 46 (by show d.length ≤ _; omega) W
        rw [show (⟨d.toArray⟩ : ByteArray).data.toList = d from rfl, show (((46 : UInt8).toNat : Nat) : Int) = 46 from rfl] at k2
        have hsz : (⟨d.toArray⟩ : ByteArray).size = d.length := rfl
        clear h1 h2
        rcases point_cases2 d with ⟨i1, i2, i3⟩ | ⟨k, i0, i1, i2, i3⟩
        · rw [i1] at k2
          rw [i2, i3, List.append_nil] at hF
          have k4 := from_E false d _ F dl (by simp; omega) hF
          simp only [List.length_nil, if_true] at k4
          clear hF i1 i2 i3 HM
          have K1 := Lib.hid k1; have K2 := Lib.hid k2; have K4 := Lib.hid k4
          clear k1 k2 k4 HR
          clear hmx
          go_enter Tryz.func73, Tryz.ntmps73
          go_wp2_with (first | (go_at_call 116; (with_reducible refine Calls.mono (K1.out _) ?_); rintro r w1 ⟨rfl, rfl⟩) | (go_at_call 117; (with_reducible refine Calls.mono (K2.out _) ?_); rintro r w1 ⟨rfl, rfl⟩) | (go_at_call 118; (with_reducible refine Calls.mono (K4.out _ (by omega) _) ?_); rintro r w1 ⟨rfl, hb⟩; replace hB0 := hB0.trans (hb.mono hB0.size); have hz := hB0.size; replace zb := C3.carry zb hb; have zz := zb; obtain ⟨y0, y1, y2, y3, y4, y5, y6⟩ := zz))
          have s0 := y0; have s1 := y1; have s2 := y2
          obtain ⟨t0, t1, t2⟩ := set3 y0 y1 y2 (.bool F.1.n) (.int .i64 F.1.c) (.int .i64 F.1.e)
          exact bodyPost_ret (v := .tuple #[.agg #[.bool F.1.n, .int .i64 F.1.c, .int .i64 F.1.e], .bool F.2]) (by simp [results, Tryz.results73, go_sem, *]) rfl ⟨rfl, (by repeat (first | with_reducible exact Below.refl _ _ | with_reducible assumption | with_reducible refine Below.setCell ?_ (by first | omega | (simp; done) | (simp <;> omega)) _ | with_reducible refine below_drewN ?_ _ | with_reducible refine Below.drew ?_ | with_reducible refine Below.alloc ?_ (by first | omega | (simp; done) | (simp <;> omega)) _))⟩
        · rw [i1] at k2
          rw [i2, i3] at hF
          have e1 := ext_take k d
          have e2 := ext_drop (k + 1) d
          have c1 := cat_lN (d.take k) (d.drop (k + 1))
          have t1 : (d.take k).length ≤ k := List.length_take_le _ _
          have t2 : (d.drop (k + 1)).length = d.length - (k + 1) := List.length_drop
          have dl2 : (d.take k ++ d.drop (k + 1)).length ≤ 80 := by rw [List.length_append]; omega
          have k4 := from_E false (d.take k ++ d.drop (k + 1)) (p - ((d.length : Int) - k - 1) - 2) F dl2 (by omega) (by rw [hF]; congr 1; rw [t2]; simp <;> omega)
          have tn1 : ((k : Int) + 1).toNat = k + 1 := by omega
          have nn1 : 0 ≤ (k : Int) + 1 := by omega
          have wr1 : IntKind.i64.wrap ((k : Int) + 1) = (k : Int) + 1 := by rw [IntKind.wrap_i64]; omega
          have j1 : (k : Int) + 1 ≤ d.length := by omega
          have j2 : (k : Int) ≤ d.length := by omega
          have q1 : ¬ (9223372036854775807 < (d.take k).length + (d.drop (k + 1)).length) := by omega
          generalize d.take k = A at *
          generalize d.drop (k + 1) = B at *
          clear hF i1 i2 i3 HM t1 t2 dl2
          have K1 := Lib.hid k1; have K2 := Lib.hid k2; have K4 := Lib.hid k4
          clear k1 k2 k4 HR
          clear hmx
          go_enter Tryz.func73, Tryz.ntmps73
          go_wp2_with (first | (go_at_call 116; (with_reducible refine Calls.mono (K1.out _) ?_); rintro r w1 ⟨rfl, rfl⟩) | (go_at_call 117; (with_reducible refine Calls.mono (K2.out _) ?_); rintro r w1 ⟨rfl, rfl⟩))
          have hB := hB0
          obtain ⟨szb0, szb1, szb2⟩ := C3.since zb
          refine wp_region_since (by kernel_rfl) (by kernel_rfl) ?_
          repeat (quiet_step (fail))
          refine wpQuiet_nil ?_
          intro w_ hw_
          obtain ⟨⟨w1, hb⟩, hw2⟩ := hw_
          have hw3 : w1 = w_ := hw2.symm
          clear hw2
          subst hw3
          clear szb0 szb1 szb2
          replace hB := hB.trans (hb.mono hB.size)
          have hz := hb.size
          replace zb := C3.carry zb hb
          have zz := zb
          obtain ⟨x0, x1, x2, x3, x4, x5, x6⟩ := zz
          clear wr1 tn1 nn1
          replace hB0 := hB
          clear y0 y1 y2 y3 y4 y5 y6
          have zz := zb
          obtain ⟨y0, y1, y2, y3, y4, y5, y6⟩ := zz
          go_wp2_with (first | (go_at_call 118; (with_reducible refine Calls.mono (K4.out _ (by omega) _) ?_); rintro r w1 ⟨rfl, hb⟩; replace hB0 := hB0.trans (hb.mono hB0.size); have hz := hB0.size; replace zb := C3.carry zb hb; have zz := zb; obtain ⟨y0, y1, y2, y3, y4, y5, y6⟩ := zz))
          have s0 := y0; have s1 := y1; have s2 := y2
          obtain ⟨t0, t1, t2⟩ := set3 y0 y1 y2 (.bool F.1.n) (.int .i64 F.1.c) (.int .i64 F.1.e)
          exact bodyPost_ret (v := .tuple #[.agg #[.bool F.1.n, .int .i64 F.1.c, .int .i64 F.1.e], .bool F.2]) (by simp [results, Tryz.results73, go_sem, *]) rfl ⟨rfl, (by repeat (first | with_reducible exact Below.refl _ _ | with_reducible assumption | with_reducible refine Below.setCell ?_ (by first | omega | (simp; done) | (simp <;> omega)) _ | with_reducible refine below_drewN ?_ _ | with_reducible refine Below.drew ?_ | with_reducible refine Below.alloc ?_ (by first | omega | (simp; done) | (simp <;> omega)) _))⟩
      · have HF := Lib.hid (HM.out.trans h1)
        have K1 := Lib.hid k1
        clear k1 h1 HM HR
        clear hmx
        go_enter Tryz.func73, Tryz.ntmps73
        go_wp2_with (first | (go_at_call 116; (with_reducible refine Calls.mono (K1.out _) ?_); rintro r w1 ⟨rfl, rfl⟩))
        exact bodyPost_ret (v := .tuple #[.agg #[.bool false, .int .i64 0, .int .i64 0], .bool false]) (by simp [results, Tryz.results73, go_sem, *]) rfl ⟨by rw [HF.out]; rfl, (by repeat (first | with_reducible exact Below.refl _ _ | with_reducible assumption | with_reducible refine Below.setCell ?_ (by first | omega | (simp; done) | (simp <;> omega)) _ | with_reducible refine below_drewN ?_ _ | with_reducible refine Below.drew ?_ | with_reducible refine Below.alloc ?_ (by first | omega | (simp; done) | (simp <;> omega)) _))⟩
    · rw [w2, if_neg hb, w1, show (b == 37) = false by simpa using hb] at HM0
      have HM := Lib.hid HM0.out
      have hq : (((S[S.size - 1]'(by omega)).toNat : Int) == 37) = false := by rw [g1]; exact byte_is 37 hb
      clear HM0 w1 w2 g1 hb f5 hmx
      obtain ⟨d, p, ok, k1, hs⟩ := split_any false false (x ++ [b]) hmy
      rw [← hS] at k1
      clear hS hSs
      rcases hs with ⟨rfl, h1, h2, h3, h4⟩ | ⟨rfl, h1⟩
      · have hF := HM.out.trans (h1.trans (fin_fd false false d p))
        have dl : d.length ≤ 80 := Nat.le_trans h2 hmy
        have k2 := fun W => indexOfS_any ⟨d.toArray⟩ 46 (by show d.length ≤ _; omega) W
        rw [show (⟨d.toArray⟩ : ByteArray).data.toList = d from rfl, show (((46 : UInt8).toNat : Nat) : Int) = 46 from rfl] at k2
        have hsz : (⟨d.toArray⟩ : ByteArray).size = d.length := rfl
        clear h1 h2
        rcases point_cases2 d with ⟨i1, i2, i3⟩ | ⟨k, i0, i1, i2, i3⟩
        · rw [i1] at k2
          rw [i2, i3, List.append_nil] at hF
          have k4 := from_E false d _ F dl (by simp; omega) hF
          simp only [List.length_nil, Bool.false_eq_true, if_false] at k4
          clear hF i1 i2 i3 HM
          have K1 := Lib.hid k1; have K2 := Lib.hid k2; have K4 := Lib.hid k4
          clear k1 k2 k4 HR
          clear hmy
          go_enter Tryz.func73, Tryz.ntmps73
          go_wp2_with (first | (go_at_call 116; (with_reducible refine Calls.mono (K1.out _) ?_); rintro r w1 ⟨rfl, rfl⟩) | (go_at_call 117; (with_reducible refine Calls.mono (K2.out _) ?_); rintro r w1 ⟨rfl, rfl⟩) | (go_at_call 118; (with_reducible refine Calls.mono (K4.out _ (by omega) _) ?_); rintro r w1 ⟨rfl, hb⟩; replace hB0 := hB0.trans (hb.mono hB0.size); have hz := hB0.size; replace zb := C3.carry zb hb; have zz := zb; obtain ⟨y0, y1, y2, y3, y4, y5, y6⟩ := zz))
          have s0 := y0; have s1 := y1; have s2 := y2
          obtain ⟨t0, t1, t2⟩ := set3 y0 y1 y2 (.bool F.1.n) (.int .i64 F.1.c) (.int .i64 F.1.e)
          exact bodyPost_ret (v := .tuple #[.agg #[.bool F.1.n, .int .i64 F.1.c, .int .i64 F.1.e], .bool F.2]) (by simp [results, Tryz.results73, go_sem, *]) rfl ⟨rfl, (by repeat (first | with_reducible exact Below.refl _ _ | with_reducible assumption | with_reducible refine Below.setCell ?_ (by first | omega | (simp; done) | (simp <;> omega)) _ | with_reducible refine below_drewN ?_ _ | with_reducible refine Below.drew ?_ | with_reducible refine Below.alloc ?_ (by first | omega | (simp; done) | (simp <;> omega)) _))⟩
        · rw [i1] at k2
          rw [i2, i3] at hF
          have e1 := ext_take k d
          have e2 := ext_drop (k + 1) d
          have c1 := cat_lN (d.take k) (d.drop (k + 1))
          have t1 : (d.take k).length ≤ k := List.length_take_le _ _
          have t2 : (d.drop (k + 1)).length = d.length - (k + 1) := List.length_drop
          have dl2 : (d.take k ++ d.drop (k + 1)).length ≤ 80 := by rw [List.length_append]; omega
          have k4 := from_E false (d.take k ++ d.drop (k + 1)) (p - ((d.length : Int) - k - 1) - 0) F dl2 (by omega) (by rw [hF]; congr 1; rw [t2]; simp <;> omega)
          have tn1 : ((k : Int) + 1).toNat = k + 1 := by omega
          have nn1 : 0 ≤ (k : Int) + 1 := by omega
          have wr1 : IntKind.i64.wrap ((k : Int) + 1) = (k : Int) + 1 := by rw [IntKind.wrap_i64]; omega
          have j1 : (k : Int) + 1 ≤ d.length := by omega
          have j2 : (k : Int) ≤ d.length := by omega
          have q1 : ¬ (9223372036854775807 < (d.take k).length + (d.drop (k + 1)).length) := by omega
          generalize d.take k = A at *
          generalize d.drop (k + 1) = B at *
          clear hF i1 i2 i3 HM t1 t2 dl2
          have K1 := Lib.hid k1; have K2 := Lib.hid k2; have K4 := Lib.hid k4
          clear k1 k2 k4 HR
          clear hmy
          go_enter Tryz.func73, Tryz.ntmps73
          go_wp2_with (first | (go_at_call 116; (with_reducible refine Calls.mono (K1.out _) ?_); rintro r w1 ⟨rfl, rfl⟩) | (go_at_call 117; (with_reducible refine Calls.mono (K2.out _) ?_); rintro r w1 ⟨rfl, rfl⟩))
          have hB := hB0
          obtain ⟨szb0, szb1, szb2⟩ := C3.since zb
          refine wp_region_since (by kernel_rfl) (by kernel_rfl) ?_
          repeat (quiet_step (fail))
          refine wpQuiet_nil ?_
          intro w_ hw_
          obtain ⟨⟨w1, hb⟩, hw2⟩ := hw_
          have hw3 : w1 = w_ := hw2.symm
          clear hw2
          subst hw3
          clear szb0 szb1 szb2
          replace hB := hB.trans (hb.mono hB.size)
          have hz := hb.size
          replace zb := C3.carry zb hb
          have zz := zb
          obtain ⟨x0, x1, x2, x3, x4, x5, x6⟩ := zz
          clear wr1 tn1 nn1
          replace hB0 := hB
          clear y0 y1 y2 y3 y4 y5 y6
          have zz := zb
          obtain ⟨y0, y1, y2, y3, y4, y5, y6⟩ := zz
          go_wp2_with (first | (go_at_call 118; (with_reducible refine Calls.mono (K4.out _ (by omega) _) ?_); rintro r w1 ⟨rfl, hb⟩; replace hB0 := hB0.trans (hb.mono hB0.size); have hz := hB0.size; replace zb := C3.carry zb hb; have zz := zb; obtain ⟨y0, y1, y2, y3, y4, y5, y6⟩ := zz))
          have s0 := y0; have s1 := y1; have s2 := y2
          obtain ⟨t0, t1, t2⟩ := set3 y0 y1 y2 (.bool F.1.n) (.int .i64 F.1.c) (.int .i64 F.1.e)
          exact bodyPost_ret (v := .tuple #[.agg #[.bool F.1.n, .int .i64 F.1.c, .int .i64 F.1.e], .bool F.2]) (by simp [results, Tryz.results73, go_sem, *]) rfl ⟨rfl, (by repeat (first | with_reducible exact Below.refl _ _ | with_reducible assumption | with_reducible refine Below.setCell ?_ (by first | omega | (simp; done) | (simp <;> omega)) _ | with_reducible refine below_drewN ?_ _ | with_reducible refine Below.drew ?_ | with_reducible refine Below.alloc ?_ (by first | omega | (simp; done) | (simp <;> omega)) _))⟩
      · have HF := Lib.hid (HM.out.trans h1)
        have K1 := Lib.hid k1
        clear k1 h1 HM HR
        clear hmy
        go_enter Tryz.func73, Tryz.ntmps73
        go_wp2_with (first | (go_at_call 116; (with_reducible refine Calls.mono (K1.out _) ?_); rintro r w1 ⟨rfl, rfl⟩))
        exact bodyPost_ret (v := .tuple #[.agg #[.bool false, .int .i64 0, .int .i64 0], .bool false]) (by simp [results, Tryz.results73, go_sem, *]) rfl ⟨by rw [HF.out]; rfl, (by repeat (first | with_reducible exact Below.refl _ _ | with_reducible assumption | with_reducible refine Below.setCell ?_ (by first | omega | (simp; done) | (simp <;> omega)) _ | with_reducible refine below_drewN ?_ _ | with_reducible refine Below.drew ?_ | with_reducible refine Below.alloc ?_ (by first | omega | (simp; done) | (simp <;> omega)) _))⟩
set_option maxRecDepth 100000 in
set_option maxHeartbeats 8000000 in
theorem readReal_other (c : UInt8) (u : List UInt8) (hl : u.length ≤ 79) (n1 : c ≠ 45) (n2 : c ≠ 43) (n3 : c ≠ 32) (w : World) :
    Calls Tryz.prog 73 #[.string ⟨(c :: u).toArray⟩] w fun r w' => r = .returned (rV (rrL (c :: u))) ∧ Below w.heap.size w w' := by
  have zb := C3.new w (.bool false) (.int .i64 0) (.int .i64 0) 24
  have hB0 : Below w.heap.size w (w.alloc (.cells #[.bool false, .int .i64 0, .int .i64 0] 24)) := Below.alloc (Below.refl _ _) (Nat.le_refl _) _
  have zz := zb
  obtain ⟨y0, y1, y2, y3, y4, y5, y6⟩ := zz
  generalize hR : rrL (c :: u) = F
  have HR := Lib.hid hR
  clear hR
  have HM0 := Lib.hid (HR.out.symm.trans (show rrL (c :: u) = rrM false (Lib.hasSuffix (c :: u) [37]) (Lib.trimSuffix (c :: u) [37]) from by unfold rrL; rw [show cutD (c :: u) = c :: u from by rw [cutD, if_neg (by rw [sign_no n1 n2 n3]; decide)], cutN_no (sign_no n1 n2 n3)]))
  have hx : ∀ h, (⟨(c :: u).toArray⟩ : ByteArray)[0]'h = c := fun _ => rfl
  have hlen : (c :: u).length ≤ 80 := by simp; omega
  have b1 := byte_is 45 n1
  have b2 := byte_is 43 n2
  have b3 := byte_is 32 n3
  rw [show (((45 : UInt8).toNat : Nat) : Int) = 45 from rfl] at b1
  rw [show (((43 : UInt8).toNat : Nat) : Int) = 43 from rfl] at b2
  rw [show (((32 : UInt8).toNat : Nat) : Int) = 32 from rfl] at b3
  clear n1 n2 n3
  rcases List.eq_nil_or_concat (c :: u) with h | ⟨x, b, h⟩
  · cases h
  · rw [List.concat_eq_append] at h
    rw [h] at HM0 hx hlen ⊢
    clear h hl
    obtain ⟨w1, w2⟩ := suf_snoc x b
    obtain ⟨S, hS, f1, f2, f3, f4, f5⟩ := snoc_facts x b
    rw [← hS] at hx ⊢
    have g1 : S[S.size - 1]'(Nat.sub_lt f2 (by decide)) = b := f4 _
    have hmx : x.length ≤ 80 := by rw [List.length_append] at hlen; simp at hlen; omega
    have f2b : (1 : Int) ≤ S.size := by omega
    have f6 : S.size ≤ 80 := by rw [f3]; simp at hlen; omega
    have hx0 := hx f2
    have x1 : (((S[0]'f2).toNat : Int) == 45) = false := by rw [hx0]; exact b1
    have x2 : (((S[0]'f2).toNat : Int) == 43) = false := by rw [hx0]; exact b2
    have x3 : (((S[0]'f2).toNat : Int) == 32) = false := by rw [hx0]; exact b3
    clear f4 f3 hx hx0 b1 b2 b3
    by_cases hb : b = 37
    · rw [w2, if_pos hb, w1, show (b == 37) = true by simpa using hb] at HM0
      have HM := Lib.hid HM0.out
      have hq : (((S[S.size - 1]'(by omega)).toNat : Int) == 37) = true := by rw [g1, hb]; rfl
      clear HM0 w1 w2 g1 hb hS hlen
      obtain ⟨d, p, ok, k1, hs⟩ := split_any false true x hmx
      rcases hs with ⟨rfl, h1, h2, h3, h4⟩ | ⟨rfl, h1⟩
      · have hF := HM.out.trans (h1.trans (fin_fd false true d p))
        have dl : d.length ≤ 80 := Nat.le_trans h2 hmx
        have k2 := fun W => indexOfS_any ⟨d.toArray⟩ 46 (by show d.length ≤ _; omega) W
        rw [show (⟨d.toArray⟩ : ByteArray).data.toList = d from rfl, show (((46 : UInt8).toNat : Nat) : Int) = 46 from rfl] at k2
        have hsz : (⟨d.toArray⟩ : ByteArray).size = d.length := rfl
        clear h1 h2
        rcases point_cases2 d with ⟨i1, i2, i3⟩ | ⟨k, i0, i1, i2, i3⟩
        · rw [i1] at k2
          rw [i2, i3, List.append_nil] at hF
          have k4 := from_E false d _ F dl (by simp; omega) hF
          simp only [List.length_nil, if_true] at k4
          clear hF i1 i2 i3 HM
          have K1 := Lib.hid k1; have K2 := Lib.hid k2; have K4 := Lib.hid k4
          clear k1 k2 k4 HR
          clear hmx
          go_enter Tryz.func73, Tryz.ntmps73
          go_wp2_with (first | (go_at_call 116; (with_reducible refine Calls.mono (K1.out _) ?_); rintro r w1 ⟨rfl, rfl⟩) | (go_at_call 117; (with_reducible refine Calls.mono (K2.out _) ?_); rintro r w1 ⟨rfl, rfl⟩) | (go_at_call 118; (with_reducible refine Calls.mono (K4.out _ (by omega) _) ?_); rintro r w1 ⟨rfl, hb⟩; replace hB0 := hB0.trans (hb.mono hB0.size); have hz := hB0.size; replace zb := C3.carry zb hb; have zz := zb; obtain ⟨y0, y1, y2, y3, y4, y5, y6⟩ := zz))
          have s0 := y0; have s1 := y1; have s2 := y2
          obtain ⟨t0, t1, t2⟩ := set3 y0 y1 y2 (.bool F.1.n) (.int .i64 F.1.c) (.int .i64 F.1.e)
          exact bodyPost_ret (v := .tuple #[.agg #[.bool F.1.n, .int .i64 F.1.c, .int .i64 F.1.e], .bool F.2]) (by simp [results, Tryz.results73, go_sem, *]) rfl ⟨rfl, (by repeat (first | with_reducible exact Below.refl _ _ | with_reducible assumption | with_reducible refine Below.setCell ?_ (by first | omega | (simp; done) | (simp <;> omega)) _ | with_reducible refine below_drewN ?_ _ | with_reducible refine Below.drew ?_ | with_reducible refine Below.alloc ?_ (by first | omega | (simp; done) | (simp <;> omega)) _))⟩
        · rw [i1] at k2
          rw [i2, i3] at hF
          have e1 := ext_take k d
          have e2 := ext_drop (k + 1) d
          have c1 := cat_lN (d.take k) (d.drop (k + 1))
          have t1 : (d.take k).length ≤ k := List.length_take_le _ _
          have t2 : (d.drop (k + 1)).length = d.length - (k + 1) := List.length_drop
          have dl2 : (d.take k ++ d.drop (k + 1)).length ≤ 80 := by rw [List.length_append]; omega
          have k4 := from_E false (d.take k ++ d.drop (k + 1)) (p - ((d.length : Int) - k - 1) - 2) F dl2 (by omega) (by rw [hF]; congr 1; rw [t2]; simp <;> omega)
          have tn1 : ((k : Int) + 1).toNat = k + 1 := by omega
          have nn1 : 0 ≤ (k : Int) + 1 := by omega
          have wr1 : IntKind.i64.wrap ((k : Int) + 1) = (k : Int) + 1 := by rw [IntKind.wrap_i64]; omega
          have j1 : (k : Int) + 1 ≤ d.length := by omega
          have j2 : (k : Int) ≤ d.length := by omega
          have q1 : ¬ (9223372036854775807 < (d.take k).length + (d.drop (k + 1)).length) := by omega
          generalize d.take k = A at *
          generalize d.drop (k + 1) = B at *
          clear hF i1 i2 i3 HM t1 t2 dl2
          have K1 := Lib.hid k1; have K2 := Lib.hid k2; have K4 := Lib.hid k4
          clear k1 k2 k4 HR
          clear hmx
          go_enter Tryz.func73, Tryz.ntmps73
          go_wp2_with (first | (go_at_call 116; (with_reducible refine Calls.mono (K1.out _) ?_); rintro r w1 ⟨rfl, rfl⟩) | (go_at_call 117; (with_reducible refine Calls.mono (K2.out _) ?_); rintro r w1 ⟨rfl, rfl⟩))
          have hB := hB0
          obtain ⟨szb0, szb1, szb2⟩ := C3.since zb
          refine wp_region_since (by kernel_rfl) (by kernel_rfl) ?_
          repeat (quiet_step (fail))
          refine wpQuiet_nil ?_
          intro w_ hw_
          obtain ⟨⟨w1, hb⟩, hw2⟩ := hw_
          have hw3 : w1 = w_ := hw2.symm
          clear hw2
          subst hw3
          clear szb0 szb1 szb2
          replace hB := hB.trans (hb.mono hB.size)
          have hz := hb.size
          replace zb := C3.carry zb hb
          have zz := zb
          obtain ⟨x0, x1, x2, x3, x4, x5, x6⟩ := zz
          clear wr1 tn1 nn1
          replace hB0 := hB
          clear y0 y1 y2 y3 y4 y5 y6
          have zz := zb
          obtain ⟨y0, y1, y2, y3, y4, y5, y6⟩ := zz
          go_wp2_with (first | (go_at_call 118; (with_reducible refine Calls.mono (K4.out _ (by omega) _) ?_); rintro r w1 ⟨rfl, hb⟩; replace hB0 := hB0.trans (hb.mono hB0.size); have hz := hB0.size; replace zb := C3.carry zb hb; have zz := zb; obtain ⟨y0, y1, y2, y3, y4, y5, y6⟩ := zz))
          have s0 := y0; have s1 := y1; have s2 := y2
          obtain ⟨t0, t1, t2⟩ := set3 y0 y1 y2 (.bool F.1.n) (.int .i64 F.1.c) (.int .i64 F.1.e)
          exact bodyPost_ret (v := .tuple #[.agg #[.bool F.1.n, .int .i64 F.1.c, .int .i64 F.1.e], .bool F.2]) (by simp [results, Tryz.results73, go_sem, *]) rfl ⟨rfl, (by repeat (first | with_reducible exact Below.refl _ _ | with_reducible assumption | with_reducible refine Below.setCell ?_ (by first | omega | (simp; done) | (simp <;> omega)) _ | with_reducible refine below_drewN ?_ _ | with_reducible refine Below.drew ?_ | with_reducible refine Below.alloc ?_ (by first | omega | (simp; done) | (simp <;> omega)) _))⟩
      · have HF := Lib.hid (HM.out.trans h1)
        have K1 := Lib.hid k1
        clear k1 h1 HM HR
        clear hmx
        go_enter Tryz.func73, Tryz.ntmps73
        go_wp2_with (first | (go_at_call 116; (with_reducible refine Calls.mono (K1.out _) ?_); rintro r w1 ⟨rfl, rfl⟩))
        exact bodyPost_ret (v := .tuple #[.agg #[.bool false, .int .i64 0, .int .i64 0], .bool false]) (by simp [results, Tryz.results73, go_sem, *]) rfl ⟨by rw [HF.out]; rfl, (by repeat (first | with_reducible exact Below.refl _ _ | with_reducible assumption | with_reducible refine Below.setCell ?_ (by first | omega | (simp; done) | (simp <;> omega)) _ | with_reducible refine below_drewN ?_ _ | with_reducible refine Below.drew ?_ | with_reducible refine Below.alloc ?_ (by first | omega | (simp; done) | (simp <;> omega)) _))⟩
    · rw [w2, if_neg hb, w1, show (b == 37) = false by simpa using hb] at HM0
      have HM := Lib.hid HM0.out
      have hq : (((S[S.size - 1]'(by omega)).toNat : Int) == 37) = false := by rw [g1]; exact byte_is 37 hb
      clear HM0 w1 w2 g1 hb f5 hmx
      obtain ⟨d, p, ok, k1, hs⟩ := split_any false false (x ++ [b]) hlen
      rw [← hS] at k1
      clear hS
      rcases hs with ⟨rfl, h1, h2, h3, h4⟩ | ⟨rfl, h1⟩
      · have hF := HM.out.trans (h1.trans (fin_fd false false d p))
        have dl : d.length ≤ 80 := Nat.le_trans h2 hlen
        have k2 := fun W => indexOfS_any ⟨d.toArray⟩ 46 (by show d.length ≤ _; omega) W
        rw [show (⟨d.toArray⟩ : ByteArray).data.toList = d from rfl, show (((46 : UInt8).toNat : Nat) : Int) = 46 from rfl] at k2
        have hsz : (⟨d.toArray⟩ : ByteArray).size = d.length := rfl
        clear h1 h2
        rcases point_cases2 d with ⟨i1, i2, i3⟩ | ⟨k, i0, i1, i2, i3⟩
        · rw [i1] at k2
          rw [i2, i3, List.append_nil] at hF
          have k4 := from_E false d _ F dl (by simp; omega) hF
          simp only [List.length_nil, Bool.false_eq_true, if_false] at k4
          clear hF i1 i2 i3 HM
          have K1 := Lib.hid k1; have K2 := Lib.hid k2; have K4 := Lib.hid k4
          clear k1 k2 k4 HR
          clear hlen
          go_enter Tryz.func73, Tryz.ntmps73
          go_wp2_with (first | (go_at_call 116; (with_reducible refine Calls.mono (K1.out _) ?_); rintro r w1 ⟨rfl, rfl⟩) | (go_at_call 117; (with_reducible refine Calls.mono (K2.out _) ?_); rintro r w1 ⟨rfl, rfl⟩) | (go_at_call 118; (with_reducible refine Calls.mono (K4.out _ (by omega) _) ?_); rintro r w1 ⟨rfl, hb⟩; replace hB0 := hB0.trans (hb.mono hB0.size); have hz := hB0.size; replace zb := C3.carry zb hb; have zz := zb; obtain ⟨y0, y1, y2, y3, y4, y5, y6⟩ := zz))
          have s0 := y0; have s1 := y1; have s2 := y2
          obtain ⟨t0, t1, t2⟩ := set3 y0 y1 y2 (.bool F.1.n) (.int .i64 F.1.c) (.int .i64 F.1.e)
          exact bodyPost_ret (v := .tuple #[.agg #[.bool F.1.n, .int .i64 F.1.c, .int .i64 F.1.e], .bool F.2]) (by simp [results, Tryz.results73, go_sem, *]) rfl ⟨rfl, (by repeat (first | with_reducible exact Below.refl _ _ | with_reducible assumption | with_reducible refine Below.setCell ?_ (by first | omega | (simp; done) | (simp <;> omega)) _ | with_reducible refine below_drewN ?_ _ | with_reducible refine Below.drew ?_ | with_reducible refine Below.alloc ?_ (by first | omega | (simp; done) | (simp <;> omega)) _))⟩
        · rw [i1] at k2
          rw [i2, i3] at hF
          have e1 := ext_take k d
          have e2 := ext_drop (k + 1) d
          have c1 := cat_lN (d.take k) (d.drop (k + 1))
          have t1 : (d.take k).length ≤ k := List.length_take_le _ _
          have t2 : (d.drop (k + 1)).length = d.length - (k + 1) := List.length_drop
          have dl2 : (d.take k ++ d.drop (k + 1)).length ≤ 80 := by rw [List.length_append]; omega
          have k4 := from_E false (d.take k ++ d.drop (k + 1)) (p - ((d.length : Int) - k - 1) - 0) F dl2 (by omega) (by rw [hF]; congr 1; rw [t2]; simp <;> omega)
          have tn1 : ((k : Int) + 1).toNat = k + 1 := by omega
          have nn1 : 0 ≤ (k : Int) + 1 := by omega
          have wr1 : IntKind.i64.wrap ((k : Int) + 1) = (k : Int) + 1 := by rw [IntKind.wrap_i64]; omega
          have j1 : (k : Int) + 1 ≤ d.length := by omega
          have j2 : (k : Int) ≤ d.length := by omega
          have q1 : ¬ (9223372036854775807 < (d.take k).length + (d.drop (k + 1)).length) := by omega
          generalize d.take k = A at *
          generalize d.drop (k + 1) = B at *
          clear hF i1 i2 i3 HM t1 t2 dl2
          have K1 := Lib.hid k1; have K2 := Lib.hid k2; have K4 := Lib.hid k4
          clear k1 k2 k4 HR
          clear hlen
          go_enter Tryz.func73, Tryz.ntmps73
          go_wp2_with (first | (go_at_call 116; (with_reducible refine Calls.mono (K1.out _) ?_); rintro r w1 ⟨rfl, rfl⟩) | (go_at_call 117; (with_reducible refine Calls.mono (K2.out _) ?_); rintro r w1 ⟨rfl, rfl⟩))
          have hB := hB0
          obtain ⟨szb0, szb1, szb2⟩ := C3.since zb
          refine wp_region_since (by kernel_rfl) (by kernel_rfl) ?_
          repeat (quiet_step (fail))
          refine wpQuiet_nil ?_
          intro w_ hw_
          obtain ⟨⟨w1, hb⟩, hw2⟩ := hw_
          have hw3 : w1 = w_ := hw2.symm
          clear hw2
          subst hw3
          clear szb0 szb1 szb2
          replace hB := hB.trans (hb.mono hB.size)
          have hz := hb.size
          replace zb := C3.carry zb hb
          have zz := zb
          obtain ⟨x0, x1, x2, x3, x4, x5, x6⟩ := zz
          clear wr1 tn1 nn1
          replace hB0 := hB
          clear y0 y1 y2 y3 y4 y5 y6
          have zz := zb
          obtain ⟨y0, y1, y2, y3, y4, y5, y6⟩ := zz
          go_wp2_with (first | (go_at_call 118; (with_reducible refine Calls.mono (K4.out _ (by omega) _) ?_); rintro r w1 ⟨rfl, hb⟩; replace hB0 := hB0.trans (hb.mono hB0.size); have hz := hB0.size; replace zb := C3.carry zb hb; have zz := zb; obtain ⟨y0, y1, y2, y3, y4, y5, y6⟩ := zz))
          have s0 := y0; have s1 := y1; have s2 := y2
          obtain ⟨t0, t1, t2⟩ := set3 y0 y1 y2 (.bool F.1.n) (.int .i64 F.1.c) (.int .i64 F.1.e)
          exact bodyPost_ret (v := .tuple #[.agg #[.bool F.1.n, .int .i64 F.1.c, .int .i64 F.1.e], .bool F.2]) (by simp [results, Tryz.results73, go_sem, *]) rfl ⟨rfl, (by repeat (first | with_reducible exact Below.refl _ _ | with_reducible assumption | with_reducible refine Below.setCell ?_ (by first | omega | (simp; done) | (simp <;> omega)) _ | with_reducible refine below_drewN ?_ _ | with_reducible refine Below.drew ?_ | with_reducible refine Below.alloc ?_ (by first | omega | (simp; done) | (simp <;> omega)) _))⟩
      · have HF := Lib.hid (HM.out.trans h1)
        have K1 := Lib.hid k1
        clear k1 h1 HM HR
        clear hlen
        go_enter Tryz.func73, Tryz.ntmps73
        go_wp2_with (first | (go_at_call 116; (with_reducible refine Calls.mono (K1.out _) ?_); rintro r w1 ⟨rfl, rfl⟩))
        exact bodyPost_ret (v := .tuple #[.agg #[.bool false, .int .i64 0, .int .i64 0], .bool false]) (by simp [results, Tryz.results73, go_sem, *]) rfl ⟨by rw [HF.out]; rfl, (by repeat (first | with_reducible exact Below.refl _ _ | with_reducible assumption | with_reducible refine Below.setCell ?_ (by first | omega | (simp; done) | (simp <;> omega)) _ | with_reducible refine below_drewN ?_ _ | with_reducible refine Below.drew ?_ | with_reducible refine Below.alloc ?_ (by first | omega | (simp; done) | (simp <;> omega)) _))⟩
theorem readRealS_any (T : List UInt8) (hl : T.length ≤ 80) (w : World) :
    Calls Tryz.prog 73 #[.string ⟨T.toArray⟩] w fun r w' => r = .returned (rV (rrL T)) ∧ Below w.heap.size w w' := by
  rcases T with _ | ⟨c, r⟩
  · exact readReal_nil w
  · have hr : r.length ≤ 79 := by simp at hl; omega
    by_cases h1 : c = 45
    · subst h1; exact readReal_minus r hr w
    · by_cases h2 : c = 43
      · subst h2; exact readReal_plus r hr w
      · by_cases h3 : c = 32
        · subst h3; exact readReal_space r hr w
        · exact readReal_other c r hr h1 h2 h3 w
end Go.Proofs.YtebheehjhnaklaaGreatDoor
