import Derived.Test.YtkpdpohnbnpelaaGreatDoorZ5
namespace Go.Proofs.YtkpdpohnbnpelaaGreatDoor
open Go.RowKit
theorem widL_ge {l sep : List UInt8} {wd n : Nat} (hl : l.length ≤ 80) (hw : wd ≤ 30) (hn0 : 1 ≤ n) (hn1 : n ≤ 9) (hs : sep.length ≤ 1) : wd ≤ (widL l wd n sep).length := by
  rw [widL_eq]
  have h := tz_ok (wd := wd) (n := n) (size := l.length) (j := tz wd n l.length sep) (sep := sep) (l := l) rfl hl hw hn0 hn1 hs (Nat.le_refl _)
  omega
theorem widL_zero {l sep : List UInt8} {n : Nat} : widL l 0 n sep = joinL n sep l := by
  rw [widL_eq]
  have : tz 0 n l.length sep = 0 := by
    unfold tz
    have := @cnt_le n 0
    split <;> omega
  rw [this]
  rfl
/-- the two ways to say it -/
theorem whole_inside {a si : Int} {alt : Bool} {wi : Nat} {gr : Int} {t : List UInt8} {n : Int} (hT : TyOk t) (hw : wi ≤ 30) (hn : -999999999999 ≤ n ∧ n ≤ 999999999999) (h4 : a = 4) :
    wholeL 48 a si alt wi gr t n = headL si (decide (n < 0)) alt t ++ widL (digs (t == [88]) (tyBase t) n.natAbs) (wi - (headL si (decide (n < 0)) alt t).length) (tyGrp t) (mkL gr) := by
  subst h4
  have hd := digs_40 (up := (t == [88])) (b := tyBase t) (n := n.natAbs) hT.base.1 (by omega)
  have hge := widL_ge (l := digs (t == [88]) (tyBase t) n.natAbs) (sep := mkL gr) (wd := wi - (headL si (decide (n < 0)) alt t).length) (n := tyGrp t) (by omega) (by omega) (by have := hT.grp; omega) (by have := hT.grp; omega) (mkL_len gr)
  unfold wholeL
  rw [show zuN 48 4 wi (headL si (decide (n < 0)) alt t).length = wi - (headL si (decide (n < 0)) alt t).length from if_pos ⟨rfl, rfl⟩]
  generalize widL (digs (t == [88]) (tyBase t) n.natAbs) (wi - (headL si (decide (n < 0)) alt t).length) (tyGrp t) (mkL gr) = B at *
  generalize headL si (decide (n < 0)) alt t = H at *
  unfold padL
  rw [if_neg (by decide), if_neg (by decide), if_pos rfl, show wi - H.length - B.length = 0 by omega]
  rfl
theorem whole_pad {c : UInt8} {a si : Int} {alt : Bool} {wi : Nat} {gr : Int} {t : List UInt8} {n : Int} (h : ¬ (c = 48 ∧ a = 4)) :
    wholeL c a si alt wi gr t n = padL (headL si (decide (n < 0)) alt t) (joinL (tyGrp t) (mkL gr) (digs (t == [88]) (tyBase t) n.natAbs)) wi c a := by
  unfold wholeL
  rw [show zuN c a wi (headL si (decide (n < 0)) alt t).length = 0 from if_neg h, widL_zero]
set_option maxRecDepth 100000 in
set_option maxHeartbeats 8000000 in
theorem laidS_any (f : ByteArray) (al si : Int) (alt ze : Bool) (wi : Nat) (gr pr : Int) (t H D : List UInt8) (c : UInt8) (a : Int) (w : World) (hw : wi ≤ 30) (hT : TyOk t) (hH : H.length ≤ 3) (hD : D.length ≤ 40) (hg0 : 0 ≤ gr) (hg2 : gr ≤ 2) (ha : 1 ≤ a ∧ a ≤ 4)
    (kf : ∀ W, Calls Tryz.prog 48 #[.agg #[.string f, .int .i64 al, .int .i64 si, .bool alt, .bool ze, .int .i64 wi, .int .i64 gr, .int .i64 pr, .string ⟨t.toArray⟩]] W fun r w' => r = .returned (.string ⟨#[c]⟩) ∧ Below W.heap.size W w')
    (ka : ∀ W, Calls Tryz.prog 49 #[.agg #[.string f, .int .i64 al, .int .i64 si, .bool alt, .bool ze, .int .i64 wi, .int .i64 gr, .int .i64 pr, .string ⟨t.toArray⟩], .int .i64 0] W fun r w' => r = .returned (.int .i64 a) ∧ Below W.heap.size W w') :
    Calls Tryz.prog 52 #[.agg #[.string f, .int .i64 al, .int .i64 si, .bool alt, .bool ze, .int .i64 wi, .int .i64 gr, .int .i64 pr, .string ⟨t.toArray⟩], .string ⟨H.toArray⟩, .string ⟨D.toArray⟩, .string ⟨#[]⟩] w fun r w' => r = .returned (.string ⟨(if c = 48 ∧ a = 4 then H ++ widL D (wi - H.length) (tyGrp t) (mkL gr) else padL H (joinL (tyGrp t) (mkL gr) D) wi c a).toArray⟩) ∧ Below w.heap.size w w' := by
  have hgrp := hT.grp
  have km := fun W => mBn (markS_g gr hg0 hg2 W)
  have kg := fun W => mBn (groupSizeS_ok t hT W)
  have hml := mkL_len gr
  by_cases h : c = 48 ∧ a = 4
  · rw [if_pos h]
    obtain ⟨rfl, rfl⟩ := h
    have kw := fun W => mBn (widenedS_any ⟨D.toArray⟩ ((wi : Int) - H.length) (tyGrp t) ⟨(mkL gr).toArray⟩ W (by rw [szZ]; omega) (by omega) (by omega) (by omega) (by rw [szZ]; exact hml))
    rw [show (⟨D.toArray⟩ : ByteArray).data.toList = D from rfl, show (⟨(mkL gr).toArray⟩ : ByteArray).data.toList = mkL gr from rfl, show ((wi : Int) - H.length).toNat = wi - H.length by omega] at kw
    have hwl := widL_len (l := D) (sep := mkL gr) (wd := wi - H.length) (n := tyGrp t) hD (by omega) hml
    generalize widL D (wi - H.length) (tyGrp t) (mkL gr) = R at *
    generalize mkL gr = M at *
    generalize tyGrp t = g at *
    have hq : ¬ (9223372036854775807 < H.length + R.length) := by omega
    have w1 : IntKind.i64.wrap ((wi : Int) - H.length) = (wi : Int) - H.length := by rw [IntKind.wrap_i64]; omega
    have KF := Lib.hid kf; have KA := Lib.hid ka; have KM := Lib.hid km; have KG := Lib.hid kg; have KW := Lib.hid kw
    clear kf ka km kg kw hT
    have za := C9.new w (.string f) (.int .i64 al) (.int .i64 si) (.bool alt) (.bool ze) (.int .i64 wi) (.int .i64 gr) (.int .i64 pr) (.string ⟨t.toArray⟩) 26
    have hB : Below w.heap.size w (w.alloc (.cells #[.string f, .int .i64 al, .int .i64 si, .bool alt, .bool ze, .int .i64 wi, .int .i64 gr, .int .i64 pr, .string ⟨t.toArray⟩] 26)) := (Below.refl _ _).alloc (Nat.le_refl _) _
    have zz := za
    obtain ⟨x0, x1, x2, x3, x4, x5, x6, x7, x8, x9, xl⟩ := zz
    go_enter Tryz.func52, Tryz.ntmps52
    go_wp2_with (first | (go_at_call 44; (with_reducible refine Calls.mono (KM.out _) ?_); rintro r w1 ⟨rfl, hb⟩; replace hB := hB.trans (hb.mono hB.size); replace za := za.carry hb; have zz := za; obtain ⟨x0, x1, x2, x3, x4, x5, x6, x7, x8, x9, xl⟩ := zz) | (go_at_call 48; (with_reducible refine Calls.mono (KF.out _) ?_); rintro r w1 ⟨rfl, hb⟩; replace hB := hB.trans (hb.mono hB.size); replace za := za.carry hb; have zz := za; obtain ⟨x0, x1, x2, x3, x4, x5, x6, x7, x8, x9, xl⟩ := zz) | (go_at_call 49; (with_reducible refine Calls.mono (KA.out _) ?_); rintro r w1 ⟨rfl, hb⟩; replace hB := hB.trans (hb.mono hB.size); replace za := za.carry hb; have zz := za; obtain ⟨x0, x1, x2, x3, x4, x5, x6, x7, x8, x9, xl⟩ := zz) | (go_at_call 76; (with_reducible refine Calls.mono (KG.out _) ?_); rintro r w1 ⟨rfl, hb⟩; replace hB := hB.trans (hb.mono hB.size); replace za := za.carry hb; have zz := za; obtain ⟨x0, x1, x2, x3, x4, x5, x6, x7, x8, x9, xl⟩ := zz) | (go_at_call 79; (with_reducible refine Calls.mono (KW.out _) ?_); rintro r w1 ⟨rfl, hb⟩; replace hB := hB.trans (hb.mono hB.size); replace za := za.carry hb; have zz := za; obtain ⟨x0, x1, x2, x3, x4, x5, x6, x7, x8, x9, xl⟩ := zz))
    obtain ⟨sza0, sza1, sza2, sza3, sza4, sza5, sza6, sza7, sza8⟩ := C9.since za
    refine wp_region_since (by kernel_rfl) (by kernel_rfl) ?_
    repeat (quiet_step (first | (go_at_call 76; with_reducible exact Calls.since_of (KG.out _)) | (go_at_call 49; with_reducible exact Calls.since_of (KA.out _)) | (go_at_call 79; with_reducible exact Calls.since_of (KW.out _))))
    refine wpQuiet_nil ?_
    intro w_ hw_
    obtain ⟨⟨w1, hb⟩, hw2⟩ := hw_
    have hw3 : w1 = w_ := hw2.symm
    clear hw2
    subst hw3
    clear sza0 sza1 sza2 sza3 sza4 sza5 sza6 sza7 sza8
    replace hB := hB.trans (hb.mono hB.size)
    have hz := hb.size
    replace za := C9.carry za hb
    have zz := za
    obtain ⟨x0, x1, x2, x3, x4, x5, x6, x7, x8, x9, xl⟩ := zz
    go_wp2
    all_goals go_ret
    all_goals exact ⟨ret_str (by simp [cat_l]), hB⟩
  · rw [if_neg h]
    have kj := fun W => mBn (joinedS_any D (tyGrp t) ⟨(mkL gr).toArray⟩ W (by omega) (by omega) (by omega) (by rw [szZ]; exact hml))
    rw [show (⟨(mkL gr).toArray⟩ : ByteArray).data.toList = mkL gr from rfl] at kj
    have hjl : (joinL (tyGrp t) (mkL gr) D).length ≤ 200 := by
      unfold joinL
      split
      · omega
      · have := grp_length (tyGrp t) (mkL gr) D hml; omega
    have kp := fun W => paddedS_any H (joinL (tyGrp t) (mkL gr) D) wi c a W (by omega) (by omega) hw ha
    generalize padL H (joinL (tyGrp t) (mkL gr) D) wi c a = R at *
    generalize joinL (tyGrp t) (mkL gr) D = J at *
    have hq : ¬ (9223372036854775807 < J.length) := by omega
    have hq0 : ¬ (9223372036854775807 < J.length + 0) := by omega
    have ce : (⟨J.toArray⟩ : ByteArray) ++ ⟨#[]⟩ = ⟨J.toArray⟩ := by have := cat_l J []; rw [List.append_nil] at this; exact this
    generalize mkL gr = M at *
    generalize tyGrp t = g at *
    have KF := Lib.hid kf; have KA := Lib.hid ka; have KM := Lib.hid km; have KG := Lib.hid kg; have KJ := Lib.hid kj; have KP := Lib.hid kp
    clear kf ka km kg kj kp hT
    by_cases h4 : a = 4
    · subst h4
      have hc : ¬ c = 48 := fun e => h ⟨e, rfl⟩
      have hne : (([c] : List UInt8) == [48]) = false := by simpa using hc
      have hne2 : ¬ ([c] : List UInt8) = [48] := by simpa using hc
      have za := C9.new w (.string f) (.int .i64 al) (.int .i64 si) (.bool alt) (.bool ze) (.int .i64 wi) (.int .i64 gr) (.int .i64 pr) (.string ⟨t.toArray⟩) 26
      have hB : Below w.heap.size w (w.alloc (.cells #[.string f, .int .i64 al, .int .i64 si, .bool alt, .bool ze, .int .i64 wi, .int .i64 gr, .int .i64 pr, .string ⟨t.toArray⟩] 26)) := (Below.refl _ _).alloc (Nat.le_refl _) _
      have zz := za
      obtain ⟨x0, x1, x2, x3, x4, x5, x6, x7, x8, x9, xl⟩ := zz
      go_enter Tryz.func52, Tryz.ntmps52
      go_wp2_with (first | (go_at_call 44; (with_reducible refine Calls.mono (KM.out _) ?_); rintro r w1 ⟨rfl, hb⟩; replace hB := hB.trans (hb.mono hB.size); replace za := za.carry hb; have zz := za; obtain ⟨x0, x1, x2, x3, x4, x5, x6, x7, x8, x9, xl⟩ := zz) | (go_at_call 48; (with_reducible refine Calls.mono (KF.out _) ?_); rintro r w1 ⟨rfl, hb⟩; replace hB := hB.trans (hb.mono hB.size); replace za := za.carry hb; have zz := za; obtain ⟨x0, x1, x2, x3, x4, x5, x6, x7, x8, x9, xl⟩ := zz) | (go_at_call 49; (with_reducible refine Calls.mono (KA.out _) ?_); rintro r w1 ⟨rfl, hb⟩; replace hB := hB.trans (hb.mono hB.size); replace za := za.carry hb; have zz := za; obtain ⟨x0, x1, x2, x3, x4, x5, x6, x7, x8, x9, xl⟩ := zz) | (go_at_call 76; (with_reducible refine Calls.mono (KG.out _) ?_); rintro r w1 ⟨rfl, hb⟩; replace hB := hB.trans (hb.mono hB.size); replace za := za.carry hb; have zz := za; obtain ⟨x0, x1, x2, x3, x4, x5, x6, x7, x8, x9, xl⟩ := zz) | (go_at_call 80; (with_reducible refine Calls.mono (KJ.out _) ?_); rintro r w1 ⟨rfl, hb⟩; replace hB := hB.trans (hb.mono hB.size); replace za := za.carry hb; have zz := za; obtain ⟨x0, x1, x2, x3, x4, x5, x6, x7, x8, x9, xl⟩ := zz) | (go_at_call 47; (with_reducible refine Calls.mono (KP.out _) ?_); rintro r w1 ⟨rfl, hb⟩; replace hB := hB.trans (hb.mono hB.size); replace za := za.carry hb; have zz := za; obtain ⟨x0, x1, x2, x3, x4, x5, x6, x7, x8, x9, xl⟩ := zz))
      obtain ⟨sza0, sza1, sza2, sza3, sza4, sza5, sza6, sza7, sza8⟩ := C9.since za
      refine wp_region_since (by kernel_rfl) (by kernel_rfl) ?_
      repeat (quiet_step (first | (go_at_call 76; with_reducible exact Calls.since_of (KG.out _)) | (go_at_call 49; with_reducible exact Calls.since_of (KA.out _)) | (go_at_call 80; with_reducible exact Calls.since_of (KJ.out _)) | (go_at_call 47; with_reducible exact Calls.since_of (KP.out _))))
      refine wpQuiet_nil ?_
      intro w_ hw_
      obtain ⟨⟨w1, hb⟩, hw2⟩ := hw_
      have hw3 : w1 = w_ := hw2.symm
      clear hw2
      subst hw3
      clear sza0 sza1 sza2 sza3 sza4 sza5 sza6 sza7 sza8
      replace hB := hB.trans (hb.mono hB.size)
      have hz := hb.size
      replace za := C9.carry za hb
      have zz := za
      obtain ⟨x0, x1, x2, x3, x4, x5, x6, x7, x8, x9, xl⟩ := zz
      go_wp2
      all_goals go_ret
      all_goals exact ⟨ret_str (by simp), hB⟩
    · have e4 : (a == 4) = false := by simpa using h4
      have za := C9.new w (.string f) (.int .i64 al) (.int .i64 si) (.bool alt) (.bool ze) (.int .i64 wi) (.int .i64 gr) (.int .i64 pr) (.string ⟨t.toArray⟩) 26
      have hB : Below w.heap.size w (w.alloc (.cells #[.string f, .int .i64 al, .int .i64 si, .bool alt, .bool ze, .int .i64 wi, .int .i64 gr, .int .i64 pr, .string ⟨t.toArray⟩] 26)) := (Below.refl _ _).alloc (Nat.le_refl _) _
      have zz := za
      obtain ⟨x0, x1, x2, x3, x4, x5, x6, x7, x8, x9, xl⟩ := zz
      go_enter Tryz.func52, Tryz.ntmps52
      go_wp2_with (first | (go_at_call 44; (with_reducible refine Calls.mono (KM.out _) ?_); rintro r w1 ⟨rfl, hb⟩; replace hB := hB.trans (hb.mono hB.size); replace za := za.carry hb; have zz := za; obtain ⟨x0, x1, x2, x3, x4, x5, x6, x7, x8, x9, xl⟩ := zz) | (go_at_call 48; (with_reducible refine Calls.mono (KF.out _) ?_); rintro r w1 ⟨rfl, hb⟩; replace hB := hB.trans (hb.mono hB.size); replace za := za.carry hb; have zz := za; obtain ⟨x0, x1, x2, x3, x4, x5, x6, x7, x8, x9, xl⟩ := zz) | (go_at_call 49; (with_reducible refine Calls.mono (KA.out _) ?_); rintro r w1 ⟨rfl, hb⟩; replace hB := hB.trans (hb.mono hB.size); replace za := za.carry hb; have zz := za; obtain ⟨x0, x1, x2, x3, x4, x5, x6, x7, x8, x9, xl⟩ := zz) | (go_at_call 76; (with_reducible refine Calls.mono (KG.out _) ?_); rintro r w1 ⟨rfl, hb⟩; replace hB := hB.trans (hb.mono hB.size); replace za := za.carry hb; have zz := za; obtain ⟨x0, x1, x2, x3, x4, x5, x6, x7, x8, x9, xl⟩ := zz) | (go_at_call 80; (with_reducible refine Calls.mono (KJ.out _) ?_); rintro r w1 ⟨rfl, hb⟩; replace hB := hB.trans (hb.mono hB.size); replace za := za.carry hb; have zz := za; obtain ⟨x0, x1, x2, x3, x4, x5, x6, x7, x8, x9, xl⟩ := zz) | (go_at_call 47; (with_reducible refine Calls.mono (KP.out _) ?_); rintro r w1 ⟨rfl, hb⟩; replace hB := hB.trans (hb.mono hB.size); replace za := za.carry hb; have zz := za; obtain ⟨x0, x1, x2, x3, x4, x5, x6, x7, x8, x9, xl⟩ := zz))
      obtain ⟨sza0, sza1, sza2, sza3, sza4, sza5, sza6, sza7, sza8⟩ := C9.since za
      refine wp_region_since (by kernel_rfl) (by kernel_rfl) ?_
      repeat (quiet_step (first | (go_at_call 76; with_reducible exact Calls.since_of (KG.out _)) | (go_at_call 49; with_reducible exact Calls.since_of (KA.out _)) | (go_at_call 80; with_reducible exact Calls.since_of (KJ.out _)) | (go_at_call 47; with_reducible exact Calls.since_of (KP.out _))))
      refine wpQuiet_nil ?_
      intro w_ hw_
      obtain ⟨⟨w1, hb⟩, hw2⟩ := hw_
      have hw3 : w1 = w_ := hw2.symm
      clear hw2
      subst hw3
      clear sza0 sza1 sza2 sza3 sza4 sza5 sza6 sza7 sza8
      replace hB := hB.trans (hb.mono hB.size)
      have hz := hb.size
      replace za := C9.carry za hb
      have zz := za
      obtain ⟨x0, x1, x2, x3, x4, x5, x6, x7, x8, x9, xl⟩ := zz
      go_wp2
      all_goals go_ret
      all_goals exact ⟨ret_str (by simp), hB⟩
end Go.Proofs.YtkpdpohnbnpelaaGreatDoor
