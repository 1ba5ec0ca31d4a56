import Derived.Test.YtejganoipbblcaaGreatDoorZ6
import Derived.Test.YtejganoipbblcaaGreatDoorZ9
namespace Go.Proofs.YtejganoipbblcaaGreatDoor
open Go Go.RowKit
theorem widL_len70 {l sep : List UInt8} {wd n : Nat} (hl : l.length ≤ 70) (hw : wd ≤ 30) (hs : sep.length ≤ 1) : (widL l wd n sep).length ≤ 260 := by
  unfold widL
  have hc := @cnt_le n wd
  split
  · simp [zeros]; omega
  · have := grp_length n sep (zeros (max (cnt wd n) l.length - l.length) ++ l) hs
    simp [zeros] at this ⊢
    omega
/-- the types of decimals -/
def TyR (t : List UInt8) : Prop := t = [] ∨ t = [102] ∨ t = [101] ∨ t = [69] ∨ t = [103] ∨ t = [71] ∨ t = [37]
theorem groupSizeR (t : List UInt8) (h : TyR t) (w : World) : Calls Tryz.prog 155 #[.string ⟨t.toArray⟩] w fun r w' => r = .returned (.int .i64 3) ∧ Below w.heap.size w w' := by
  have hB := Below.refl w.heap.size w
  rcases h with rfl | rfl | rfl | rfl | rfl | rfl | rfl
  all_goals (
    go_enter Tryz.func155, Tryz.ntmps155
    go_wp2
    go_ret
    exact ⟨rfl, hB⟩)
set_option maxRecDepth 100000 in
set_option maxHeartbeats 8000000 in
theorem laidR_any (f : ByteArray) (al si : Int) (alt ze : Bool) (wi : Nat) (gr pr : Int) (t H D E : List UInt8) (c : UInt8) (a : Int) (w : World) (hw : wi ≤ 30) (hH : H.length ≤ 3) (hD : D.length ≤ 70) (hE : E.length ≤ 120) (hg0 : 0 ≤ gr) (hg2 : gr ≤ 2) (ha : 1 ≤ a ∧ a ≤ 4)
    (kf : ∀ W, Calls Tryz.prog 44 #[.agg #[.string f, .int .i64 al, .int .i64 si, .bool alt, .bool ze, .int .i64 wi, .int .i64 gr, .int .i64 pr, .string ⟨t.toArray⟩]] W fun r w' => r = .returned (.string ⟨#[c]⟩) ∧ Below W.heap.size W w')
    (kg : ∀ W, Calls Tryz.prog 155 #[.string ⟨t.toArray⟩] W fun r w' => r = .returned (.int .i64 3) ∧ Below W.heap.size W w')
    (ka : ∀ W, Calls Tryz.prog 45 #[.agg #[.string f, .int .i64 al, .int .i64 si, .bool alt, .bool ze, .int .i64 wi, .int .i64 gr, .int .i64 pr, .string ⟨t.toArray⟩], .int .i64 0] W fun r w' => r = .returned (.int .i64 a) ∧ Below W.heap.size W w') :
    Calls Tryz.prog 104 #[.agg #[.string f, .int .i64 al, .int .i64 si, .bool alt, .bool ze, .int .i64 wi, .int .i64 gr, .int .i64 pr, .string ⟨t.toArray⟩], .string ⟨H.toArray⟩, .string ⟨D.toArray⟩, .string ⟨E.toArray⟩] w fun r w' => r = .returned (.string ⟨(if c = 48 ∧ a = 4 then H ++ (widL D (wi - H.length - E.length) 3 (mkL gr) ++ E) else padL H (joinL 3 (mkL gr) D ++ E) wi c a).toArray⟩) ∧ Below w.heap.size w w' := by
  have km := fun W => mBn (markS_g gr hg0 hg2 W)
  have hml := mkL_len gr
  by_cases h : c = 48 ∧ a = 4
  · rw [if_pos h]
    obtain ⟨rfl, rfl⟩ := h
    have kw := fun W => mBn (widenedS_any ⟨D.toArray⟩ ((wi : Int) - H.length - E.length) 3 ⟨(mkL gr).toArray⟩ W (by rw [szZ]; omega) (by omega) (by omega) (by omega) (by rw [szZ]; exact hml))
    rw [show (⟨D.toArray⟩ : ByteArray).data.toList = D from rfl, show (⟨(mkL gr).toArray⟩ : ByteArray).data.toList = mkL gr from rfl, show ((wi : Int) - H.length - E.length).toNat = wi - H.length - E.length by omega] at kw
    have hwl := widL_len70 (l := D) (sep := mkL gr) (wd := wi - H.length - E.length) (n := 3) hD (by omega) hml
    generalize widL D (wi - H.length - E.length) 3 (mkL gr) = R at *
    generalize mkL gr = M at *
    have hq : ¬ (9223372036854775807 < H.length + R.length) := by omega
    have hq2 : ¬ (9223372036854775807 < H.length + R.length + E.length) := by omega
    have w1 : IntKind.i64.wrap ((wi : Int) - H.length) = (wi : Int) - H.length := by rw [IntKind.wrap_i64]; omega
    have w2 : IntKind.i64.wrap ((wi : Int) - H.length - E.length) = (wi : Int) - H.length - E.length := by rw [IntKind.wrap_i64]; omega
    have KF := Lib.hid kf; have KA := Lib.hid ka; have KM := Lib.hid km; have KG := Lib.hid kg; have KW := Lib.hid kw
    clear kf ka km kg kw
    have za := C9.new w (.string f) (.int .i64 al) (.int .i64 si) (.bool alt) (.bool ze) (.int .i64 wi) (.int .i64 gr) (.int .i64 pr) (.string ⟨t.toArray⟩) 24
    have hB : Below w.heap.size w (w.alloc (.cells #[.string f, .int .i64 al, .int .i64 si, .bool alt, .bool ze, .int .i64 wi, .int .i64 gr, .int .i64 pr, .string ⟨t.toArray⟩] 24)) := (Below.refl _ _).alloc (Nat.le_refl _) _
    have zz := za
    obtain ⟨x0, x1, x2, x3, x4, x5, x6, x7, x8, x9, xl⟩ := zz
    go_enter Tryz.func104, Tryz.ntmps104
    go_wp2_with (first | (go_at_call 153; (with_reducible refine Calls.mono (KM.out _) ?_); rintro r w1 ⟨rfl, hb⟩; replace hB := hB.trans (hb.mono hB.size); replace za := za.carry hb; have zz := za; obtain ⟨x0, x1, x2, x3, x4, x5, x6, x7, x8, x9, xl⟩ := zz) | (go_at_call 44; (with_reducible refine Calls.mono (KF.out _) ?_); rintro r w1 ⟨rfl, hb⟩; replace hB := hB.trans (hb.mono hB.size); replace za := za.carry hb; have zz := za; obtain ⟨x0, x1, x2, x3, x4, x5, x6, x7, x8, x9, xl⟩ := zz) | (go_at_call 45; (with_reducible refine Calls.mono (KA.out _) ?_); rintro r w1 ⟨rfl, hb⟩; replace hB := hB.trans (hb.mono hB.size); replace za := za.carry hb; have zz := za; obtain ⟨x0, x1, x2, x3, x4, x5, x6, x7, x8, x9, xl⟩ := zz) | (go_at_call 155; (with_reducible refine Calls.mono (KG.out _) ?_); rintro r w1 ⟨rfl, hb⟩; replace hB := hB.trans (hb.mono hB.size); replace za := za.carry hb; have zz := za; obtain ⟨x0, x1, x2, x3, x4, x5, x6, x7, x8, x9, xl⟩ := zz) | (go_at_call 154; (with_reducible refine Calls.mono (KW.out _) ?_); rintro r w1 ⟨rfl, hb⟩; replace hB := hB.trans (hb.mono hB.size); replace za := za.carry hb; have zz := za; obtain ⟨x0, x1, x2, x3, x4, x5, x6, x7, x8, x9, xl⟩ := zz))
    obtain ⟨sza0, sza1, sza2, sza3, sza4, sza5, sza6, sza7, sza8⟩ := C9.since za
    refine wp_region_since (by kernel_rfl) (by kernel_rfl) ?_
    repeat (quiet_step (first | (go_at_call 155; with_reducible exact Calls.since_of (KG.out _)) | (go_at_call 45; with_reducible exact Calls.since_of (KA.out _)) | (go_at_call 154; with_reducible exact Calls.since_of (KW.out _))))
    refine wpQuiet_nil ?_
    intro w_ hw_
    obtain ⟨⟨w1, hb⟩, hw2⟩ := hw_
    have hw3 : w1 = w_ := hw2.symm
    clear hw2
    subst hw3
    clear sza0 sza1 sza2 sza3 sza4 sza5 sza6 sza7 sza8
    replace hB := hB.trans (hb.mono hB.size)
    have hz := hb.size
    replace za := C9.carry za hb
    have zz := za
    obtain ⟨x0, x1, x2, x3, x4, x5, x6, x7, x8, x9, xl⟩ := zz
    go_wp2
    all_goals go_ret
    all_goals exact ⟨ret_str (by simp [cat_l]), hB⟩
  · rw [if_neg h]
    have kj := fun W => mBn (joinedS_any D 3 ⟨(mkL gr).toArray⟩ W (by omega) (by omega) (by omega) (by rw [szZ]; exact hml))
    rw [show (⟨(mkL gr).toArray⟩ : ByteArray).data.toList = mkL gr from rfl] at kj
    have hjl : (joinL 3 (mkL gr) D).length ≤ 260 := by
      unfold joinL
      split
      · omega
      · have := grp_length 3 (mkL gr) D hml; omega
    have kp := fun W => paddedS_any H (joinL 3 (mkL gr) D ++ E) wi c a W (by omega) (by rw [List.length_append]; omega) hw ha
    generalize padL H (joinL 3 (mkL gr) D ++ E) wi c a = R at *
    generalize joinL 3 (mkL gr) D = J at *
    have hq0 : ¬ (9223372036854775807 < J.length + E.length) := by omega
    have ce : (⟨J.toArray⟩ : ByteArray) ++ ⟨E.toArray⟩ = ⟨(J ++ E).toArray⟩ := cat_l J E
    generalize mkL gr = M at *
    have KF := Lib.hid kf; have KA := Lib.hid ka; have KM := Lib.hid km; have KG := Lib.hid kg; have KJ := Lib.hid kj; have KP := Lib.hid kp
    clear kf ka km kg kj kp
    by_cases h4 : a = 4
    · subst h4
      have hc : ¬ c = 48 := fun e => h ⟨e, rfl⟩
      have hne : (([c] : List UInt8) == [48]) = false := by simpa using hc
      have hne2 : ¬ ([c] : List UInt8) = [48] := by simpa using hc
      have za := C9.new w (.string f) (.int .i64 al) (.int .i64 si) (.bool alt) (.bool ze) (.int .i64 wi) (.int .i64 gr) (.int .i64 pr) (.string ⟨t.toArray⟩) 24
      have hB : Below w.heap.size w (w.alloc (.cells #[.string f, .int .i64 al, .int .i64 si, .bool alt, .bool ze, .int .i64 wi, .int .i64 gr, .int .i64 pr, .string ⟨t.toArray⟩] 24)) := (Below.refl _ _).alloc (Nat.le_refl _) _
      have zz := za
      obtain ⟨x0, x1, x2, x3, x4, x5, x6, x7, x8, x9, xl⟩ := zz
      go_enter Tryz.func104, Tryz.ntmps104
      go_wp2_with (first | (go_at_call 153; (with_reducible refine Calls.mono (KM.out _) ?_); rintro r w1 ⟨rfl, hb⟩; replace hB := hB.trans (hb.mono hB.size); replace za := za.carry hb; have zz := za; obtain ⟨x0, x1, x2, x3, x4, x5, x6, x7, x8, x9, xl⟩ := zz) | (go_at_call 44; (with_reducible refine Calls.mono (KF.out _) ?_); rintro r w1 ⟨rfl, hb⟩; replace hB := hB.trans (hb.mono hB.size); replace za := za.carry hb; have zz := za; obtain ⟨x0, x1, x2, x3, x4, x5, x6, x7, x8, x9, xl⟩ := zz) | (go_at_call 45; (with_reducible refine Calls.mono (KA.out _) ?_); rintro r w1 ⟨rfl, hb⟩; replace hB := hB.trans (hb.mono hB.size); replace za := za.carry hb; have zz := za; obtain ⟨x0, x1, x2, x3, x4, x5, x6, x7, x8, x9, xl⟩ := zz) | (go_at_call 155; (with_reducible refine Calls.mono (KG.out _) ?_); rintro r w1 ⟨rfl, hb⟩; replace hB := hB.trans (hb.mono hB.size); replace za := za.carry hb; have zz := za; obtain ⟨x0, x1, x2, x3, x4, x5, x6, x7, x8, x9, xl⟩ := zz) | (go_at_call 157; (with_reducible refine Calls.mono (KJ.out _) ?_); rintro r w1 ⟨rfl, hb⟩; replace hB := hB.trans (hb.mono hB.size); replace za := za.carry hb; have zz := za; obtain ⟨x0, x1, x2, x3, x4, x5, x6, x7, x8, x9, xl⟩ := zz) | (go_at_call 156; (with_reducible refine Calls.mono (KP.out _) ?_); rintro r w1 ⟨rfl, hb⟩; replace hB := hB.trans (hb.mono hB.size); replace za := za.carry hb; have zz := za; obtain ⟨x0, x1, x2, x3, x4, x5, x6, x7, x8, x9, xl⟩ := zz))
      obtain ⟨sza0, sza1, sza2, sza3, sza4, sza5, sza6, sza7, sza8⟩ := C9.since za
      refine wp_region_since (by kernel_rfl) (by kernel_rfl) ?_
      repeat (quiet_step (first | (go_at_call 155; with_reducible exact Calls.since_of (KG.out _)) | (go_at_call 45; with_reducible exact Calls.since_of (KA.out _)) | (go_at_call 157; with_reducible exact Calls.since_of (KJ.out _)) | (go_at_call 156; with_reducible exact Calls.since_of (KP.out _))))
      refine wpQuiet_nil ?_
      intro w_ hw_
      obtain ⟨⟨w1, hb⟩, hw2⟩ := hw_
      have hw3 : w1 = w_ := hw2.symm
      clear hw2
      subst hw3
      clear sza0 sza1 sza2 sza3 sza4 sza5 sza6 sza7 sza8
      replace hB := hB.trans (hb.mono hB.size)
      have hz := hb.size
      replace za := C9.carry za hb
      have zz := za
      obtain ⟨x0, x1, x2, x3, x4, x5, x6, x7, x8, x9, xl⟩ := zz
      go_wp2
      all_goals go_ret
      all_goals exact ⟨ret_str (by simp), hB⟩
    · have e4 : (a == 4) = false := by simpa using h4
      have za := C9.new w (.string f) (.int .i64 al) (.int .i64 si) (.bool alt) (.bool ze) (.int .i64 wi) (.int .i64 gr) (.int .i64 pr) (.string ⟨t.toArray⟩) 24
      have hB : Below w.heap.size w (w.alloc (.cells #[.string f, .int .i64 al, .int .i64 si, .bool alt, .bool ze, .int .i64 wi, .int .i64 gr, .int .i64 pr, .string ⟨t.toArray⟩] 24)) := (Below.refl _ _).alloc (Nat.le_refl _) _
      have zz := za
      obtain ⟨x0, x1, x2, x3, x4, x5, x6, x7, x8, x9, xl⟩ := zz
      go_enter Tryz.func104, Tryz.ntmps104
      go_wp2_with (first | (go_at_call 153; (with_reducible refine Calls.mono (KM.out _) ?_); rintro r w1 ⟨rfl, hb⟩; replace hB := hB.trans (hb.mono hB.size); replace za := za.carry hb; have zz := za; obtain ⟨x0, x1, x2, x3, x4, x5, x6, x7, x8, x9, xl⟩ := zz) | (go_at_call 44; (with_reducible refine Calls.mono (KF.out _) ?_); rintro r w1 ⟨rfl, hb⟩; replace hB := hB.trans (hb.mono hB.size); replace za := za.carry hb; have zz := za; obtain ⟨x0, x1, x2, x3, x4, x5, x6, x7, x8, x9, xl⟩ := zz) | (go_at_call 45; (with_reducible refine Calls.mono (KA.out _) ?_); rintro r w1 ⟨rfl, hb⟩; replace hB := hB.trans (hb.mono hB.size); replace za := za.carry hb; have zz := za; obtain ⟨x0, x1, x2, x3, x4, x5, x6, x7, x8, x9, xl⟩ := zz) | (go_at_call 155; (with_reducible refine Calls.mono (KG.out _) ?_); rintro r w1 ⟨rfl, hb⟩; replace hB := hB.trans (hb.mono hB.size); replace za := za.carry hb; have zz := za; obtain ⟨x0, x1, x2, x3, x4, x5, x6, x7, x8, x9, xl⟩ := zz) | (go_at_call 157; (with_reducible refine Calls.mono (KJ.out _) ?_); rintro r w1 ⟨rfl, hb⟩; replace hB := hB.trans (hb.mono hB.size); replace za := za.carry hb; have zz := za; obtain ⟨x0, x1, x2, x3, x4, x5, x6, x7, x8, x9, xl⟩ := zz) | (go_at_call 156; (with_reducible refine Calls.mono (KP.out _) ?_); rintro r w1 ⟨rfl, hb⟩; replace hB := hB.trans (hb.mono hB.size); replace za := za.carry hb; have zz := za; obtain ⟨x0, x1, x2, x3, x4, x5, x6, x7, x8, x9, xl⟩ := zz))
      obtain ⟨sza0, sza1, sza2, sza3, sza4, sza5, sza6, sza7, sza8⟩ := C9.since za
      refine wp_region_since (by kernel_rfl) (by kernel_rfl) ?_
      repeat (quiet_step (first | (go_at_call 155; with_reducible exact Calls.since_of (KG.out _)) | (go_at_call 45; with_reducible exact Calls.since_of (KA.out _)) | (go_at_call 157; with_reducible exact Calls.since_of (KJ.out _)) | (go_at_call 156; with_reducible exact Calls.since_of (KP.out _))))
      refine wpQuiet_nil ?_
      intro w_ hw_
      obtain ⟨⟨w1, hb⟩, hw2⟩ := hw_
      have hw3 : w1 = w_ := hw2.symm
      clear hw2
      subst hw3
      clear sza0 sza1 sza2 sza3 sza4 sza5 sza6 sza7 sza8
      replace hB := hB.trans (hb.mono hB.size)
      have hz := hb.size
      replace za := C9.carry za hb
      have zz := za
      obtain ⟨x0, x1, x2, x3, x4, x5, x6, x7, x8, x9, xl⟩ := zz
      go_wp2
      all_goals go_ret
      all_goals exact ⟨ret_str (by simp), hB⟩
end Go.Proofs.YtejganoipbblcaaGreatDoor
