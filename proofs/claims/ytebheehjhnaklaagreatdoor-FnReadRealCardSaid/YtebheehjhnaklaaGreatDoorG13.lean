import Derived.Test.YtebheehjhnaklaaGreatDoorZ6
import Derived.Test.YtebheehjhnaklaaGreatDoorG9
import Derived.Test.YtebheehjhnaklaaGreatDoorG10
namespace Go.Proofs.YtebheehjhnaklaaGreatDoor
open Go Go.RowKit
theorem widL_len70 {l sep : List UInt8} {wd n : Nat} (hl : l.length ≤ 70) (hw : wd ≤ 30) (hs : sep.length ≤ 1) : (widL l wd n sep).length ≤ 260 := by
  unfold widL
  have hc := @cnt_le n wd
  split
  · simp [zeros]; omega
  · have := grp_length n sep (zeros (max (cnt wd n) l.length - l.length) ++ l) hs
    simp [zeros] at this ⊢
    omega
/-- the types of decimals -/
def TyR (t : List UInt8) : Prop := t = [] ∨ t = [102] ∨ t = [101] ∨ t = [69] ∨ t = [103] ∨ t = [71] ∨ t = [37]
theorem groupSizeR (t : List UInt8) (h : TyR t) (w : World) : Calls Tryz.prog 200 #[.string ⟨t.toArray⟩] w fun r w' => r = .returned (.int .i64 3) ∧ Below w.heap.size w w' := by
  have hB := Below.refl w.heap.size w
  rcases h with rfl | rfl | rfl | rfl | rfl | rfl | rfl
  all_goals (
    go_enter Tryz.func200, Tryz.ntmps200
    go_wp2
    go_ret
    exact ⟨rfl, hB⟩)
set_option maxRecDepth 100000 in
set_option maxHeartbeats 8000000 in
theorem laidR_any (f : ByteArray) (al si : Int) (alt ze : Bool) (wi : Nat) (gr pr : Int) (t H D E : List UInt8) (c : UInt8) (a : Int) (w : World) (hw : wi ≤ 30) (hH : H.length ≤ 3) (hD : D.length ≤ 70) (hE : E.length ≤ 120) (hg0 : 0 ≤ gr) (hg2 : gr ≤ 2) (ha : 1 ≤ a ∧ a ≤ 4)
    (kf : ∀ W, Calls Tryz.prog 188 #[.agg #[.string f, .int .i64 al, .int .i64 si, .bool alt, .bool ze, .int .i64 wi, .int .i64 gr, .int .i64 pr, .string ⟨t.toArray⟩]] W fun r w' => r = .returned (.string ⟨#[c]⟩) ∧ Below W.heap.size W w')
    (kg : ∀ W, Calls Tryz.prog 200 #[.string ⟨t.toArray⟩] W fun r w' => r = .returned (.int .i64 3) ∧ Below W.heap.size W w')
    (ka : ∀ W, Calls Tryz.prog 189 #[.agg #[.string f, .int .i64 al, .int .i64 si, .bool alt, .bool ze, .int .i64 wi, .int .i64 gr, .int .i64 pr, .string ⟨t.toArray⟩], .int .i64 0] W fun r w' => r = .returned (.int .i64 a) ∧ Below W.heap.size W w') :
    Calls Tryz.prog 182 #[.agg #[.string f, .int .i64 al, .int .i64 si, .bool alt, .bool ze, .int .i64 wi, .int .i64 gr, .int .i64 pr, .string ⟨t.toArray⟩], .string ⟨H.toArray⟩, .string ⟨D.toArray⟩, .string ⟨E.toArray⟩] w fun r w' => r = .returned (.string ⟨(if c = 48 ∧ a = 4 then H ++ (widL D (wi - H.length - E.length) 3 (mkL gr) ++ E) else padL H (joinL 3 (mkL gr) D ++ E) wi c a).toArray⟩) ∧ Below w.heap.size w w' := by
  have km := fun W => mBn (markS_g gr hg0 hg2 W)
  have hml := mkL_len gr
  by_cases h : c = 48 ∧ a = 4
  · rw [if_pos h]
    obtain ⟨rfl, rfl⟩ := h
    have kw := fun W => mBn (widenedS_any ⟨D.toArray⟩ ((wi : Int) - H.length - E.length) 3 ⟨(mkL gr).toArray⟩ W (by rw [szZ]; omega) (by omega) (by omega) (by omega) (by rw [szZ]; exact hml))
    rw [show (⟨D.toArray⟩ : ByteArray).data.toList = D from rfl, show (⟨(mkL gr).toArray⟩ : ByteArray).data.toList = mkL gr from rfl, show ((wi : Int) - H.length - E.length).toNat = wi - H.length - E.length by omega] at kw
    have hwl := widL_len70 (l := D) (sep := mkL gr) (wd := wi - H.length - E.length) (n := 3) hD (by omega) hml
    generalize widL D (wi - H.length - E.length) 3 (mkL gr) = R at *
    generalize mkL gr = M at *
    have hq : ¬ (9223372036854775807 < H.length + R.length) := by omega
    have hq2 : ¬ (9223372036854775807 < H.length + R.length + E.length) := by omega
    have w1 : IntKind.i64.wrap ((wi : Int) - H.length) = (wi : Int) - H.length := by rw [IntKind.wrap_i64]; omega
    have w2 : IntKind.i64.wrap ((wi : Int) - H.length - E.length) = (wi : Int) - H.length - E.length := by rw [IntKind.wrap_i64]; omega
    have KF := Lib.hid kf; have KA := Lib.hid ka; have KM := Lib.hid km; have KG := Lib.hid kg; have KW := Lib.hid kw
    clear kf ka km kg kw
    have za := C9.new w (.string f) (.int .i64 al) (.int .i64 si) (.bool alt) (.bool ze) (.int .i64 wi) (.int .i64 gr) (.int .i64 pr) (.string ⟨t.toArray⟩) 38
    have hB : Below w.heap.size w (w.alloc (.cells #[.string f, .int .i64 al, .int .i64 si, .bool alt, .bool ze, .int .i64 wi, .int .i64 gr, .int .i64 pr, .string ⟨t.toArray⟩] 38)) := (Below.refl _ _).alloc (Nat.le_refl _) _
    have zz := za
    obtain ⟨x0, x1, x2, x3, x4, x5, x6, x7, x8, x9, xl⟩ := zz
    go_enter Tryz.func182, Tryz.ntmps182
    go_wp2_with (first | (go_at_call 134; (with_reducible refine Calls.mono (KM.out _) ?_); rintro r w1 ⟨rfl, hb⟩; replace hB := hB.trans (hb.mono hB.size); replace za := za.carry hb; have zz := za; obtain ⟨x0, x1, x2, x3, x4, x5, x6, x7, x8, x9, xl⟩ := zz) | (go_at_call 188; (with_reducible refine Calls.mono (KF.out _) ?_); rintro r w1 ⟨rfl, hb⟩; replace hB := hB.trans (hb.mono hB.size); replace za := za.carry hb; have zz := za; obtain ⟨x0, x1, x2, x3, x4, x5, x6, x7, x8, x9, xl⟩ := zz) | (go_at_call 189; (with_reducible refine Calls.mono (KA.out _) ?_); rintro r w1 ⟨rfl, hb⟩; replace hB := hB.trans (hb.mono hB.size); replace za := za.carry hb; have zz := za; obtain ⟨x0, x1, x2, x3, x4, x5, x6, x7, x8, x9, xl⟩ := zz) | (go_at_call 200; (with_reducible refine Calls.mono (KG.out _) ?_); rintro r w1 ⟨rfl, hb⟩; replace hB := hB.trans (hb.mono hB.size); replace za := za.carry hb; have zz := za; obtain ⟨x0, x1, x2, x3, x4, x5, x6, x7, x8, x9, xl⟩ := zz) | (go_at_call 241; (with_reducible refine Calls.mono (KW.out _) ?_); rintro r w1 ⟨rfl, hb⟩; replace hB := hB.trans (hb.mono hB.size); replace za := za.carry hb; have zz := za; obtain ⟨x0, x1, x2, x3, x4, x5, x6, x7, x8, x9, xl⟩ := zz))
    obtain ⟨sza0, sza1, sza2, sza3, sza4, sza5, sza6, sza7, sza8⟩ := C9.since za
    refine wp_region_since (by kernel_rfl) (by kernel_rfl) ?_
    repeat (quiet_step (first | (go_at_call 200; with_reducible exact Calls.since_of (KG.out _)) | (go_at_call 189; with_reducible exact Calls.since_of (KA.out _)) | (go_at_call 241; with_reducible exact Calls.since_of (KW.out _))))
    refine wpQuiet_nil ?_
    intro w_ hw_
    obtain ⟨⟨w1, hb⟩, hw2⟩ := hw_
    have hw3 : w1 = w_ := hw2.symm
    clear hw2
    subst hw3
    clear sza0 sza1 sza2 sza3 sza4 sza5 sza6 sza7 sza8
    replace hB := hB.trans (hb.mono hB.size)
    have hz := hb.size
    replace za := C9.carry za hb
    have zz := za
    obtain ⟨x0, x1, x2, x3, x4, x5, x6, x7, x8, x9, xl⟩ := zz
    go_wp2
    all_goals go_ret
    all_goals exact ⟨ret_str (by simp [cat_l]), hB⟩
  · rw [if_neg h]
    have kj := fun W => mBn (joinedS_any D 3 ⟨(mkL gr).toArray⟩ W (by omega) (by omega) (by omega) (by rw [szZ]; exact hml))
    rw [show (⟨(mkL gr).toArray⟩ : ByteArray).data.toList = mkL gr from rfl] at kj
    have hjl : (joinL 3 (mkL gr) D).length ≤ 260 := by
      unfold joinL
      split
      · omega
      · have := grp_length 3 (mkL gr) D hml; omega
    have kp := fun W => paddedS_any H (joinL 3 (mkL gr) D ++ E) wi c a W (by omega) (by rw [List.length_append]; omega) hw ha
    generalize padL H (joinL 3 (mkL gr) D ++ E) wi c a = R at *
    generalize joinL 3 (mkL gr) D = J at *
    have hq0 : ¬ (9223372036854775807 < J.length + E.length) := by omega
    have ce : (⟨J.toArray⟩ : ByteArray) ++ ⟨E.toArray⟩ = ⟨(J ++ E).toArray⟩ := cat_l J E
    generalize mkL gr = M at *
    have KF := Lib.hid kf; have KA := Lib.hid ka; have KM := Lib.hid km; have KG := Lib.hid kg; have KJ := Lib.hid kj; have KP := Lib.hid kp
    clear kf ka km kg kj kp
    by_cases h4 : a = 4
    · subst h4
      have hc : ¬ c = 48 := fun e => h ⟨e, rfl⟩
      have hne : (([c] : List UInt8) == [48]) = false := by simpa using hc
      have hne2 : ¬ ([c] : List UInt8) = [48] := by simpa using hc
      have za := C9.new w (.string f) (.int .i64 al) (.int .i64 si) (.bool alt) (.bool ze) (.int .i64 wi) (.int .i64 gr) (.int .i64 pr) (.string ⟨t.toArray⟩) 38
      have hB : Below w.heap.size w (w.alloc (.cells #[.string f, .int .i64 al, .int .i64 si, .bool alt, .bool ze, .int .i64 wi, .int .i64 gr, .int .i64 pr, .string ⟨t.toArray⟩] 38)) := (Below.refl _ _).alloc (Nat.le_refl _) _
      have zz := za
      obtain ⟨x0, x1, x2, x3, x4, x5, x6, x7, x8, x9, xl⟩ := zz
      go_enter Tryz.func182, Tryz.ntmps182
      go_wp2_with (first | (go_at_call 134; (with_reducible refine Calls.mono (KM.out _) ?_); rintro r w1 ⟨rfl, hb⟩; replace hB := hB.trans (hb.mono hB.size); replace za := za.carry hb; have zz := za; obtain ⟨x0, x1, x2, x3, x4, x5, x6, x7, x8, x9, xl⟩ := zz) | (go_at_call 188; (with_reducible refine Calls.mono (KF.out _) ?_); rintro r w1 ⟨rfl, hb⟩; replace hB := hB.trans (hb.mono hB.size); replace za := za.carry hb; have zz := za; obtain ⟨x0, x1, x2, x3, x4, x5, x6, x7, x8, x9, xl⟩ := zz) | (go_at_call 189; (with_reducible refine Calls.mono (KA.out _) ?_); rintro r w1 ⟨rfl, hb⟩; replace hB := hB.trans (hb.mono hB.size); replace za := za.carry hb; have zz := za; obtain ⟨x0, x1, x2, x3, x4, x5, x6, x7, x8, x9, xl⟩ := zz) | (go_at_call 200; (with_reducible refine Calls.mono (KG.out _) ?_); rintro r w1 ⟨rfl, hb⟩; replace hB := hB.trans (hb.mono hB.size); replace za := za.carry hb; have zz := za; obtain ⟨x0, x1, x2, x3, x4, x5, x6, x7, x8, x9, xl⟩ := zz) | (go_at_call 242; (with_reducible refine Calls.mono (KJ.out _) ?_); rintro r w1 ⟨rfl, hb⟩; replace hB := hB.trans (hb.mono hB.size); replace za := za.carry hb; have zz := za; obtain ⟨x0, x1, x2, x3, x4, x5, x6, x7, x8, x9, xl⟩ := zz) | (go_at_call 187; (with_reducible refine Calls.mono (KP.out _) ?_); rintro r w1 ⟨rfl, hb⟩; replace hB := hB.trans (hb.mono hB.size); replace za := za.carry hb; have zz := za; obtain ⟨x0, x1, x2, x3, x4, x5, x6, x7, x8, x9, xl⟩ := zz))
      obtain ⟨sza0, sza1, sza2, sza3, sza4, sza5, sza6, sza7, sza8⟩ := C9.since za
      refine wp_region_since (by kernel_rfl) (by kernel_rfl) ?_
      repeat (quiet_step (first | (go_at_call 200; with_reducible exact Calls.since_of (KG.out _)) | (go_at_call 189; with_reducible exact Calls.since_of (KA.out _)) | (go_at_call 242; with_reducible exact Calls.since_of (KJ.out _)) | (go_at_call 187; with_reducible exact Calls.since_of (KP.out _))))
      refine wpQuiet_nil ?_
      intro w_ hw_
      obtain ⟨⟨w1, hb⟩, hw2⟩ := hw_
      have hw3 : w1 = w_ := hw2.symm
      clear hw2
      subst hw3
      clear sza0 sza1 sza2 sza3 sza4 sza5 sza6 sza7 sza8
      replace hB := hB.trans (hb.mono hB.size)
      have hz := hb.size
      replace za := C9.carry za hb
      have zz := za
      obtain ⟨x0, x1, x2, x3, x4, x5, x6, x7, x8, x9, xl⟩ := zz
      go_wp2
      all_goals go_ret
      all_goals exact ⟨ret_str (by simp), hB⟩
    · have e4 : (a == 4) = false := by simpa using h4
      have za := C9.new w (.string f) (.int .i64 al) (.int .i64 si) (.bool alt) (.bool ze) (.int .i64 wi) (.int .i64 gr) (.int .i64 pr) (.string ⟨t.toArray⟩) 38
      have hB : Below w.heap.size w (w.alloc (.cells #[.string f, .int .i64 al, .int .i64 si, .bool alt, .bool ze, .int .i64 wi, .int .i64 gr, .int .i64 pr, .string ⟨t.toArray⟩] 38)) := (Below.refl _ _).alloc (Nat.le_refl _) _
      have zz := za
      obtain ⟨x0, x1, x2, x3, x4, x5, x6, x7, x8, x9, xl⟩ := zz
      go_enter Tryz.func182, Tryz.ntmps182
      go_wp2_with (first | (go_at_call 134; (with_reducible refine Calls.mono (KM.out _) ?_); rintro r w1 ⟨rfl, hb⟩; replace hB := hB.trans (hb.mono hB.size); replace za := za.carry hb; have zz := za; obtain ⟨x0, x1, x2, x3, x4, x5, x6, x7, x8, x9, xl⟩ := zz) | (go_at_call 188; (with_reducible refine Calls.mono (KF.out _) ?_); rintro r w1 ⟨rfl, hb⟩; replace hB := hB.trans (hb.mono hB.size); replace za := za.carry hb; have zz := za; obtain ⟨x0, x1, x2, x3, x4, x5, x6, x7, x8, x9, xl⟩ := zz) | (go_at_call 189; (with_reducible refine Calls.mono (KA.out _) ?_); rintro r w1 ⟨rfl, hb⟩; replace hB := hB.trans (hb.mono hB.size); replace za := za.carry hb; have zz := za; obtain ⟨x0, x1, x2, x3, x4, x5, x6, x7, x8, x9, xl⟩ := zz) | (go_at_call 200; (with_reducible refine Calls.mono (KG.out _) ?_); rintro r w1 ⟨rfl, hb⟩; replace hB := hB.trans (hb.mono hB.size); replace za := za.carry hb; have zz := za; obtain ⟨x0, x1, x2, x3, x4, x5, x6, x7, x8, x9, xl⟩ := zz) | (go_at_call 242; (with_reducible refine Calls.mono (KJ.out _) ?_); rintro r w1 ⟨rfl, hb⟩; replace hB := hB.trans (hb.mono hB.size); replace za := za.carry hb; have zz := za; obtain ⟨x0, x1, x2, x3, x4, x5, x6, x7, x8, x9, xl⟩ := zz) | (go_at_call 187; (with_reducible refine Calls.mono (KP.out _) ?_); rintro r w1 ⟨rfl, hb⟩; replace hB := hB.trans (hb.mono hB.size); replace za := za.carry hb; have zz := za; obtain ⟨x0, x1, x2, x3, x4, x5, x6, x7, x8, x9, xl⟩ := zz))
      obtain ⟨sza0, sza1, sza2, sza3, sza4, sza5, sza6, sza7, sza8⟩ := C9.since za
      refine wp_region_since (by kernel_rfl) (by kernel_rfl) ?_
      repeat (quiet_step (first | (go_at_call 200; with_reducible exact Calls.since_of (KG.out _)) | (go_at_call 189; with_reducible exact Calls.since_of (KA.out _)) | (go_at_call 242; with_reducible exact Calls.since_of (KJ.out _)) | (go_at_call 187; with_reducible exact Calls.since_of (KP.out _))))
      refine wpQuiet_nil ?_
      intro w_ hw_
      obtain ⟨⟨w1, hb⟩, hw2⟩ := hw_
      have hw3 : w1 = w_ := hw2.symm
      clear hw2
      subst hw3
      clear sza0 sza1 sza2 sza3 sza4 sza5 sza6 sza7 sza8
      replace hB := hB.trans (hb.mono hB.size)
      have hz := hb.size
      replace za := C9.carry za hb
      have zz := za
      obtain ⟨x0, x1, x2, x3, x4, x5, x6, x7, x8, x9, xl⟩ := zz
      go_wp2
      all_goals go_ret
      all_goals exact ⟨ret_str (by simp), hB⟩
end Go.Proofs.YtebheehjhnaklaaGreatDoor
namespace Go.Proofs.YtebheehjhnaklaaGreatDoor
open Go Go.RowKit
/-- the text of an amount with its digits, sign, groups and fill -/
def frL (fc : UInt8) (a si : Int) (alt : Bool) (wi : Nat) (gr : Int) (n : Bool) (A B T : List UInt8) : List UInt8 :=
  if fc = 48 ∧ a = 4 then sgnL si (n && !zdB (A ++ B)) ++ (widL A (wi - (sgnL si (n && !zdB (A ++ B))).length - (restL B T alt).length) 3 (mkL gr) ++ restL B T alt)
  else padL (sgnL si (n && !zdB (A ++ B))) (joinL 3 (mkL gr) A ++ restL B T alt) wi fc a
theorem rest_tail (B T : List UInt8) (alt : Bool) : restL B [] alt ++ T = restL B T alt := by
  unfold restL
  by_cases h : B = [] ∧ alt = false
  · rw [if_pos h, if_pos h]; rfl
  · rw [if_neg h, if_neg h]; simp
theorem rest_le (B T : List UInt8) (alt : Bool) : (restL B T alt).length ≤ B.length + T.length + 1 := by
  unfold restL
  split
  · omega
  · rw [List.length_cons, List.length_append]; omega
/-- an amount as both sides have it -/
structure AmL (A B T : List UInt8) : Prop where
  la : A.length ≤ 70
  lb : B.length ≤ 70
  lt : T.length ≤ 5
  da : DgL A
  db : DgL B
set_option maxRecDepth 100000 in
set_option maxHeartbeats 8000000 in
theorem formatRealS_ok (f : ByteArray) (al si : Int) (alt ze : Bool) (wi : Nat) (gr pr : Int) (t : List UInt8) (n : Bool) (c e : Int) (A B T : List UInt8) (fc : UInt8) (a : Int) (w : World) (L : AmL A B T) (hw : wi ≤ 30) (hg0 : 0 ≤ gr) (hg2 : gr ≤ 2) (ha : 1 ≤ a ∧ a ≤ 4) (hT : TyR t)
    (kr : ∀ W, Calls Tryz.prog 181 #[.agg #[.string f, .int .i64 al, .int .i64 si, .bool alt, .bool ze, .int .i64 (wi : Nat), .int .i64 gr, .int .i64 pr, .string ⟨t.toArray⟩], .agg #[.bool n, .int .i64 c, .int .i64 e]] W fun r w' => r = .returned (.tuple #[.string ⟨A.toArray⟩, .string ⟨B.toArray⟩, .string ⟨T.toArray⟩]) ∧ Below W.heap.size W w')
    (kf : ∀ W, Calls Tryz.prog 188 #[.agg #[.string f, .int .i64 al, .int .i64 si, .bool alt, .bool ze, .int .i64 (wi : Nat), .int .i64 gr, .int .i64 pr, .string ⟨t.toArray⟩]] W fun r w' => r = .returned (.string ⟨#[fc]⟩) ∧ Below W.heap.size W w')
    (ka : ∀ W, Calls Tryz.prog 189 #[.agg #[.string f, .int .i64 al, .int .i64 si, .bool alt, .bool ze, .int .i64 (wi : Nat), .int .i64 gr, .int .i64 pr, .string ⟨t.toArray⟩], .int .i64 0] W fun r w' => r = .returned (.int .i64 a) ∧ Below W.heap.size W w') :
    Calls Tryz.prog 115 #[.agg #[.string f, .int .i64 al, .int .i64 si, .bool alt, .bool ze, .int .i64 (wi : Nat), .int .i64 gr, .int .i64 pr, .string ⟨t.toArray⟩], .agg #[.bool n, .int .i64 c, .int .i64 e]] w fun r w' => r = .returned (.string ⟨(frL fc a si alt wi gr n A B T).toArray⟩) ∧ Below w.heap.size w w' := by
  obtain ⟨la, lb, lt, da, db⟩ := L
  have kn := fun W => nothingS_any ⟨(A ++ B).toArray⟩ (by show (A ++ B).length ≤ _; rw [List.length_append]; omega) W
  rw [show ntB (⟨(A ++ B).toArray⟩ : ByteArray).data.toList = zdB (A ++ B) from nt_zd (da.app db)] at kn
  have kg := fun W => mBn (signTextS_any si (n && !zdB (A ++ B)) W)
  have kp := fun W => mBn (pointedS_any B alt W (by omega))
  have hsl := sgn_len si (n && !zdB (A ++ B))
  have hrl := rest_le B T alt
  have hrl0 := rest_le B [] alt
  have kl := fun W => laidR_any f al si alt ze wi gr pr t (sgnL si (n && !zdB (A ++ B))) A (restL B T alt) fc a W hw (by omega) (by omega) (by omega) hg0 hg2 ha kf (groupSizeR t hT) ka
  change ∀ W, Calls Tryz.prog 182 #[.agg #[.string f, .int .i64 al, .int .i64 si, .bool alt, .bool ze, .int .i64 (wi : Nat), .int .i64 gr, .int .i64 pr, .string ⟨t.toArray⟩], .string ⟨(sgnL si (n && !zdB (A ++ B))).toArray⟩, .string ⟨A.toArray⟩, .string ⟨(restL B T alt).toArray⟩] W fun r w' => r = .returned (.string ⟨(frL fc a si alt wi gr n A B T).toArray⟩) ∧ Below W.heap.size W w' at kl
  have c1 := cat_lN A B
  have c2 := cat_lN (restL B [] alt) T
  rw [rest_tail] at c2
  have q1 : ¬ (9223372036854775807 < A.length + B.length) := by omega
  have q2 : ¬ (9223372036854775807 < (restL B [] alt).length + T.length) := by rw [List.length_nil] at hrl0; omega
  generalize frL fc a si alt wi gr n A B T = R at *
  generalize restL B T alt = E at *
  generalize restL B [] alt = E0 at *
  generalize zdB (A ++ B) = zb at *
  generalize A ++ B = AB at *
  clear hsl hrl hrl0 da db
  have za := (C9.new w (.string f) (.int .i64 al) (.int .i64 si) (.bool alt) (.bool ze) (.int .i64 (wi : Nat)) (.int .i64 gr) (.int .i64 pr) (.string ⟨t.toArray⟩) 38).up (.cells #[.bool n, .int .i64 c, .int .i64 e] 24)
  have zd : C3 ((w.alloc (.cells #[.string f, .int .i64 al, .int .i64 si, .bool alt, .bool ze, .int .i64 (wi : Nat), .int .i64 gr, .int .i64 pr, .string ⟨t.toArray⟩] 38)).alloc (.cells #[.bool n, .int .i64 c, .int .i64 e] 24)) (w.heap.size + 1) (.bool n) (.int .i64 c) (.int .i64 e) := by
    have h := C3.new (w.alloc (.cells #[.string f, .int .i64 al, .int .i64 si, .bool alt, .bool ze, .int .i64 (wi : Nat), .int .i64 gr, .int .i64 pr, .string ⟨t.toArray⟩] 38)) (.bool n) (.int .i64 c) (.int .i64 e) 24
    rw [show (w.alloc (.cells #[.string f, .int .i64 al, .int .i64 si, .bool alt, .bool ze, .int .i64 (wi : Nat), .int .i64 gr, .int .i64 pr, .string ⟨t.toArray⟩] 38)).heap.size = w.heap.size + 1 by simp] at h
    exact h
  have hB : Below w.heap.size w ((w.alloc (.cells #[.string f, .int .i64 al, .int .i64 si, .bool alt, .bool ze, .int .i64 (wi : Nat), .int .i64 gr, .int .i64 pr, .string ⟨t.toArray⟩] 38)).alloc (.cells #[.bool n, .int .i64 c, .int .i64 e] 24)) := ((Below.refl _ _).alloc (Nat.le_refl _) _).alloc (by simp) _
  have KR := Lib.hid kr; have KN := Lib.hid kn; have KP := Lib.hid kp
  clear kr kn kp kf ka
  cases n
  · rw [Bool.false_and] at kg kl
    generalize sgnL si false = H at *
    have KG := Lib.hid kg; have KL := Lib.hid kl
    clear kg kl
    go_enter Tryz.func115, Tryz.ntmps115
    go_wp2_with (first | (go_at_call 181; (with_reducible refine Calls.mono (KR.out _) ?_); rintro r w1 ⟨rfl, hb⟩; replace hB := hB.trans (hb.mono hB.size); have hz := hb.size; replace za := C9.carry za hb; have zz := za; obtain ⟨za_x0, za_x1, za_x2, za_x3, za_x4, za_x5, za_x6, za_x7, za_x8, za_xf, za_xl⟩ := zz; replace zd := C3.carry zd hb; have zz := zd; obtain ⟨zd_0, zd_1, zd_2, zd_3, zd_4, zd_5, zd_6⟩ := zz))
    obtain ⟨sza0, sza1, sza2, sza3, sza4, sza5, sza6, sza7, sza8⟩ := C9.since za
    obtain ⟨szd0, szd1, szd2⟩ := C3.since zd
    refine wp_region_since (by kernel_rfl) (by kernel_rfl) ?_
    repeat (quiet_step (first | (go_at_call 184; with_reducible exact Calls.since_of (KN.out _)) | (go_at_call 183; with_reducible exact Calls.since_of (KG.out _)) | (go_at_call 50; with_reducible exact Calls.since_of (KP.out _)) | (go_at_call 182; with_reducible exact Calls.since_of (KL.out _))))
    refine wpQuiet_nil ?_
    intro w_ hw_
    obtain ⟨⟨w1, hb⟩, hw2⟩ := hw_
    have hw3 : w1 = w_ := hw2.symm
    clear hw2
    subst hw3
    clear sza0 sza1 sza2 sza3 sza4 sza5 sza6 sza7 sza8 szd0 szd1 szd2
    replace hB := hB.trans (hb.mono hB.size)
    have hz := hb.size
    replace za := C9.carry za hb
    have zz := za
    obtain ⟨za_x0, za_x1, za_x2, za_x3, za_x4, za_x5, za_x6, za_x7, za_x8, za_xf, za_xl⟩ := zz
    replace zd := C3.carry zd hb
    have zz := zd
    obtain ⟨zd_0, zd_1, zd_2, zd_3, zd_4, zd_5, zd_6⟩ := zz
    go_wp2
    go_ret
    exact ⟨rfl, hB⟩
  · rw [Bool.true_and] at kg kl
    generalize hH : sgnL si (!zb) = H at *
    clear hH
    have KG := Lib.hid kg; have KL := Lib.hid kl
    clear kg kl
    go_enter Tryz.func115, Tryz.ntmps115
    go_wp2_with (first | (go_at_call 181; (with_reducible refine Calls.mono (KR.out _) ?_); rintro r w1 ⟨rfl, hb⟩; replace hB := hB.trans (hb.mono hB.size); have hz := hb.size; replace za := C9.carry za hb; have zz := za; obtain ⟨za_x0, za_x1, za_x2, za_x3, za_x4, za_x5, za_x6, za_x7, za_x8, za_xf, za_xl⟩ := zz; replace zd := C3.carry zd hb; have zz := zd; obtain ⟨zd_0, zd_1, zd_2, zd_3, zd_4, zd_5, zd_6⟩ := zz))
    obtain ⟨sza0, sza1, sza2, sza3, sza4, sza5, sza6, sza7, sza8⟩ := C9.since za
    obtain ⟨szd0, szd1, szd2⟩ := C3.since zd
    refine wp_region_since (by kernel_rfl) (by kernel_rfl) ?_
    repeat (quiet_step (first | (go_at_call 184; with_reducible exact Calls.since_of (KN.out _)) | (go_at_call 183; with_reducible exact Calls.since_of (KG.out _)) | (go_at_call 50; with_reducible exact Calls.since_of (KP.out _)) | (go_at_call 182; with_reducible exact Calls.since_of (KL.out _))))
    refine wpQuiet_nil ?_
    intro w_ hw_
    obtain ⟨⟨w1, hb⟩, hw2⟩ := hw_
    have hw3 : w1 = w_ := hw2.symm
    clear hw2
    subst hw3
    clear sza0 sza1 sza2 sza3 sza4 sza5 sza6 sza7 sza8 szd0 szd1 szd2
    replace hB := hB.trans (hb.mono hB.size)
    have hz := hb.size
    replace za := C9.carry za hb
    have zz := za
    obtain ⟨za_x0, za_x1, za_x2, za_x3, za_x4, za_x5, za_x6, za_x7, za_x8, za_xf, za_xl⟩ := zz
    replace zd := C3.carry zd hb
    have zz := zd
    obtain ⟨zd_0, zd_1, zd_2, zd_3, zd_4, zd_5, zd_6⟩ := zz
    go_wp2
    go_ret
    exact ⟨rfl, hB⟩
end Go.Proofs.YtebheehjhnaklaaGreatDoor
namespace Go.Proofs.YtebheehjhnaklaaGreatDoor
open Go Go.RowKit
set_option maxRecDepth 100000 in
set_option maxHeartbeats 4000000 in
theorem zerosUpToR_any (f : ByteArray) (al si : Int) (alt ze : Bool) (wi : Nat) (gr pr : Int) (t : ByteArray) (others : Nat) (c : UInt8) (a : Int) (w : World) (hw : wi ≤ 30)
    (kf : ∀ W, Calls Tryz.prog 146 #[.agg #[.string f, .int .i64 al, .int .i64 si, .bool alt, .bool ze, .int .i64 wi, .int .i64 gr, .int .i64 pr, .string t]] W fun r w' => r = .returned (.string ⟨#[c]⟩) ∧ Below W.heap.size W w')
    (ka : ∀ W, Calls Tryz.prog 147 #[.agg #[.string f, .int .i64 al, .int .i64 si, .bool alt, .bool ze, .int .i64 wi, .int .i64 gr, .int .i64 pr, .string t], .int .i64 1] W fun r w' => r = .returned (.int .i64 a) ∧ Below W.heap.size W w') (ho : others ≤ 200) :
    Calls Tryz.prog 150 #[.agg #[.string f, .int .i64 al, .int .i64 si, .bool alt, .bool ze, .int .i64 wi, .int .i64 gr, .int .i64 pr, .string t], .int .i64 1, .int .i64 others] w fun r w' => r = .returned (.int .i64 ((zuN c a wi others : Nat) : Int)) ∧ Below w.heap.size w w' := by
  have kg := fun W => mBn (greater_pos ((wi : Int) - others) (by omega) W)
  rw [show ((wi : Int) - others).toNat = wi - others by omega] at kg
  have KF := Lib.hid kf; have KA := Lib.hid ka; have KG := Lib.hid kg
  clear kf ka kg
  by_cases hc : c = 48
  · subst hc
    by_cases h4 : a = 4
    · subst h4
      rw [show zuN 48 4 wi others = wi - others from if_pos ⟨rfl, rfl⟩]
      generalize wi - others = m at *
      have za := C9.new w (.string f) (.int .i64 al) (.int .i64 si) (.bool alt) (.bool ze) (.int .i64 wi) (.int .i64 gr) (.int .i64 pr) (.string t) 38
      have hB : Below w.heap.size w (w.alloc (.cells #[.string f, .int .i64 al, .int .i64 si, .bool alt, .bool ze, .int .i64 wi, .int .i64 gr, .int .i64 pr, .string t] 38)) := (Below.refl _ _).alloc (Nat.le_refl _) _
      have zz := za
      obtain ⟨x0, x1, x2, x3, x4, x5, x6, x7, x8, x9, xl⟩ := zz
      go_enter Tryz.func150, Tryz.ntmps150
      go_wp2_with (first | (go_at_call 146; (with_reducible refine Calls.mono (KF.out _) ?_); rintro r w1 ⟨rfl, hb⟩; replace hB := hB.trans (hb.mono hB.size); replace za := za.carry hb; have zz := za; obtain ⟨x0, x1, x2, x3, x4, x5, x6, x7, x8, x9, xl⟩ := zz) | (go_at_call 147; (with_reducible refine Calls.mono (KA.out _) ?_); rintro r w1 ⟨rfl, hb⟩; replace hB := hB.trans (hb.mono hB.size); replace za := za.carry hb; have zz := za; obtain ⟨x0, x1, x2, x3, x4, x5, x6, x7, x8, x9, xl⟩ := zz) | (go_at_call 166; (with_reducible refine Calls.mono (KG.out _) ?_); rintro r w1 ⟨rfl, hb⟩; replace hB := hB.trans (hb.mono hB.size); replace za := za.carry hb; have zz := za; obtain ⟨x0, x1, x2, x3, x4, x5, x6, x7, x8, x9, xl⟩ := zz))
      all_goals go_ret
      all_goals exact ⟨rfl, hB⟩
    · rw [show zuN 48 a wi others = 0 from if_neg (fun h => h4 h.2)]
      have e4 : (a == 4) = false := by simpa using h4
      have e5 : (a != 4) = true := by simp [bne, e4]
      have za := C9.new w (.string f) (.int .i64 al) (.int .i64 si) (.bool alt) (.bool ze) (.int .i64 wi) (.int .i64 gr) (.int .i64 pr) (.string t) 38
      have hB : Below w.heap.size w (w.alloc (.cells #[.string f, .int .i64 al, .int .i64 si, .bool alt, .bool ze, .int .i64 wi, .int .i64 gr, .int .i64 pr, .string t] 38)) := (Below.refl _ _).alloc (Nat.le_refl _) _
      have zz := za
      obtain ⟨x0, x1, x2, x3, x4, x5, x6, x7, x8, x9, xl⟩ := zz
      go_enter Tryz.func150, Tryz.ntmps150
      go_wp2_with (first | (go_at_call 146; (with_reducible refine Calls.mono (KF.out _) ?_); rintro r w1 ⟨rfl, hb⟩; replace hB := hB.trans (hb.mono hB.size); replace za := za.carry hb; have zz := za; obtain ⟨x0, x1, x2, x3, x4, x5, x6, x7, x8, x9, xl⟩ := zz) | (go_at_call 147; (with_reducible refine Calls.mono (KA.out _) ?_); rintro r w1 ⟨rfl, hb⟩; replace hB := hB.trans (hb.mono hB.size); replace za := za.carry hb; have zz := za; obtain ⟨x0, x1, x2, x3, x4, x5, x6, x7, x8, x9, xl⟩ := zz) | (go_at_call 166; (with_reducible refine Calls.mono (KG.out _) ?_); rintro r w1 ⟨rfl, hb⟩; replace hB := hB.trans (hb.mono hB.size); replace za := za.carry hb; have zz := za; obtain ⟨x0, x1, x2, x3, x4, x5, x6, x7, x8, x9, xl⟩ := zz))
      all_goals go_ret
      all_goals exact ⟨rfl, hB⟩
  · rw [show zuN c a wi others = 0 from if_neg (fun h => hc h.1)]
    have hne : (([c] : List UInt8) == [48]) = false := by simpa using hc
    have hne2 : ¬ ([c] : List UInt8) = [48] := by simpa using hc
    have za := C9.new w (.string f) (.int .i64 al) (.int .i64 si) (.bool alt) (.bool ze) (.int .i64 wi) (.int .i64 gr) (.int .i64 pr) (.string t) 38
    have hB : Below w.heap.size w (w.alloc (.cells #[.string f, .int .i64 al, .int .i64 si, .bool alt, .bool ze, .int .i64 wi, .int .i64 gr, .int .i64 pr, .string t] 38)) := (Below.refl _ _).alloc (Nat.le_refl _) _
    have zz := za
    obtain ⟨x0, x1, x2, x3, x4, x5, x6, x7, x8, x9, xl⟩ := zz
    go_enter Tryz.func150, Tryz.ntmps150
    go_wp2_with (first | (go_at_call 146; (with_reducible refine Calls.mono (KF.out _) ?_); rintro r w1 ⟨rfl, hb⟩; replace hB := hB.trans (hb.mono hB.size); replace za := za.carry hb; have zz := za; obtain ⟨x0, x1, x2, x3, x4, x5, x6, x7, x8, x9, xl⟩ := zz) | (go_at_call 147; (with_reducible refine Calls.mono (KA.out _) ?_); rintro r w1 ⟨rfl, hb⟩; replace hB := hB.trans (hb.mono hB.size); replace za := za.carry hb; have zz := za; obtain ⟨x0, x1, x2, x3, x4, x5, x6, x7, x8, x9, xl⟩ := zz) | (go_at_call 166; (with_reducible refine Calls.mono (KG.out _) ?_); rintro r w1 ⟨rfl, hb⟩; replace hB := hB.trans (hb.mono hB.size); replace za := za.carry hb; have zz := za; obtain ⟨x0, x1, x2, x3, x4, x5, x6, x7, x8, x9, xl⟩ := zz))
    all_goals go_ret
    all_goals exact ⟨rfl, hB⟩
theorem groupOf10 (w : World) : Calls Tryz.prog 152 #[.int .i64 10] w fun r w' => r = .returned (.int .i64 3) ∧ Below w.heap.size w w' := by
  have hB := Below.refl w.heap.size w
  go_enter Tryz.func152, Tryz.ntmps152
  go_wp2
  go_ret
  exact ⟨rfl, hB⟩
theorem fr_pad {fc : UInt8} {a si : Int} {alt : Bool} {wi : Nat} {gr : Int} {n : Bool} {A B T : List UInt8} (hw : wi ≤ 30) (hA : A.length ≤ 70) :
    padL (sgnL si (n && !zdB (A ++ B))) (widL A (zuN fc a wi ((sgnL si (n && !zdB (A ++ B))).length + (restL B T alt).length)) 3 (mkL gr) ++ restL B T alt) wi fc a = frL fc a si alt wi gr n A B T := by
  unfold frL
  generalize sgnL si (n && !zdB (A ++ B)) = H
  generalize restL B T alt = E
  by_cases h : fc = 48 ∧ a = 4
  · rw [if_pos h]
    obtain ⟨rfl, rfl⟩ := h
    have hz : zuN 48 4 wi (H.length + E.length) = wi - H.length - E.length := by
      unfold zuN
      rw [if_pos ⟨rfl, rfl⟩]; omega
    rw [hz]
    have hge := widL_ge (l := A) (sep := mkL gr) (wd := wi - H.length - E.length) (n := 3) (by omega) (by omega) (by omega) (by omega) (mkL_len gr)
    generalize widL A (wi - H.length - E.length) 3 (mkL gr) = W at *
    unfold padL
    rw [if_neg (by decide), if_neg (by decide), if_pos rfl]
    rw [show wi - H.length - (W ++ E).length = 0 by rw [List.length_append]; omega]
    rfl
  · rw [if_neg h, show zuN fc a wi (H.length + E.length) = 0 from if_neg h, widL_zero]
set_option maxRecDepth 100000 in
set_option maxHeartbeats 16000000 in
theorem FormatReal_ok (f : ByteArray) (al si : Int) (alt ze : Bool) (wi : Nat) (gr pr : Int) (t : List UInt8) (n : Bool) (c e : Int) (A B T : List UInt8) (fc : UInt8) (a : Int) (w : World) (hPT : PT w) (L : AmL A B T) (hw : wi ≤ 30) (hg0 : 0 ≤ gr) (hg2 : gr ≤ 2) (ha : 1 ≤ a ∧ a ≤ 4)
    (ks : ∀ W, Calls Tryz.prog 85 #[.agg #[.string f, .int .i64 al, .int .i64 si, .bool alt, .bool ze, .int .i64 (wi : Nat), .int .i64 gr, .int .i64 pr, .string ⟨t.toArray⟩], .int .i64 1] W fun r w' => r = .returned (.bool true) ∧ Below W.heap.size W w')
    (kd : ∀ W, Calls Tryz.prog 43 #[.agg #[.bool n, .int .i64 c, .int .i64 e]] W fun r w' => r = .returned (.bool true) ∧ Below W.heap.size W w')
    (kr : ∀ W, PT W → Calls Tryz.prog 148 #[.agg #[.string f, .int .i64 al, .int .i64 si, .bool alt, .bool ze, .int .i64 (wi : Nat), .int .i64 gr, .int .i64 pr, .string ⟨t.toArray⟩], .agg #[.bool n, .int .i64 c, .int .i64 e]] W fun r w' => r = .returned (.agg #[.string ⟨A.toArray⟩, .string ⟨B.toArray⟩, .string ⟨T.toArray⟩]) ∧ Below W.heap.size W w')
    (kf : ∀ W, Calls Tryz.prog 146 #[.agg #[.string f, .int .i64 al, .int .i64 si, .bool alt, .bool ze, .int .i64 (wi : Nat), .int .i64 gr, .int .i64 pr, .string ⟨t.toArray⟩]] W fun r w' => r = .returned (.string ⟨#[fc]⟩) ∧ Below W.heap.size W w')
    (ka : ∀ W, Calls Tryz.prog 147 #[.agg #[.string f, .int .i64 al, .int .i64 si, .bool alt, .bool ze, .int .i64 (wi : Nat), .int .i64 gr, .int .i64 pr, .string ⟨t.toArray⟩], .int .i64 1] W fun r w' => r = .returned (.int .i64 a) ∧ Below W.heap.size W w') :
    Calls Tryz.prog 87 #[.agg #[.string f, .int .i64 al, .int .i64 si, .bool alt, .bool ze, .int .i64 (wi : Nat), .int .i64 gr, .int .i64 pr, .string ⟨t.toArray⟩], .agg #[.bool n, .int .i64 c, .int .i64 e]] w fun r w' => r = .returned (.string ⟨(frL fc a si alt wi gr n A B T).toArray⟩) ∧ Below w.heap.size w w' := by
  obtain ⟨la, lb, lt, da, db⟩ := L
  have kz := fun W => isZero_any A B T W (by omega) (by omega)
  have kg := fun W => mBn (signFor_any si (n && !zdB (A ++ B)) W)
  have kp := fun W => rest_any A B T alt W (by omega) (by omega)
  have hsl := sgn_len si (n && !zdB (A ++ B))
  have hrl := rest_le B T alt
  have ku := fun W => zerosUpToR_any f al si alt ze wi gr pr ⟨t.toArray⟩ ((sgnL si (n && !zdB (A ++ B))).length + (restL B T alt).length) fc a W hw kf ka (by omega)
  have km := fun W => mBn (markAt_g gr hg0 hg2 W)
  have hml := mkL_len gr
  have hzu := @zu_le fc a wi ((sgnL si (n && !zdB (A ++ B))).length + (restL B T alt).length)
  have kw := fun W => WidenDigits_any ⟨A.toArray⟩ ((zuN fc a wi ((sgnL si (n && !zdB (A ++ B))).length + (restL B T alt).length) : Nat) : Int) 3 ⟨(mkL gr).toArray⟩ W (by show A.length ≤ _; omega) (by show (mkL gr).length ≤ _; omega)
  have ew := widW_yes (s := ⟨A.toArray⟩) (wd := zuN fc a wi ((sgnL si (n && !zdB (A ++ B))).length + (restL B T alt).length)) (n := 3) (sep := ⟨(mkL gr).toArray⟩) (by show A.length ≤ 80; omega) (by omega) (by omega) (by omega) hml
  rw [show ((3 : Nat) : Int) = 3 from rfl] at ew
  rw [ew] at kw
  have hwl := widL_len70 (l := A) (sep := mkL gr) (wd := zuN fc a wi ((sgnL si (n && !zdB (A ++ B))).length + (restL B T alt).length)) (n := 3) la (by omega) hml
  have kx := fun W => filled_any (sgnL si (n && !zdB (A ++ B))) (widL A (zuN fc a wi ((sgnL si (n && !zdB (A ++ B))).length + (restL B T alt).length)) 3 (mkL gr) ++ restL B T alt) wi fc a W (by omega) (by rw [List.length_append]; omega) hw ha
  rw [fr_pad hw la] at kx
  have c1 := cat_lN (widL A (zuN fc a wi ((sgnL si (n && !zdB (A ++ B))).length + (restL B T alt).length)) 3 (mkL gr)) (restL B T alt)
  change ∀ W, Calls Tryz.prog 151 #[.string ⟨A.toArray⟩, .int .i64 ((zuN fc a wi ((sgnL si (n && !zdB (A ++ B))).length + (restL B T alt).length) : Nat) : Int), .int .i64 3, .string ⟨(mkL gr).toArray⟩] W fun r w' => r = .returned (.string ⟨(widL A (zuN fc a wi ((sgnL si (n && !zdB (A ++ B))).length + (restL B T alt).length)) 3 (mkL gr)).toArray⟩) ∧ Below W.heap.size W w' at kw
  generalize frL fc a si alt wi gr n A B T = R at *
  generalize zdB (A ++ B) = zb at *
  clear ew da db hzu
  have za := (C9.new w (.string f) (.int .i64 al) (.int .i64 si) (.bool alt) (.bool ze) (.int .i64 (wi : Nat)) (.int .i64 gr) (.int .i64 pr) (.string ⟨t.toArray⟩) 38).up (.cells #[.bool n, .int .i64 c, .int .i64 e] 24)
  have zd : C3 ((w.alloc (.cells #[.string f, .int .i64 al, .int .i64 si, .bool alt, .bool ze, .int .i64 (wi : Nat), .int .i64 gr, .int .i64 pr, .string ⟨t.toArray⟩] 38)).alloc (.cells #[.bool n, .int .i64 c, .int .i64 e] 24)) (w.heap.size + 1) (.bool n) (.int .i64 c) (.int .i64 e) := by
    have h := C3.new (w.alloc (.cells #[.string f, .int .i64 al, .int .i64 si, .bool alt, .bool ze, .int .i64 (wi : Nat), .int .i64 gr, .int .i64 pr, .string ⟨t.toArray⟩] 38)) (.bool n) (.int .i64 c) (.int .i64 e) 24
    rw [show (w.alloc (.cells #[.string f, .int .i64 al, .int .i64 si, .bool alt, .bool ze, .int .i64 (wi : Nat), .int .i64 gr, .int .i64 pr, .string ⟨t.toArray⟩] 38)).heap.size = w.heap.size + 1 by simp] at h
    exact h
  have hB : Below w.heap.size w ((w.alloc (.cells #[.string f, .int .i64 al, .int .i64 si, .bool alt, .bool ze, .int .i64 (wi : Nat), .int .i64 gr, .int .i64 pr, .string ⟨t.toArray⟩] 38)).alloc (.cells #[.bool n, .int .i64 c, .int .i64 e] 24)) := ((Below.refl _ _).alloc (Nat.le_refl _) _).alloc (by simp) _
  have KS := Lib.hid ks; have KD := Lib.hid kd; have KR := Lib.hid kr; have KZ := Lib.hid kz; have KP := Lib.hid kp; have KM := Lib.hid km; have KF := Lib.hid kf; have KA := Lib.hid ka
  have KT := Lib.hid (fun W => groupOf10 W)
  clear ks kd kr kz kp km kf ka
  have zz := za
  obtain ⟨za_x0, za_x1, za_x2, za_x3, za_x4, za_x5, za_x6, za_x7, za_x8, za_xf, za_xl⟩ := zz
  have zz := zd
  obtain ⟨zd_0, zd_1, zd_2, zd_3, zd_4, zd_5, zd_6⟩ := zz
  cases n
  · rw [Bool.false_and] at kg
    simp only [Bool.false_and] at ku kw kx c1 hwl hsl
    generalize hH : sgnL si false = H at *
    clear hH
    generalize hE : restL B T alt = E at *
    clear hE
    generalize hZ : zuN fc a wi (H.length + E.length) = Z at *
    clear hZ
    generalize hM : mkL gr = M at *
    clear hM
    generalize hW : widL A Z 3 M = D at *
    clear hW
    have q1 : ¬ (9223372036854775807 < H.length + E.length) := by omega
    have q2 : ¬ (9223372036854775807 < D.length + E.length) := by omega
    have q3 : (H.length : Int) + E.length ≤ 1000 := by omega
    rw [Int.natCast_add] at ku
    have KG := Lib.hid kg; have KU := Lib.hid ku; have KW := Lib.hid kw; have KX := Lib.hid kx
    clear kg ku kw kx
    go_enter Tryz.func87, Tryz.ntmps87
    go_wp2_with (first | (go_at_call 85; (with_reducible refine Calls.mono (KS.out _) ?_); rintro r w1 ⟨rfl, hb⟩; replace hB := hB.trans (hb.mono hB.size); have hz := hb.size; replace za := C9.carry za hb; have zz := za; obtain ⟨za_x0, za_x1, za_x2, za_x3, za_x4, za_x5, za_x6, za_x7, za_x8, za_xf, za_xl⟩ := zz; replace zd := C3.carry zd hb; have zz := zd; obtain ⟨zd_0, zd_1, zd_2, zd_3, zd_4, zd_5, zd_6⟩ := zz) | (go_at_call 43; (with_reducible refine Calls.mono (KD.out _) ?_); rintro r w1 ⟨rfl, hb⟩; replace hB := hB.trans (hb.mono hB.size); have hz := hb.size; replace za := C9.carry za hb; have zz := za; obtain ⟨za_x0, za_x1, za_x2, za_x3, za_x4, za_x5, za_x6, za_x7, za_x8, za_xf, za_xl⟩ := zz; replace zd := C3.carry zd hb; have zz := zd; obtain ⟨zd_0, zd_1, zd_2, zd_3, zd_4, zd_5, zd_6⟩ := zz) | (go_at_call 148; (with_reducible refine Calls.mono (KR.out _ (hPT.on hB)) ?_); rintro r w1 ⟨rfl, hb⟩; replace hB := hB.trans (hb.mono hB.size); have hz := hb.size; replace za := C9.carry za hb; have zz := za; obtain ⟨za_x0, za_x1, za_x2, za_x3, za_x4, za_x5, za_x6, za_x7, za_x8, za_xf, za_xl⟩ := zz; replace zd := C3.carry zd hb; have zz := zd; obtain ⟨zd_0, zd_1, zd_2, zd_3, zd_4, zd_5, zd_6⟩ := zz))
    have zs := C3.new w1 (.string ⟨A.toArray⟩) (.string ⟨B.toArray⟩) (.string ⟨T.toArray⟩) 69
    replace za := za.up (.cells #[.string ⟨A.toArray⟩, .string ⟨B.toArray⟩, .string ⟨T.toArray⟩] 69)
    replace zd := zd.up (.cells #[.string ⟨A.toArray⟩, .string ⟨B.toArray⟩, .string ⟨T.toArray⟩] 69)
    replace hB := hB.alloc (by omega) (.cells #[.string ⟨A.toArray⟩, .string ⟨B.toArray⟩, .string ⟨T.toArray⟩] 69)
    clear hz
    obtain ⟨sza0, sza1, sza2, sza3, sza4, sza5, sza6, sza7, sza8⟩ := C9.since za
    obtain ⟨szd0, szd1, szd2⟩ := C3.since zd
    obtain ⟨szs0, szs1, szs2⟩ := C3.since zs
    refine wp_region_since (by kernel_rfl) (by kernel_rfl) ?_
    repeat (quiet_step (first | (go_at_call 149; with_reducible exact Calls.since_of (KZ.out _)) | (go_at_call 142; with_reducible exact Calls.since_of (KG.out _)) | (go_at_call 95; with_reducible exact Calls.since_of (KP.out _))))
    refine wpQuiet_nil ?_
    intro w_ hw_
    obtain ⟨⟨w1, hb⟩, hw2⟩ := hw_
    have hw3 : w1 = w_ := hw2.symm
    clear hw2
    subst hw3
    clear sza0 sza1 sza2 sza3 sza4 sza5 sza6 sza7 sza8 szd0 szd1 szd2 szs0 szs1 szs2
    replace hB := hB.trans (hb.mono hB.size)
    have hz := hb.size
    replace za := C9.carry za hb
    have zz := za
    obtain ⟨za_x0, za_x1, za_x2, za_x3, za_x4, za_x5, za_x6, za_x7, za_x8, za_xf, za_xl⟩ := zz
    replace zd := C3.carry zd hb
    have zz := zd
    obtain ⟨zd_0, zd_1, zd_2, zd_3, zd_4, zd_5, zd_6⟩ := zz
    replace zs := C3.carry zs hb
    have zz := zs
    obtain ⟨zs_0, zs_1, zs_2, zs_3, zs_4, zs_5, zs_6⟩ := zz
    go_wp2_with (first | (go_at_call 150; (with_reducible refine Calls.mono (KU.out _) ?_); rintro r w1 ⟨rfl, hb⟩; replace hB := hB.trans (hb.mono hB.size); have hz := hb.size; replace za := C9.carry za hb; have zz := za; obtain ⟨za_x0, za_x1, za_x2, za_x3, za_x4, za_x5, za_x6, za_x7, za_x8, za_xf, za_xl⟩ := zz; replace zd := C3.carry zd hb; have zz := zd; obtain ⟨zd_0, zd_1, zd_2, zd_3, zd_4, zd_5, zd_6⟩ := zz; replace zs := C3.carry zs hb; have zz := zs; obtain ⟨zs_0, zs_1, zs_2, zs_3, zs_4, zs_5, zs_6⟩ := zz))
    obtain ⟨sza0, sza1, sza2, sza3, sza4, sza5, sza6, sza7, sza8⟩ := C9.since za
    obtain ⟨szd0, szd1, szd2⟩ := C3.since zd
    obtain ⟨szs0, szs1, szs2⟩ := C3.since zs
    refine wp_region_since (by kernel_rfl) (by kernel_rfl) ?_
    repeat (quiet_step (first | (go_at_call 152; with_reducible exact Calls.since_of (KT.out _)) | (go_at_call 130; with_reducible exact Calls.since_of (KM.out _)) | (go_at_call 151; with_reducible exact Calls.since_of (KW.out _))))
    refine wpQuiet_nil ?_
    intro w_ hw_
    obtain ⟨⟨w1, hb⟩, hw2⟩ := hw_
    have hw3 : w1 = w_ := hw2.symm
    clear hw2
    subst hw3
    clear sza0 sza1 sza2 sza3 sza4 sza5 sza6 sza7 sza8 szd0 szd1 szd2 szs0 szs1 szs2
    replace hB := hB.trans (hb.mono hB.size)
    have hz := hb.size
    replace za := C9.carry za hb
    have zz := za
    obtain ⟨za_x0, za_x1, za_x2, za_x3, za_x4, za_x5, za_x6, za_x7, za_x8, za_xf, za_xl⟩ := zz
    replace zd := C3.carry zd hb
    have zz := zd
    obtain ⟨zd_0, zd_1, zd_2, zd_3, zd_4, zd_5, zd_6⟩ := zz
    replace zs := C3.carry zs hb
    have zz := zs
    obtain ⟨zs_0, zs_1, zs_2, zs_3, zs_4, zs_5, zs_6⟩ := zz
    go_wp2
    obtain ⟨sza0, sza1, sza2, sza3, sza4, sza5, sza6, sza7, sza8⟩ := C9.since za
    obtain ⟨szd0, szd1, szd2⟩ := C3.since zd
    obtain ⟨szs0, szs1, szs2⟩ := C3.since zs
    refine wp_region_since (by kernel_rfl) (by kernel_rfl) ?_
    repeat (quiet_step (first | (go_at_call 146; with_reducible exact Calls.since_of (KF.out _)) | (go_at_call 147; with_reducible exact Calls.since_of (KA.out _)) | (go_at_call 144; with_reducible exact Calls.since_of (KX.out _))))
    refine wpQuiet_nil ?_
    intro w_ hw_
    obtain ⟨⟨w1, hb⟩, hw2⟩ := hw_
    have hw3 : w1 = w_ := hw2.symm
    clear hw2
    subst hw3
    clear sza0 sza1 sza2 sza3 sza4 sza5 sza6 sza7 sza8 szd0 szd1 szd2 szs0 szs1 szs2
    replace hB := hB.trans (hb.mono hB.size)
    have hz := hb.size
    replace za := C9.carry za hb
    have zz := za
    obtain ⟨za_x0, za_x1, za_x2, za_x3, za_x4, za_x5, za_x6, za_x7, za_x8, za_xf, za_xl⟩ := zz
    replace zd := C3.carry zd hb
    have zz := zd
    obtain ⟨zd_0, zd_1, zd_2, zd_3, zd_4, zd_5, zd_6⟩ := zz
    replace zs := C3.carry zs hb
    have zz := zs
    obtain ⟨zs_0, zs_1, zs_2, zs_3, zs_4, zs_5, zs_6⟩ := zz
    go_wp2
    go_ret
    exact ⟨rfl, hB⟩
  · rw [Bool.true_and] at kg
    simp only [Bool.true_and] at ku kw kx c1 hwl hsl
    generalize hH : sgnL si (!zb) = H at *
    clear hH
    generalize hE : restL B T alt = E at *
    clear hE
    generalize hZ : zuN fc a wi (H.length + E.length) = Z at *
    clear hZ
    generalize hM : mkL gr = M at *
    clear hM
    generalize hW : widL A Z 3 M = D at *
    clear hW
    have q1 : ¬ (9223372036854775807 < H.length + E.length) := by omega
    have q2 : ¬ (9223372036854775807 < D.length + E.length) := by omega
    have q3 : (H.length : Int) + E.length ≤ 1000 := by omega
    rw [Int.natCast_add] at ku
    have KG := Lib.hid kg; have KU := Lib.hid ku; have KW := Lib.hid kw; have KX := Lib.hid kx
    clear kg ku kw kx
    go_enter Tryz.func87, Tryz.ntmps87
    go_wp2_with (first | (go_at_call 85; (with_reducible refine Calls.mono (KS.out _) ?_); rintro r w1 ⟨rfl, hb⟩; replace hB := hB.trans (hb.mono hB.size); have hz := hb.size; replace za := C9.carry za hb; have zz := za; obtain ⟨za_x0, za_x1, za_x2, za_x3, za_x4, za_x5, za_x6, za_x7, za_x8, za_xf, za_xl⟩ := zz; replace zd := C3.carry zd hb; have zz := zd; obtain ⟨zd_0, zd_1, zd_2, zd_3, zd_4, zd_5, zd_6⟩ := zz) | (go_at_call 43; (with_reducible refine Calls.mono (KD.out _) ?_); rintro r w1 ⟨rfl, hb⟩; replace hB := hB.trans (hb.mono hB.size); have hz := hb.size; replace za := C9.carry za hb; have zz := za; obtain ⟨za_x0, za_x1, za_x2, za_x3, za_x4, za_x5, za_x6, za_x7, za_x8, za_xf, za_xl⟩ := zz; replace zd := C3.carry zd hb; have zz := zd; obtain ⟨zd_0, zd_1, zd_2, zd_3, zd_4, zd_5, zd_6⟩ := zz) | (go_at_call 148; (with_reducible refine Calls.mono (KR.out _ (hPT.on hB)) ?_); rintro r w1 ⟨rfl, hb⟩; replace hB := hB.trans (hb.mono hB.size); have hz := hb.size; replace za := C9.carry za hb; have zz := za; obtain ⟨za_x0, za_x1, za_x2, za_x3, za_x4, za_x5, za_x6, za_x7, za_x8, za_xf, za_xl⟩ := zz; replace zd := C3.carry zd hb; have zz := zd; obtain ⟨zd_0, zd_1, zd_2, zd_3, zd_4, zd_5, zd_6⟩ := zz))
    have zs := C3.new w1 (.string ⟨A.toArray⟩) (.string ⟨B.toArray⟩) (.string ⟨T.toArray⟩) 69
    replace za := za.up (.cells #[.string ⟨A.toArray⟩, .string ⟨B.toArray⟩, .string ⟨T.toArray⟩] 69)
    replace zd := zd.up (.cells #[.string ⟨A.toArray⟩, .string ⟨B.toArray⟩, .string ⟨T.toArray⟩] 69)
    replace hB := hB.alloc (by omega) (.cells #[.string ⟨A.toArray⟩, .string ⟨B.toArray⟩, .string ⟨T.toArray⟩] 69)
    clear hz
    obtain ⟨sza0, sza1, sza2, sza3, sza4, sza5, sza6, sza7, sza8⟩ := C9.since za
    obtain ⟨szd0, szd1, szd2⟩ := C3.since zd
    obtain ⟨szs0, szs1, szs2⟩ := C3.since zs
    refine wp_region_since (by kernel_rfl) (by kernel_rfl) ?_
    repeat (quiet_step (first | (go_at_call 149; with_reducible exact Calls.since_of (KZ.out _)) | (go_at_call 142; with_reducible exact Calls.since_of (KG.out _)) | (go_at_call 95; with_reducible exact Calls.since_of (KP.out _))))
    refine wpQuiet_nil ?_
    intro w_ hw_
    obtain ⟨⟨w1, hb⟩, hw2⟩ := hw_
    have hw3 : w1 = w_ := hw2.symm
    clear hw2
    subst hw3
    clear sza0 sza1 sza2 sza3 sza4 sza5 sza6 sza7 sza8 szd0 szd1 szd2 szs0 szs1 szs2
    replace hB := hB.trans (hb.mono hB.size)
    have hz := hb.size
    replace za := C9.carry za hb
    have zz := za
    obtain ⟨za_x0, za_x1, za_x2, za_x3, za_x4, za_x5, za_x6, za_x7, za_x8, za_xf, za_xl⟩ := zz
    replace zd := C3.carry zd hb
    have zz := zd
    obtain ⟨zd_0, zd_1, zd_2, zd_3, zd_4, zd_5, zd_6⟩ := zz
    replace zs := C3.carry zs hb
    have zz := zs
    obtain ⟨zs_0, zs_1, zs_2, zs_3, zs_4, zs_5, zs_6⟩ := zz
    go_wp2_with (first | (go_at_call 150; (with_reducible refine Calls.mono (KU.out _) ?_); rintro r w1 ⟨rfl, hb⟩; replace hB := hB.trans (hb.mono hB.size); have hz := hb.size; replace za := C9.carry za hb; have zz := za; obtain ⟨za_x0, za_x1, za_x2, za_x3, za_x4, za_x5, za_x6, za_x7, za_x8, za_xf, za_xl⟩ := zz; replace zd := C3.carry zd hb; have zz := zd; obtain ⟨zd_0, zd_1, zd_2, zd_3, zd_4, zd_5, zd_6⟩ := zz; replace zs := C3.carry zs hb; have zz := zs; obtain ⟨zs_0, zs_1, zs_2, zs_3, zs_4, zs_5, zs_6⟩ := zz))
    obtain ⟨sza0, sza1, sza2, sza3, sza4, sza5, sza6, sza7, sza8⟩ := C9.since za
    obtain ⟨szd0, szd1, szd2⟩ := C3.since zd
    obtain ⟨szs0, szs1, szs2⟩ := C3.since zs
    refine wp_region_since (by kernel_rfl) (by kernel_rfl) ?_
    repeat (quiet_step (first | (go_at_call 152; with_reducible exact Calls.since_of (KT.out _)) | (go_at_call 130; with_reducible exact Calls.since_of (KM.out _)) | (go_at_call 151; with_reducible exact Calls.since_of (KW.out _))))
    refine wpQuiet_nil ?_
    intro w_ hw_
    obtain ⟨⟨w1, hb⟩, hw2⟩ := hw_
    have hw3 : w1 = w_ := hw2.symm
    clear hw2
    subst hw3
    clear sza0 sza1 sza2 sza3 sza4 sza5 sza6 sza7 sza8 szd0 szd1 szd2 szs0 szs1 szs2
    replace hB := hB.trans (hb.mono hB.size)
    have hz := hb.size
    replace za := C9.carry za hb
    have zz := za
    obtain ⟨za_x0, za_x1, za_x2, za_x3, za_x4, za_x5, za_x6, za_x7, za_x8, za_xf, za_xl⟩ := zz
    replace zd := C3.carry zd hb
    have zz := zd
    obtain ⟨zd_0, zd_1, zd_2, zd_3, zd_4, zd_5, zd_6⟩ := zz
    replace zs := C3.carry zs hb
    have zz := zs
    obtain ⟨zs_0, zs_1, zs_2, zs_3, zs_4, zs_5, zs_6⟩ := zz
    go_wp2
    obtain ⟨sza0, sza1, sza2, sza3, sza4, sza5, sza6, sza7, sza8⟩ := C9.since za
    obtain ⟨szd0, szd1, szd2⟩ := C3.since zd
    obtain ⟨szs0, szs1, szs2⟩ := C3.since zs
    refine wp_region_since (by kernel_rfl) (by kernel_rfl) ?_
    repeat (quiet_step (first | (go_at_call 146; with_reducible exact Calls.since_of (KF.out _)) | (go_at_call 147; with_reducible exact Calls.since_of (KA.out _)) | (go_at_call 144; with_reducible exact Calls.since_of (KX.out _))))
    refine wpQuiet_nil ?_
    intro w_ hw_
    obtain ⟨⟨w1, hb⟩, hw2⟩ := hw_
    have hw3 : w1 = w_ := hw2.symm
    clear hw2
    subst hw3
    clear sza0 sza1 sza2 sza3 sza4 sza5 sza6 sza7 sza8 szd0 szd1 szd2 szs0 szs1 szs2
    replace hB := hB.trans (hb.mono hB.size)
    have hz := hb.size
    replace za := C9.carry za hb
    have zz := za
    obtain ⟨za_x0, za_x1, za_x2, za_x3, za_x4, za_x5, za_x6, za_x7, za_x8, za_xf, za_xl⟩ := zz
    replace zd := C3.carry zd hb
    have zz := zd
    obtain ⟨zd_0, zd_1, zd_2, zd_3, zd_4, zd_5, zd_6⟩ := zz
    replace zs := C3.carry zs hb
    have zz := zs
    obtain ⟨zs_0, zs_1, zs_2, zs_3, zs_4, zs_5, zs_6⟩ := zz
    go_wp2
    go_ret
    exact ⟨rfl, hB⟩
end Go.Proofs.YtebheehjhnaklaaGreatDoor
