import Derived.Test.YtkpdpohnbnpelaaGreatDoorZ4
namespace Go.Proofs.YtkpdpohnbnpelaaGreatDoor
open Go.RowKit
theorem rune_text {k : Nat} (h : k < 128) (h32 : 32 ≤ k) : Utf8.encode (k : Int) = ⟨#[UInt8.ofNat k]⟩ := by
  have h0 : ((List.range 128).all fun k => decide (k < 32) || (Utf8.encode (k : Int)).data.toList == [UInt8.ofNat k]) = true := by decide +kernel
  have h1 := List.all_eq_true.1 h0 k (List.mem_range.2 h)
  simp only [Bool.or_eq_true, decide_eq_true_eq, beq_iff_eq] at h1
  rcases h1 with h1 | h1
  · omega
  · apply ByteArray.ext
    exact Array.toList_inj.1 h1
/-- what comes ahead of the digits -/
def headL (si : Int) (neg alt : Bool) (t : List UInt8) : List UInt8 := sgnL si neg ++ (if alt then tyPre t else [])
theorem tyPre_len2 {t : List UInt8} (h : TyOk t) : (tyPre t).length ≤ 2 := by rcases h with rfl | rfl | rfl | rfl | rfl | rfl <;> decide
theorem head_len {t : List UInt8} (h : TyOk t) (si : Int) (neg alt : Bool) : (headL si neg alt t).length ≤ 3 := by
  unfold headL
  have := sgn_len si neg
  have := tyPre_len2 h
  rw [List.length_append]
  split <;> simp <;> omega
def wholeL (c : UInt8) (a si : Int) (alt : Bool) (wi : Nat) (gr : Int) (t : List UInt8) (n : Int) : List UInt8 :=
  padL (headL si (decide (n < 0)) alt t) (widL (digs (t == [88]) (tyBase t) n.natAbs) (zuN c a wi (headL si (decide (n < 0)) alt t).length) (tyGrp t) (mkL gr)) wi c a
theorem widL_len {l sep : List UInt8} {wd n : Nat} (hl : l.length ≤ 40) (hw : wd ≤ 30) (hs : sep.length ≤ 1) : (widL l wd n sep).length ≤ 200 := by
  unfold widL
  have hc := @cnt_le n wd
  split
  · simp [zeros]; omega
  · have := grp_length n sep (zeros (max (cnt wd n) l.length - l.length) ++ l) hs
    have hz : ∀ k, (zeros k).length = k := fun k => by simp [zeros]
    rw [List.length_append, hz] at this
    omega
set_option maxRecDepth 100000 in
set_option maxHeartbeats 8000000 in
theorem FormatWhole_num (f : ByteArray) (al si : Int) (alt ze : Bool) (wi : Nat) (gr pr : Int) (t : List UInt8) (n : Int) (c : UInt8) (a : Int) (w : World) (hw : wi ≤ 30) (hT : TyOk t) (hn : -999999999999 ≤ n ∧ n ≤ 999999999999) (hg0 : 0 ≤ gr) (hg2 : gr ≤ 2) (ha : 1 ≤ a ∧ a ≤ 4) (hD : DT w)
    (ks : ∀ W, Calls Tryz.prog 18 #[.agg #[.string f, .int .i64 al, .int .i64 si, .bool alt, .bool ze, .int .i64 wi, .int .i64 gr, .int .i64 pr, .string ⟨t.toArray⟩], .int .i64 0] W fun r w' => r = .returned (.bool true) ∧ Below W.heap.size W w')
    (kf : ∀ W, Calls Tryz.prog 25 #[.agg #[.string f, .int .i64 al, .int .i64 si, .bool alt, .bool ze, .int .i64 wi, .int .i64 gr, .int .i64 pr, .string ⟨t.toArray⟩]] W fun r w' => r = .returned (.string ⟨#[c]⟩) ∧ Below W.heap.size W w')
    (ka : ∀ W, Calls Tryz.prog 26 #[.agg #[.string f, .int .i64 al, .int .i64 si, .bool alt, .bool ze, .int .i64 wi, .int .i64 gr, .int .i64 pr, .string ⟨t.toArray⟩], .int .i64 0] W fun r w' => r = .returned (.int .i64 a) ∧ Below W.heap.size W w') :
    Calls Tryz.prog 10 #[.agg #[.string f, .int .i64 al, .int .i64 si, .bool alt, .bool ze, .int .i64 wi, .int .i64 gr, .int .i64 pr, .string ⟨t.toArray⟩], .int .i64 n] w fun r w' => r = .returned (.string ⟨(wholeL c a si alt wi gr t n).toArray⟩) ∧ Below w.heap.size w w' := by
  have k1 := fun W => mBn (within_any n (-999999999999) 999999999999 W)
  rw [show inr n (-999999999999) 999999999999 = true by simp [inr]; omega] at k1
  have ht1 : (t == [99]) = false := by rcases hT with rfl | rfl | rfl | rfl | rfl | rfl <;> decide
  have ht2 : ¬ t = [99] := by rcases hT with rfl | rfl | rfl | rfl | rfl | rfl <;> decide
  have kp := fun W => mBn (prefixOf_ok t hT W)
  have hpl := tyPre_len2 hT
  have hsl := sgn_len si (decide (n < 0))
  have kg := fun W => mBn (signFor_any si (decide (n < 0)) W)
  have hhl := head_len hT si (decide (n < 0)) alt
  have kd := fun W (h : DT W) => digitsOf_any f al si alt ze wi gr pr t n (headL si (decide (n < 0)) alt t).length c a W hw hT hn hg0 hg2 h kf ka (by omega)
  have hwl : (widL (digs (t == [88]) (tyBase t) n.natAbs) (zuN c a wi (headL si (decide (n < 0)) alt t).length) (tyGrp t) (mkL gr)).length ≤ 200 := widL_len (digs_40 hT.base.1 (by omega)) (by have := @zu_le c a wi (headL si (decide (n < 0)) alt t).length; omega) (mkL_len gr)
  have kl := fun W => filled_any (headL si (decide (n < 0)) alt t) (widL (digs (t == [88]) (tyBase t) n.natAbs) (zuN c a wi (headL si (decide (n < 0)) alt t).length) (tyGrp t) (mkL gr)) wi c a W (by omega) (by omega) hw ha
  unfold wholeL
  generalize padL (headL si (decide (n < 0)) alt t) (widL (digs (t == [88]) (tyBase t) n.natAbs) (zuN c a wi (headL si (decide (n < 0)) alt t).length) (tyGrp t) (mkL gr)) wi c a = R at *
  generalize widL (digs (t == [88]) (tyBase t) n.natAbs) (zuN c a wi (headL si (decide (n < 0)) alt t).length) (tyGrp t) (mkL gr) = Bd at *
  unfold headL at kd kl hhl
  cases alt
  · rw [if_neg (by decide), List.append_nil] at kd kl hhl
    generalize sgnL si (decide (n < 0)) = H at *
    have KS := Lib.hid ks; have K1 := Lib.hid k1; have KF := Lib.hid kf; have KA := Lib.hid ka; have KP := Lib.hid kp; have KG := Lib.hid kg; have KD := Lib.hid kd; have KL := Lib.hid kl
    clear ks k1 kf ka kp kg kd kl hT
    have za := C9.new w (.string f) (.int .i64 al) (.int .i64 si) (.bool false) (.bool ze) (.int .i64 wi) (.int .i64 gr) (.int .i64 pr) (.string ⟨t.toArray⟩) 26
    have hB : Below w.heap.size w (w.alloc (.cells #[.string f, .int .i64 al, .int .i64 si, .bool false, .bool ze, .int .i64 wi, .int .i64 gr, .int .i64 pr, .string ⟨t.toArray⟩] 26)) := (Below.refl _ _).alloc (Nat.le_refl _) _
    have zz := za
    obtain ⟨x0, x1, x2, x3, x4, x5, x6, x7, x8, x9, xl⟩ := zz
    go_enter Tryz.func10, Tryz.ntmps10
    go_wp2_with (first | (go_at_call 18; (with_reducible refine Calls.mono (KS.out _) ?_); rintro r w1 ⟨rfl, hb⟩; replace hB := hB.trans (hb.mono hB.size); replace za := za.carry hb; have zz := za; obtain ⟨x0, x1, x2, x3, x4, x5, x6, x7, x8, x9, xl⟩ := zz) | (go_at_call 19; (with_reducible refine Calls.mono (K1.out _) ?_); rintro r w1 ⟨rfl, hb⟩; replace hB := hB.trans (hb.mono hB.size); replace za := za.carry hb; have zz := za; obtain ⟨x0, x1, x2, x3, x4, x5, x6, x7, x8, x9, xl⟩ := zz) | (go_at_call 21; (with_reducible refine Calls.mono (KG.out _) ?_); rintro r w1 ⟨rfl, hb⟩; replace hB := hB.trans (hb.mono hB.size); replace za := za.carry hb; have zz := za; obtain ⟨x0, x1, x2, x3, x4, x5, x6, x7, x8, x9, xl⟩ := zz) | (go_at_call 22; (with_reducible refine Calls.mono (KP.out _) ?_); rintro r w1 ⟨rfl, hb⟩; replace hB := hB.trans (hb.mono hB.size); replace za := za.carry hb; have zz := za; obtain ⟨x0, x1, x2, x3, x4, x5, x6, x7, x8, x9, xl⟩ := zz))
    have hDx := hD.on hB
    obtain ⟨sza0, sza1, sza2, sza3, sza4, sza5, sza6, sza7, sza8⟩ := C9.since za
    refine wp_region_since (by kernel_rfl) (by kernel_rfl) ?_
    repeat (quiet_step (first | (go_at_call 24; with_reducible exact Calls.since_of (KD.out _ (hDx.on (Since.h _)))) | (go_at_call 25; with_reducible exact Calls.since_of (KF.out _)) | (go_at_call 26; with_reducible exact Calls.since_of (KA.out _)) | (go_at_call 23; with_reducible exact Calls.since_of (KL.out _))))
    refine wpQuiet_nil ?_
    intro w_ hw_
    obtain ⟨⟨w1, hb⟩, hw2⟩ := hw_
    have hw3 : w1 = w_ := hw2.symm
    clear hw2
    subst hw3
    clear sza0 sza1 sza2 sza3 sza4 sza5 sza6 sza7 sza8
    replace hB := hB.trans (hb.mono hB.size)
    have hz := hb.size
    replace za := C9.carry za hb
    have zz := za
    obtain ⟨x0, x1, x2, x3, x4, x5, x6, x7, x8, x9, xl⟩ := zz
    go_wp2
    all_goals go_ret
    all_goals exact ⟨rfl, hB⟩
  · rw [if_pos rfl] at kd kl hhl
    generalize sgnL si (decide (n < 0)) = H at *
    generalize tyPre t = P at *
    have c1 := cat_l H P
    simp only [List.length_append, Int.natCast_add] at kd
    have hq : ¬ (9223372036854775807 < H.length + P.length) := by omega
    have KS := Lib.hid ks; have K1 := Lib.hid k1; have KF := Lib.hid kf; have KA := Lib.hid ka; have KP := Lib.hid kp; have KG := Lib.hid kg; have KD := Lib.hid kd; have KL := Lib.hid kl
    clear ks k1 kf ka kp kg kd kl hT
    have za := C9.new w (.string f) (.int .i64 al) (.int .i64 si) (.bool true) (.bool ze) (.int .i64 wi) (.int .i64 gr) (.int .i64 pr) (.string ⟨t.toArray⟩) 26
    have hB : Below w.heap.size w (w.alloc (.cells #[.string f, .int .i64 al, .int .i64 si, .bool true, .bool ze, .int .i64 wi, .int .i64 gr, .int .i64 pr, .string ⟨t.toArray⟩] 26)) := (Below.refl _ _).alloc (Nat.le_refl _) _
    have zz := za
    obtain ⟨x0, x1, x2, x3, x4, x5, x6, x7, x8, x9, xl⟩ := zz
    go_enter Tryz.func10, Tryz.ntmps10
    go_wp2_with (first | (go_at_call 18; (with_reducible refine Calls.mono (KS.out _) ?_); rintro r w1 ⟨rfl, hb⟩; replace hB := hB.trans (hb.mono hB.size); replace za := za.carry hb; have zz := za; obtain ⟨x0, x1, x2, x3, x4, x5, x6, x7, x8, x9, xl⟩ := zz) | (go_at_call 19; (with_reducible refine Calls.mono (K1.out _) ?_); rintro r w1 ⟨rfl, hb⟩; replace hB := hB.trans (hb.mono hB.size); replace za := za.carry hb; have zz := za; obtain ⟨x0, x1, x2, x3, x4, x5, x6, x7, x8, x9, xl⟩ := zz) | (go_at_call 21; (with_reducible refine Calls.mono (KG.out _) ?_); rintro r w1 ⟨rfl, hb⟩; replace hB := hB.trans (hb.mono hB.size); replace za := za.carry hb; have zz := za; obtain ⟨x0, x1, x2, x3, x4, x5, x6, x7, x8, x9, xl⟩ := zz) | (go_at_call 22; (with_reducible refine Calls.mono (KP.out _) ?_); rintro r w1 ⟨rfl, hb⟩; replace hB := hB.trans (hb.mono hB.size); replace za := za.carry hb; have zz := za; obtain ⟨x0, x1, x2, x3, x4, x5, x6, x7, x8, x9, xl⟩ := zz))
    have hDx := hD.on hB
    obtain ⟨sza0, sza1, sza2, sza3, sza4, sza5, sza6, sza7, sza8⟩ := C9.since za
    refine wp_region_since (by kernel_rfl) (by kernel_rfl) ?_
    repeat (quiet_step (first | (go_at_call 24; with_reducible exact Calls.since_of (KD.out _ (hDx.on (Since.h _)))) | (go_at_call 25; with_reducible exact Calls.since_of (KF.out _)) | (go_at_call 26; with_reducible exact Calls.since_of (KA.out _)) | (go_at_call 23; with_reducible exact Calls.since_of (KL.out _))))
    refine wpQuiet_nil ?_
    intro w_ hw_
    obtain ⟨⟨w1, hb⟩, hw2⟩ := hw_
    have hw3 : w1 = w_ := hw2.symm
    clear hw2
    subst hw3
    clear sza0 sza1 sza2 sza3 sza4 sza5 sza6 sza7 sza8
    replace hB := hB.trans (hb.mono hB.size)
    have hz := hb.size
    replace za := C9.carry za hb
    have zz := za
    obtain ⟨x0, x1, x2, x3, x4, x5, x6, x7, x8, x9, xl⟩ := zz
    go_wp2
    all_goals go_ret
    all_goals exact ⟨rfl, hB⟩
end Go.Proofs.YtkpdpohnbnpelaaGreatDoor
