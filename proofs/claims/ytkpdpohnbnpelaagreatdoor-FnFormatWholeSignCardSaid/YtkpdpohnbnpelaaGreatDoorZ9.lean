import Derived.Test.YtkpdpohnbnpelaaGreatDoorZ8
import Derived.Test.YtkpdpohnbnpelaaGreatDoorRCS
namespace Go.Proofs.YtkpdpohnbnpelaaGreatDoor
open Go.RowKit
set_option maxRecDepth 100000 in
set_option maxHeartbeats 8000000 in
theorem FormatWholeS_any (f : ByteArray) (al si : Int) (alt ze : Bool) (wi gr pr : Int) (t : ByteArray) (n : Int) (w : World) :
    Calls Tryz.prog 8 #[.agg #[.string f, .int .i64 al, .int .i64 si, .bool alt, .bool ze, .int .i64 wi, .int .i64 gr, .int .i64 pr, .string t], .int .i64 n] w fun r w' => r = .returned (.string ⟨(fwR (fwOk (vSp f al si wi gr pr t) al si alt ze gr pr t n) f al si alt ze wi gr t.data.toList n).toArray⟩) ∧ Below w.heap.size w w' := by
  have e := of_list t
  generalize t.data.toList = T at *
  subst e
  have kg := fun W => goodWholeS_any f al si alt ze wi gr pr T n W
  cases hg : gwB (vSp f al si wi gr pr ⟨T.toArray⟩) (suitT al si alt ze gr pr ⟨T.toArray⟩ 0) T n
  · have hR : fwR (fwOk (vSp f al si wi gr pr ⟨T.toArray⟩) al si alt ze gr pr ⟨T.toArray⟩ n) f al si alt ze wi gr T n = [] := by
      unfold fwR
      split
      · rename_i hok
        unfold fwOk suitW at hok
        simp only [Bool.and_eq_true] at hok
        unfold gwB at hg
        rw [hok.1.1, hok.1.2, hok.2] at hg
        simp only [Bool.true_and, Bool.or_eq_false_iff, Bool.not_eq_false'] at hg
        unfold fwL
        rw [if_pos (by simpa using hg.1)]
        unfold byteL
        rw [if_neg]
        intro hh
        have : inr n 32 126 = true := by simp [inr]; omega
        rw [hg.2] at this
        cases this
      · rfl
    rw [hR]
    rw [hg] at kg
    clear hR
    show Calls Tryz.prog 8 _ w fun r w' => r = .returned (.string ⟨#[]⟩) ∧ _
    have KG := Lib.hid kg
    clear kg hg
    have za := C9.new w (.string f) (.int .i64 al) (.int .i64 si) (.bool alt) (.bool ze) (.int .i64 wi) (.int .i64 gr) (.int .i64 pr) (.string ⟨T.toArray⟩) 26
    have hB : Below w.heap.size w (w.alloc (.cells #[.string f, .int .i64 al, .int .i64 si, .bool alt, .bool ze, .int .i64 wi, .int .i64 gr, .int .i64 pr, .string ⟨T.toArray⟩] 26)) := (Below.refl _ _).alloc (Nat.le_refl _) _
    have zz := za
    obtain ⟨x0, x1, x2, x3, x4, x5, x6, x7, x8, x9, xl⟩ := zz
    go_enter Tryz.func8, Tryz.ntmps8
    go_wp2_with (first | (go_at_call 16; (with_reducible refine Calls.mono (KG.out _) ?_); rintro r w1 ⟨rfl, hb⟩; replace hB := hB.trans (hb.mono hB.size); replace za := za.carry hb; have zz := za; obtain ⟨x0, x1, x2, x3, x4, x5, x6, x7, x8, x9, xl⟩ := zz))
    all_goals go_ret
    all_goals exact ⟨rfl, hB⟩
  · have hg' := hg
    unfold gwB at hg'
    simp only [Bool.and_eq_true] at hg'
    obtain ⟨hv, hs, hn, hb⟩ := hg'
    have V := vSp_open hv
    have hok : fwOk (vSp f al si wi gr pr ⟨T.toArray⟩) al si alt ze gr pr ⟨T.toArray⟩ n = true := by
      unfold fwOk suitW
      rw [hv, hs, hn]
      rfl
    rw [hok, show fwR true f al si alt ze wi gr T n = fwL f al si alt ze wi gr T n from rfl]
    rw [hg] at kg
    simp only [inr, Bool.and_eq_true, decide_eq_true_eq] at hn
    have hwi := V.wi30
    obtain ⟨m, rfl⟩ := Int.eq_ofNat_of_zero_le V.wi0
    unfold fwL
    rw [show (((m : Nat) : Int)).toNat = m from rfl]
    have kf : ∀ W, Calls Tryz.prog 17 #[.agg #[.string f, .int .i64 al, .int .i64 si, .bool alt, .bool ze, .int .i64 m, .int .i64 gr, .int .i64 pr, .string ⟨T.toArray⟩], .int .i64 n] W fun r w' => r = .returned (.string ⟨(if T = [99] then byteL (fcB f ze) (alW al ze 0) m n else wholeL (fcB f ze) (alW al ze 0) si alt m gr T n).toArray⟩) ∧ Below W.heap.size W w' := by
      intro W
      by_cases hc : T = [99]
      · subst hc
        rw [if_pos rfl]
        have h1 : inr n 32 126 = true := by simpa using hb
        simp only [inr, Bool.and_eq_true, decide_eq_true_eq] at h1
        exact formatWholeS_byte f al si alt ze m gr pr n W (by omega) V.al0 V.al4 V.fill h1
      · rw [if_neg hc]
        exact formatWholeS_num f al si alt ze m gr pr T n W (by omega) V.al0 V.al4 V.gr0 V.gr2 V.fill (tyOk_of hs hc) hn
    generalize (if T = [99] then byteL (fcB f ze) (alW al ze 0) m n else wholeL (fcB f ze) (alW al ze 0) si alt m gr T n) = R at *
    have KG := Lib.hid kg; have KF := Lib.hid kf
    clear kg kf hg hok V hv hs hb
    have za := C9.new w (.string f) (.int .i64 al) (.int .i64 si) (.bool alt) (.bool ze) (.int .i64 m) (.int .i64 gr) (.int .i64 pr) (.string ⟨T.toArray⟩) 26
    have hB : Below w.heap.size w (w.alloc (.cells #[.string f, .int .i64 al, .int .i64 si, .bool alt, .bool ze, .int .i64 m, .int .i64 gr, .int .i64 pr, .string ⟨T.toArray⟩] 26)) := (Below.refl _ _).alloc (Nat.le_refl _) _
    have zz := za
    obtain ⟨x0, x1, x2, x3, x4, x5, x6, x7, x8, x9, xl⟩ := zz
    go_enter Tryz.func8, Tryz.ntmps8
    go_wp2_with (first | (go_at_call 16; (with_reducible refine Calls.mono (KG.out _) ?_); rintro r w1 ⟨rfl, hb⟩; replace hB := hB.trans (hb.mono hB.size); replace za := za.carry hb; have zz := za; obtain ⟨x0, x1, x2, x3, x4, x5, x6, x7, x8, x9, xl⟩ := zz) | (go_at_call 17; (with_reducible refine Calls.mono (KF.out _) ?_); rintro r w1 ⟨rfl, hb⟩; replace hB := hB.trans (hb.mono hB.size); replace za := za.carry hb; have zz := za; obtain ⟨x0, x1, x2, x3, x4, x5, x6, x7, x8, x9, xl⟩ := zz))
    all_goals go_ret
    all_goals exact ⟨rfl, hB⟩

set_option maxRecDepth 100000 in
set_option maxHeartbeats 8000000 in
theorem FnExactFormatWhole_law (f : ByteArray) (al si : Int) (alt ze : Bool) (wi gr pr : Int) (t : ByteArray) (n : Int) (w : World) (hf : f.size ≤ 9223372036854775807) (ht : t.size ≤ 9223372036854775807) (hD : DT w) :
    Calls Tryz.prog 3 #[.agg #[.string f, .int .i64 al, .int .i64 si, .bool alt, .bool ze, .int .i64 wi, .int .i64 gr, .int .i64 pr, .string t], .int .i64 n] w fun r w' => r = .returned (.bool true) ∧ Below w.heap.size w w' := by
  have k1 := fun W (h : DT W) => FormatWhole_any f al si alt ze wi gr pr t n W h
  have k2 := fun W => FormatWholeS_any f al si alt ze wi gr pr t n W
  generalize fwR (fwOk (vSp f al si wi gr pr t) al si alt ze gr pr t n) f al si alt ze wi gr t.data.toList n = X at *
  have hXX : ∀ l : List UInt8, (l != l) = false := fun l => by simp
  have hXY : ∀ l : List UInt8, (l == l) = true := fun l => by simp
  have K1 := Lib.hid k1; have K2 := Lib.hid k2
  clear k1 k2
  have za := C9.new w (.string f) (.int .i64 al) (.int .i64 si) (.bool alt) (.bool ze) (.int .i64 wi) (.int .i64 gr) (.int .i64 pr) (.string t) 23
  have hB : Below w.heap.size w (w.alloc (.cells #[.string f, .int .i64 al, .int .i64 si, .bool alt, .bool ze, .int .i64 wi, .int .i64 gr, .int .i64 pr, .string t] 23)) := (Below.refl _ _).alloc (Nat.le_refl _) _
  have zz := za
  obtain ⟨x0, x1, x2, x3, x4, x5, x6, x7, x8, x9, xl⟩ := zz
  go_enter Tryz.func3, Tryz.ntmps3
  go_wp2_with (first | (go_at_call 7; (with_reducible refine Calls.mono (szSpec_any _ _ _ _ _ _ _ _ _ _ hf ht) ?_); rintro r w1 ⟨⟨z, rfl⟩, hb⟩; replace hB := hB.trans (hb.mono hB.size); replace za := za.carry hb; have zz := za; obtain ⟨x0, x1, x2, x3, x4, x5, x6, x7, x8, x9, xl⟩ := zz) | (go_at_call 9; (with_reducible refine Calls.mono (toSpec_any _ _ _ _ _ _ _ _ _ _) ?_); rintro r w1 ⟨rfl, hb⟩; replace hB := hB.trans (hb.mono hB.size); replace za := za.carry hb; have zz := za; obtain ⟨x0, x1, x2, x3, x4, x5, x6, x7, x8, x9, xl⟩ := zz) | (go_at_call 8; (with_reducible refine Calls.mono (K2.out _) ?_); rintro r w1 ⟨rfl, hb⟩; replace hB := hB.trans (hb.mono hB.size); replace za := za.carry hb; have zz := za; obtain ⟨x0, x1, x2, x3, x4, x5, x6, x7, x8, x9, xl⟩ := zz) | (go_at_call 10; (with_reducible refine Calls.mono (K1.out _ (hD.on hB)) ?_); rintro r w1 ⟨rfl, hb⟩; replace hB := hB.trans (hb.mono hB.size); replace za := za.carry hb; have zz := za; obtain ⟨x0, x1, x2, x3, x4, x5, x6, x7, x8, x9, xl⟩ := zz))
  all_goals go_ret
  all_goals exact ⟨rfl, hB⟩
end Go.Proofs.YtkpdpohnbnpelaaGreatDoor
