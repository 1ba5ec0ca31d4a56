import Derived.Test.YtkpdpohnbnpelaaGreatDoorZ6
namespace Go.Proofs.YtkpdpohnbnpelaaGreatDoor
open Go.RowKit
theorem i32_in {x : Int} (h0 : 0 ≤ x) (h1 : x < 2147483648) : IntKind.i32.wrap x = x := by rw [IntKind.wrap_i32]; omega
def byteL (c : UInt8) (a : Int) (wi : Nat) (n : Int) : List UInt8 := if 32 ≤ n ∧ n ≤ 126 then padL [] [UInt8.ofNat n.toNat] wi c a else []
set_option maxRecDepth 100000 in
set_option maxHeartbeats 8000000 in
theorem byteText_any (f : ByteArray) (al si : Int) (alt ze : Bool) (wi : Nat) (gr pr : Int) (t : List UInt8) (n : Int) (c : UInt8) (a : Int) (w : World) (hw : wi ≤ 30) (ha : 1 ≤ a ∧ a ≤ 4)
    (kf : ∀ W, Calls Tryz.prog 25 #[.agg #[.string f, .int .i64 al, .int .i64 si, .bool alt, .bool ze, .int .i64 wi, .int .i64 gr, .int .i64 pr, .string ⟨t.toArray⟩]] W fun r w' => r = .returned (.string ⟨#[c]⟩) ∧ Below W.heap.size W w')
    (ka : ∀ W, Calls Tryz.prog 26 #[.agg #[.string f, .int .i64 al, .int .i64 si, .bool alt, .bool ze, .int .i64 wi, .int .i64 gr, .int .i64 pr, .string ⟨t.toArray⟩], .int .i64 0] W fun r w' => r = .returned (.int .i64 a) ∧ Below W.heap.size W w') :
    Calls Tryz.prog 20 #[.agg #[.string f, .int .i64 al, .int .i64 si, .bool alt, .bool ze, .int .i64 wi, .int .i64 gr, .int .i64 pr, .string ⟨t.toArray⟩], .int .i64 n] w fun r w' => r = .returned (.string ⟨(byteL c a wi n).toArray⟩) ∧ Below w.heap.size w w' := by
  have k1 := fun W => mBn (within_any n 32 126 W)
  by_cases h : 32 ≤ n ∧ n ≤ 126
  · rw [show byteL c a wi n = padL [] [UInt8.ofNat n.toNat] wi c a from if_pos h]
    rw [show inr n 32 126 = true by simp [inr]; omega] at k1
    obtain ⟨m, rfl⟩ := Int.eq_ofNat_of_zero_le (show 0 ≤ n by omega)
    have kl := fun W => filled_any [] [UInt8.ofNat m] wi c a W (by simp) (by simp) hw ha
    rw [show ((m : Int)).toNat = m from rfl]
    have e1 := rune_text (k := m) (by omega) (by omega)
    have e2 : IntKind.i32.wrap (m : Int) = m := i32_in (by omega) (by omega)
    generalize padL [] [UInt8.ofNat m] wi c a = R at *
    have KF := Lib.hid kf; have KA := Lib.hid ka; have K1 := Lib.hid k1; have KL := Lib.hid kl
    clear kf ka k1 kl
    have za := C9.new w (.string f) (.int .i64 al) (.int .i64 si) (.bool alt) (.bool ze) (.int .i64 wi) (.int .i64 gr) (.int .i64 pr) (.string ⟨t.toArray⟩) 26
    have hB : Below w.heap.size w (w.alloc (.cells #[.string f, .int .i64 al, .int .i64 si, .bool alt, .bool ze, .int .i64 wi, .int .i64 gr, .int .i64 pr, .string ⟨t.toArray⟩] 26)) := (Below.refl _ _).alloc (Nat.le_refl _) _
    have zz := za
    obtain ⟨x0, x1, x2, x3, x4, x5, x6, x7, x8, x9, xl⟩ := zz
    go_enter Tryz.func20, Tryz.ntmps20
    go_wp2_with (go_at_call 19; (with_reducible refine Calls.mono (K1.out _) ?_); rintro r w1 ⟨rfl, hb⟩; replace hB := hB.trans (hb.mono hB.size); replace za := za.carry hb; have zz := za; obtain ⟨x0, x1, x2, x3, x4, x5, x6, x7, x8, x9, xl⟩ := zz)
    obtain ⟨sza0, sza1, sza2, sza3, sza4, sza5, sza6, sza7, sza8⟩ := C9.since za
    refine wp_region_since (by kernel_rfl) (by kernel_rfl) ?_
    repeat (quiet_step (first | (go_at_call 25; with_reducible exact Calls.since_of (KF.out _)) | (go_at_call 26; with_reducible exact Calls.since_of (KA.out _)) | (go_at_call 23; with_reducible exact Calls.since_of (KL.out _))))
    refine wpQuiet_nil ?_
    intro w_ hw_
    obtain ⟨⟨w1, hb⟩, hw2⟩ := hw_
    have hw3 : w1 = w_ := hw2.symm
    clear hw2
    subst hw3
    clear sza0 sza1 sza2 sza3 sza4 sza5 sza6 sza7 sza8
    replace hB := hB.trans (hb.mono hB.size)
    have hz := hb.size
    replace za := C9.carry za hb
    have zz := za
    obtain ⟨x0, x1, x2, x3, x4, x5, x6, x7, x8, x9, xl⟩ := zz
    go_wp2
    all_goals go_ret
    all_goals exact ⟨rfl, hB⟩
  · rw [show byteL c a wi n = [] from if_neg h]
    rw [show inr n 32 126 = false by simp [inr]; omega] at k1
    have K1 := Lib.hid k1
    clear kf ka k1
    have za := C9.new w (.string f) (.int .i64 al) (.int .i64 si) (.bool alt) (.bool ze) (.int .i64 wi) (.int .i64 gr) (.int .i64 pr) (.string ⟨t.toArray⟩) 26
    have hB : Below w.heap.size w (w.alloc (.cells #[.string f, .int .i64 al, .int .i64 si, .bool alt, .bool ze, .int .i64 wi, .int .i64 gr, .int .i64 pr, .string ⟨t.toArray⟩] 26)) := (Below.refl _ _).alloc (Nat.le_refl _) _
    have zz := za
    obtain ⟨x0, x1, x2, x3, x4, x5, x6, x7, x8, x9, xl⟩ := zz
    go_enter Tryz.func20, Tryz.ntmps20
    go_wp2_with (first | (go_at_call 19; (with_reducible refine Calls.mono (K1.out _) ?_); rintro r w1 ⟨rfl, hb⟩; replace hB := hB.trans (hb.mono hB.size); replace za := za.carry hb; have zz := za; obtain ⟨x0, x1, x2, x3, x4, x5, x6, x7, x8, x9, xl⟩ := zz))
    all_goals go_ret
    all_goals exact ⟨rfl, hB⟩
def fwX (ok : Bool) (c : UInt8) (a si : Int) (alt : Bool) (wi : Nat) (gr : Int) (t : List UInt8) (n : Int) : List UInt8 :=
  if ok && inr n (-999999999999) 999999999999 then (if t = [99] then byteL c a wi n else wholeL c a si alt wi gr t n) else []
theorem kind_zero {b : UInt8} (h : (kindB b == 0) = true) : b = 100 ∨ b = 98 ∨ b = 111 ∨ b = 120 ∨ b = 88 ∨ b = 99 := by
  have := all_bytes (fun b => !(kindB b == 0) || (b == 100 || (b == 98 || (b == 111 || (b == 120 || (b == 88 || b == 99)))))) (by kernel_rfl) b
  simp only [h, Bool.not_true, Bool.false_or, Bool.or_eq_true, beq_iff_eq] at this
  exact this
theorem tyOk_of {al si : Int} {alt ze : Bool} {gr pr : Int} {t : ByteArray} (h : suitT al si alt ze gr pr t 0 = true) (hc : ¬ t.data.toList = [99]) : TyOk t.data.toList := by
  unfold suitT at h
  split at h
  · rename_i e; rw [e]; exact .inl rfl
  · rename_i b e
    rw [e] at hc ⊢
    simp only [Bool.and_eq_true] at h
    rcases kind_zero h.1 with rfl | rfl | rfl | rfl | rfl | rfl
    · exact .inr (.inl rfl)
    · exact .inr (.inr (.inl rfl))
    · exact .inr (.inr (.inr (.inl rfl)))
    · exact .inr (.inr (.inr (.inr (.inl rfl))))
    · exact .inr (.inr (.inr (.inr (.inr rfl))))
    · exact absurd rfl hc
  · cases h
set_option maxRecDepth 100000 in
set_option maxHeartbeats 8000000 in
theorem FormatWhole_ok (f : ByteArray) (al si : Int) (alt ze : Bool) (wi : Nat) (gr pr : Int) (t : List UInt8) (n : Int) (w : World) (hD : DT w) (V : VS f al si wi gr pr ⟨t.toArray⟩) (hv : vSp f al si wi gr pr ⟨t.toArray⟩ = true) (hs : suitT al si alt ze gr pr ⟨t.toArray⟩ 0 = true) (hn : -999999999999 ≤ n ∧ n ≤ 999999999999) :
    Calls Tryz.prog 10 #[.agg #[.string f, .int .i64 al, .int .i64 si, .bool alt, .bool ze, .int .i64 wi, .int .i64 gr, .int .i64 pr, .string ⟨t.toArray⟩], .int .i64 n] w fun r w' => r = .returned (.string ⟨(if t = [99] then byteL (fcB f ze) (alW al ze 0) wi n else wholeL (fcB f ze) (alW al ze 0) si alt wi gr t n).toArray⟩) ∧ Below w.heap.size w w' := by
  have ks := fun W => SpecSuits_any f al si alt ze wi gr pr ⟨t.toArray⟩ 0 W
  have kf := fun W => FillFor_any f al si alt ze wi gr pr ⟨t.toArray⟩ W
  have ka := fun W => AlignFor_any f al si alt ze wi gr pr ⟨t.toArray⟩ 0 W
  rw [hv] at ks kf ka
  rw [fill_one V.fill] at kf
  have hsu : suitW true al si alt ze gr pr ⟨t.toArray⟩ 0 = true := by unfold suitW; rw [hs]; rfl
  rw [hsu] at ks ka
  rw [show alF true al ze 0 = alW al ze 0 from rfl] at ka
  have ha := alW_in ze V.al0 V.al4
  have hw : wi ≤ 30 := by have := V.wi30; omega
  by_cases hc : t = [99]
  · rw [if_pos hc]
    subst hc
    have kb := fun W => byteText_any f al si alt ze wi gr pr [99] n (fcB f ze) (alW al ze 0) W hw ha kf ka
    have k1 := fun W => mBn (within_any n (-999999999999) 999999999999 W)
    rw [show inr n (-999999999999) 999999999999 = true by simp [inr]; omega] at k1
    generalize byteL (fcB f ze) (alW al ze 0) wi n = R at *
    have KS := Lib.hid ks; have K1 := Lib.hid k1; have KB := Lib.hid kb
    clear ks kf ka k1 kb V hv hs hsu hD
    have za := C9.new w (.string f) (.int .i64 al) (.int .i64 si) (.bool alt) (.bool ze) (.int .i64 wi) (.int .i64 gr) (.int .i64 pr) (.string ⟨[99].toArray⟩) 26
    have hB : Below w.heap.size w (w.alloc (.cells #[.string f, .int .i64 al, .int .i64 si, .bool alt, .bool ze, .int .i64 wi, .int .i64 gr, .int .i64 pr, .string ⟨[99].toArray⟩] 26)) := (Below.refl _ _).alloc (Nat.le_refl _) _
    have zz := za
    obtain ⟨x0, x1, x2, x3, x4, x5, x6, x7, x8, x9, xl⟩ := zz
    go_enter Tryz.func10, Tryz.ntmps10
    go_wp2_with (first | (go_at_call 18; (with_reducible refine Calls.mono (KS.out _) ?_); rintro r w1 ⟨rfl, hb⟩; replace hB := hB.trans (hb.mono hB.size); replace za := za.carry hb; have zz := za; obtain ⟨x0, x1, x2, x3, x4, x5, x6, x7, x8, x9, xl⟩ := zz) | (go_at_call 19; (with_reducible refine Calls.mono (K1.out _) ?_); rintro r w1 ⟨rfl, hb⟩; replace hB := hB.trans (hb.mono hB.size); replace za := za.carry hb; have zz := za; obtain ⟨x0, x1, x2, x3, x4, x5, x6, x7, x8, x9, xl⟩ := zz) | (go_at_call 20; (with_reducible refine Calls.mono (KB.out _) ?_); rintro r w1 ⟨rfl, hb⟩; replace hB := hB.trans (hb.mono hB.size); replace za := za.carry hb; have zz := za; obtain ⟨x0, x1, x2, x3, x4, x5, x6, x7, x8, x9, xl⟩ := zz))
    all_goals go_ret
    all_goals exact ⟨rfl, hB⟩
  · rw [if_neg hc]
    exact FormatWhole_num f al si alt ze wi gr pr t n (fcB f ze) (alW al ze 0) w hw (tyOk_of hs hc) hn V.gr0 V.gr2 ha hD ks kf ka
end Go.Proofs.YtkpdpohnbnpelaaGreatDoor
