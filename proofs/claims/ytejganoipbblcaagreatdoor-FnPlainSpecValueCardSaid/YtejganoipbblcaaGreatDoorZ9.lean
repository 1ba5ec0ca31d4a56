import Derived.Test.YtejganoipbblcaaGreatDoorZ6
namespace Go.Proofs.YtejganoipbblcaaGreatDoor
open Go.RowKit
theorem i32_in {x : Int} (h0 : 0 ≤ x) (h1 : x < 2147483648) : IntKind.i32.wrap x = x := by rw [IntKind.wrap_i32]; omega
def byteL (c : UInt8) (a : Int) (wi : Nat) (n : Int) : List UInt8 := if 32 ≤ n ∧ n ≤ 126 then padL [] [UInt8.ofNat n.toNat] wi c a else []
set_option maxRecDepth 100000 in
set_option maxHeartbeats 8000000 in
theorem byteText_any (f : ByteArray) (al si : Int) (alt ze : Bool) (wi : Nat) (gr pr : Int) (t : List UInt8) (n : Int) (c : UInt8) (a : Int) (w : World) (hw : wi ≤ 30) (ha : 1 ≤ a ∧ a ≤ 4)
    (kf : ∀ W, Calls Tryz.prog 39 #[.agg #[.string f, .int .i64 al, .int .i64 si, .bool alt, .bool ze, .int .i64 wi, .int .i64 gr, .int .i64 pr, .string ⟨t.toArray⟩]] W fun r w' => r = .returned (.string ⟨#[c]⟩) ∧ Below W.heap.size W w')
    (ka : ∀ W, Calls Tryz.prog 40 #[.agg #[.string f, .int .i64 al, .int .i64 si, .bool alt, .bool ze, .int .i64 wi, .int .i64 gr, .int .i64 pr, .string ⟨t.toArray⟩], .int .i64 0] W fun r w' => r = .returned (.int .i64 a) ∧ Below W.heap.size W w') :
    Calls Tryz.prog 81 #[.agg #[.string f, .int .i64 al, .int .i64 si, .bool alt, .bool ze, .int .i64 wi, .int .i64 gr, .int .i64 pr, .string ⟨t.toArray⟩], .int .i64 n] w fun r w' => r = .returned (.string ⟨(byteL c a wi n).toArray⟩) ∧ Below w.heap.size w w' := by
  have k1 := fun W => mBn (within_any n 32 126 W)
  by_cases h : 32 ≤ n ∧ n ≤ 126
  · rw [show byteL c a wi n = padL [] [UInt8.ofNat n.toNat] wi c a from if_pos h]
    rw [show inr n 32 126 = true by simp [inr]; omega] at k1
    obtain ⟨m, rfl⟩ := Int.eq_ofNat_of_zero_le (show 0 ≤ n by omega)
    have kl := fun W => filled_any [] [UInt8.ofNat m] wi c a W (by simp) (by simp) hw ha
    rw [show ((m : Int)).toNat = m from rfl]
    have e1 := rune_text (k := m) (by omega) (by omega)
    have e2 : IntKind.i32.wrap (m : Int) = m := i32_in (by omega) (by omega)
    generalize padL [] [UInt8.ofNat m] wi c a = R at *
    have KF := Lib.hid kf; have KA := Lib.hid ka; have K1 := Lib.hid k1; have KL := Lib.hid kl
    clear kf ka k1 kl
    have za := C9.new w (.string f) (.int .i64 al) (.int .i64 si) (.bool alt) (.bool ze) (.int .i64 wi) (.int .i64 gr) (.int .i64 pr) (.string ⟨t.toArray⟩) 24
    have hB : Below w.heap.size w (w.alloc (.cells #[.string f, .int .i64 al, .int .i64 si, .bool alt, .bool ze, .int .i64 wi, .int .i64 gr, .int .i64 pr, .string ⟨t.toArray⟩] 24)) := (Below.refl _ _).alloc (Nat.le_refl _) _
    have zz := za
    obtain ⟨x0, x1, x2, x3, x4, x5, x6, x7, x8, x9, xl⟩ := zz
    go_enter Tryz.func81, Tryz.ntmps81
    go_wp2_with (go_at_call 67; (with_reducible refine Calls.mono (K1.out _) ?_); rintro r w1 ⟨rfl, hb⟩; replace hB := hB.trans (hb.mono hB.size); replace za := za.carry hb; have zz := za; obtain ⟨x0, x1, x2, x3, x4, x5, x6, x7, x8, x9, xl⟩ := zz)
    obtain ⟨sza0, sza1, sza2, sza3, sza4, sza5, sza6, sza7, sza8⟩ := C9.since za
    refine wp_region_since (by kernel_rfl) (by kernel_rfl) ?_
    repeat (quiet_step (first | (go_at_call 39; with_reducible exact Calls.since_of (KF.out _)) | (go_at_call 40; with_reducible exact Calls.since_of (KA.out _)) | (go_at_call 64; with_reducible exact Calls.since_of (KL.out _))))
    refine wpQuiet_nil ?_
    intro w_ hw_
    obtain ⟨⟨w1, hb⟩, hw2⟩ := hw_
    have hw3 : w1 = w_ := hw2.symm
    clear hw2
    subst hw3
    clear sza0 sza1 sza2 sza3 sza4 sza5 sza6 sza7 sza8
    replace hB := hB.trans (hb.mono hB.size)
    have hz := hb.size
    replace za := C9.carry za hb
    have zz := za
    obtain ⟨x0, x1, x2, x3, x4, x5, x6, x7, x8, x9, xl⟩ := zz
    go_wp2
    all_goals go_ret
    all_goals exact ⟨rfl, hB⟩
  · rw [show byteL c a wi n = [] from if_neg h]
    rw [show inr n 32 126 = false by simp [inr]; omega] at k1
    have K1 := Lib.hid k1
    clear kf ka k1
    have za := C9.new w (.string f) (.int .i64 al) (.int .i64 si) (.bool alt) (.bool ze) (.int .i64 wi) (.int .i64 gr) (.int .i64 pr) (.string ⟨t.toArray⟩) 24
    have hB : Below w.heap.size w (w.alloc (.cells #[.string f, .int .i64 al, .int .i64 si, .bool alt, .bool ze, .int .i64 wi, .int .i64 gr, .int .i64 pr, .string ⟨t.toArray⟩] 24)) := (Below.refl _ _).alloc (Nat.le_refl _) _
    have zz := za
    obtain ⟨x0, x1, x2, x3, x4, x5, x6, x7, x8, x9, xl⟩ := zz
    go_enter Tryz.func81, Tryz.ntmps81
    go_wp2_with (first | (go_at_call 67; (with_reducible refine Calls.mono (K1.out _) ?_); rintro r w1 ⟨rfl, hb⟩; replace hB := hB.trans (hb.mono hB.size); replace za := za.carry hb; have zz := za; obtain ⟨x0, x1, x2, x3, x4, x5, x6, x7, x8, x9, xl⟩ := zz))
    all_goals go_ret
    all_goals exact ⟨rfl, hB⟩
def fwX (ok : Bool) (c : UInt8) (a si : Int) (alt : Bool) (wi : Nat) (gr : Int) (t : List UInt8) (n : Int) : List UInt8 :=
  if ok && inr n (-999999999999) 999999999999 then (if t = [99] then byteL c a wi n else wholeL c a si alt wi gr t n) else []
theorem kind_zero {b : UInt8} (h : (kindB b == 0) = true) : b = 100 ∨ b = 98 ∨ b = 111 ∨ b = 120 ∨ b = 88 ∨ b = 99 := by
  have := all_bytes (fun b => !(kindB b == 0) || (b == 100 || (b == 98 || (b == 111 || (b == 120 || (b == 88 || b == 99)))))) (by kernel_rfl) b
  simp only [h, Bool.not_true, Bool.false_or, Bool.or_eq_true, beq_iff_eq] at this
  exact this
theorem tyOk_of {al si : Int} {alt ze : Bool} {gr pr : Int} {t : ByteArray} (h : suitT al si alt ze gr pr t 0 = true) (hc : ¬ t.data.toList = [99]) : TyOk t.data.toList := by
  unfold suitT at h
  split at h
  · rename_i e; rw [e]; exact .inl rfl
  · rename_i b e
    rw [e] at hc ⊢
    simp only [Bool.and_eq_true] at h
    rcases kind_zero h.1 with rfl | rfl | rfl | rfl | rfl | rfl
    · exact .inr (.inl rfl)
    · exact .inr (.inr (.inl rfl))
    · exact .inr (.inr (.inr (.inl rfl)))
    · exact .inr (.inr (.inr (.inr (.inl rfl))))
    · exact .inr (.inr (.inr (.inr (.inr rfl))))
    · exact absurd rfl hc
  · cases h
set_option maxRecDepth 100000 in
set_option maxHeartbeats 8000000 in
theorem FormatWhole_ok (f : ByteArray) (al si : Int) (alt ze : Bool) (wi : Nat) (gr pr : Int) (t : List UInt8) (n : Int) (w : World) (hD : DT w) (V : VS f al si wi gr pr ⟨t.toArray⟩) (hv : vSp f al si wi gr pr ⟨t.toArray⟩ = true) (hs : suitT al si alt ze gr pr ⟨t.toArray⟩ 0 = true) (hn : -999999999999 ≤ n ∧ n ≤ 999999999999) :
    Calls Tryz.prog 32 #[.agg #[.string f, .int .i64 al, .int .i64 si, .bool alt, .bool ze, .int .i64 wi, .int .i64 gr, .int .i64 pr, .string ⟨t.toArray⟩], .int .i64 n] w fun r w' => r = .returned (.string ⟨(if t = [99] then byteL (fcB f ze) (alW al ze 0) wi n else wholeL (fcB f ze) (alW al ze 0) si alt wi gr t n).toArray⟩) ∧ Below w.heap.size w w' := by
  have ks := fun W => SpecSuits_any f al si alt ze wi gr pr ⟨t.toArray⟩ 0 W
  have kf := fun W => FillFor_any f al si alt ze wi gr pr ⟨t.toArray⟩ W
  have ka := fun W => AlignFor_any f al si alt ze wi gr pr ⟨t.toArray⟩ 0 W
  rw [hv] at ks kf ka
  rw [fill_one V.fill] at kf
  have hsu : suitW true al si alt ze gr pr ⟨t.toArray⟩ 0 = true := by unfold suitW; rw [hs]; rfl
  rw [hsu] at ks ka
  rw [show alF true al ze 0 = alW al ze 0 from rfl] at ka
  have ha := alW_in ze V.al0 V.al4
  have hw : wi ≤ 30 := by have := V.wi30; omega
  by_cases hc : t = [99]
  · rw [if_pos hc]
    subst hc
    have kb := fun W => byteText_any f al si alt ze wi gr pr [99] n (fcB f ze) (alW al ze 0) W hw ha kf ka
    have k1 := fun W => mBn (within_any n (-999999999999) 999999999999 W)
    rw [show inr n (-999999999999) 999999999999 = true by simp [inr]; omega] at k1
    generalize byteL (fcB f ze) (alW al ze 0) wi n = R at *
    have KS := Lib.hid ks; have K1 := Lib.hid k1; have KB := Lib.hid kb
    clear ks kf ka k1 kb V hv hs hsu hD
    have za := C9.new w (.string f) (.int .i64 al) (.int .i64 si) (.bool alt) (.bool ze) (.int .i64 wi) (.int .i64 gr) (.int .i64 pr) (.string ⟨[99].toArray⟩) 24
    have hB : Below w.heap.size w (w.alloc (.cells #[.string f, .int .i64 al, .int .i64 si, .bool alt, .bool ze, .int .i64 wi, .int .i64 gr, .int .i64 pr, .string ⟨[99].toArray⟩] 24)) := (Below.refl _ _).alloc (Nat.le_refl _) _
    have zz := za
    obtain ⟨x0, x1, x2, x3, x4, x5, x6, x7, x8, x9, xl⟩ := zz
    go_enter Tryz.func32, Tryz.ntmps32
    go_wp2_with (first | (go_at_call 15; (with_reducible refine Calls.mono (KS.out _) ?_); rintro r w1 ⟨rfl, hb⟩; replace hB := hB.trans (hb.mono hB.size); replace za := za.carry hb; have zz := za; obtain ⟨x0, x1, x2, x3, x4, x5, x6, x7, x8, x9, xl⟩ := zz) | (go_at_call 67; (with_reducible refine Calls.mono (K1.out _) ?_); rintro r w1 ⟨rfl, hb⟩; replace hB := hB.trans (hb.mono hB.size); replace za := za.carry hb; have zz := za; obtain ⟨x0, x1, x2, x3, x4, x5, x6, x7, x8, x9, xl⟩ := zz) | (go_at_call 81; (with_reducible refine Calls.mono (KB.out _) ?_); rintro r w1 ⟨rfl, hb⟩; replace hB := hB.trans (hb.mono hB.size); replace za := za.carry hb; have zz := za; obtain ⟨x0, x1, x2, x3, x4, x5, x6, x7, x8, x9, xl⟩ := zz))
    all_goals go_ret
    all_goals exact ⟨rfl, hB⟩
  · rw [if_neg hc]
    exact FormatWhole_num f al si alt ze wi gr pr t n (fcB f ze) (alW al ze 0) w hw (tyOk_of hs hc) hn V.gr0 V.gr2 ha hD ks kf ka
end Go.Proofs.YtejganoipbblcaaGreatDoor
namespace Go.Proofs.YtejganoipbblcaaGreatDoor
open Go.RowKit
def fwOk (v : Bool) (al si : Int) (alt ze : Bool) (gr pr : Int) (t : ByteArray) (n : Int) : Bool := suitW v al si alt ze gr pr t 0 && inr n (-999999999999) 999999999999
def fwL (f : ByteArray) (al si : Int) (alt ze : Bool) (wi gr : Int) (t : List UInt8) (n : Int) : List UInt8 :=
  if t = [99] then byteL (fcB f ze) (alW al ze 0) wi.toNat n else wholeL (fcB f ze) (alW al ze 0) si alt wi.toNat gr t n
def fwR (ok : Bool) (f : ByteArray) (al si : Int) (alt ze : Bool) (wi gr : Int) (t : List UInt8) (n : Int) : List UInt8 := if ok then fwL f al si alt ze wi gr t n else []
set_option maxRecDepth 100000 in
set_option maxHeartbeats 8000000 in
theorem FormatWhole_any (f : ByteArray) (al si : Int) (alt ze : Bool) (wi gr pr : Int) (t : ByteArray) (n : Int) (w : World) (hD : DT w) :
    Calls Tryz.prog 32 #[.agg #[.string f, .int .i64 al, .int .i64 si, .bool alt, .bool ze, .int .i64 wi, .int .i64 gr, .int .i64 pr, .string t], .int .i64 n] w fun r w' => r = .returned (.string ⟨(fwR (fwOk (vSp f al si wi gr pr t) al si alt ze gr pr t n) f al si alt ze wi gr t.data.toList n).toArray⟩) ∧ Below w.heap.size w w' := by
  have ks := fun W => SpecSuits_any f al si alt ze wi gr pr t 0 W
  have k1 := fun W => mBn (within_any n (-999999999999) 999999999999 W)
  cases hs : suitW (vSp f al si wi gr pr t) al si alt ze gr pr t 0
  · rw [show fwOk (vSp f al si wi gr pr t) al si alt ze gr pr t n = false by unfold fwOk; rw [hs]; rfl]
    rw [hs] at ks
    show Calls Tryz.prog 32 _ w fun r w' => r = .returned (.string ⟨#[]⟩) ∧ _
    have KS := Lib.hid ks
    clear ks k1 hs hD
    have za := C9.new w (.string f) (.int .i64 al) (.int .i64 si) (.bool alt) (.bool ze) (.int .i64 wi) (.int .i64 gr) (.int .i64 pr) (.string t) 24
    have hB : Below w.heap.size w (w.alloc (.cells #[.string f, .int .i64 al, .int .i64 si, .bool alt, .bool ze, .int .i64 wi, .int .i64 gr, .int .i64 pr, .string t] 24)) := (Below.refl _ _).alloc (Nat.le_refl _) _
    have zz := za
    obtain ⟨x0, x1, x2, x3, x4, x5, x6, x7, x8, x9, xl⟩ := zz
    go_enter Tryz.func32, Tryz.ntmps32
    go_wp2_with (first | (go_at_call 15; (with_reducible refine Calls.mono (KS.out _) ?_); rintro r w1 ⟨rfl, hb⟩; replace hB := hB.trans (hb.mono hB.size); replace za := za.carry hb; have zz := za; obtain ⟨x0, x1, x2, x3, x4, x5, x6, x7, x8, x9, xl⟩ := zz))
    all_goals go_ret
    all_goals exact ⟨rfl, hB⟩
  · cases hn : inr n (-999999999999) 999999999999
    · rw [show fwOk (vSp f al si wi gr pr t) al si alt ze gr pr t n = false by unfold fwOk; rw [hn, Bool.and_false]]
      rw [hs] at ks
      rw [hn] at k1
      show Calls Tryz.prog 32 _ w fun r w' => r = .returned (.string ⟨#[]⟩) ∧ _
      have KS := Lib.hid ks; have K1 := Lib.hid k1
      clear ks k1 hs hn hD
      have za := C9.new w (.string f) (.int .i64 al) (.int .i64 si) (.bool alt) (.bool ze) (.int .i64 wi) (.int .i64 gr) (.int .i64 pr) (.string t) 24
      have hB : Below w.heap.size w (w.alloc (.cells #[.string f, .int .i64 al, .int .i64 si, .bool alt, .bool ze, .int .i64 wi, .int .i64 gr, .int .i64 pr, .string t] 24)) := (Below.refl _ _).alloc (Nat.le_refl _) _
      have zz := za
      obtain ⟨x0, x1, x2, x3, x4, x5, x6, x7, x8, x9, xl⟩ := zz
      go_enter Tryz.func32, Tryz.ntmps32
      go_wp2_with (first | (go_at_call 15; (with_reducible refine Calls.mono (KS.out _) ?_); rintro r w1 ⟨rfl, hb⟩; replace hB := hB.trans (hb.mono hB.size); replace za := za.carry hb; have zz := za; obtain ⟨x0, x1, x2, x3, x4, x5, x6, x7, x8, x9, xl⟩ := zz) | (go_at_call 67; (with_reducible refine Calls.mono (K1.out _) ?_); rintro r w1 ⟨rfl, hb⟩; replace hB := hB.trans (hb.mono hB.size); replace za := za.carry hb; have zz := za; obtain ⟨x0, x1, x2, x3, x4, x5, x6, x7, x8, x9, xl⟩ := zz))
      all_goals go_ret
      all_goals exact ⟨rfl, hB⟩
    · rw [show fwOk (vSp f al si wi gr pr t) al si alt ze gr pr t n = true by unfold fwOk; rw [hs, hn]; rfl]
      unfold suitW at hs
      simp only [Bool.and_eq_true] at hs
      have V := vSp_open hs.1
      simp only [inr, Bool.and_eq_true, decide_eq_true_eq] at hn
      have e := of_list t
      clear ks k1
      obtain ⟨m, rfl⟩ := Int.eq_ofNat_of_zero_le V.wi0
      rw [show fwR true f al si alt ze ((m : Nat) : Int) gr t.data.toList n = fwL f al si alt ze ((m : Nat) : Int) gr t.data.toList n from rfl]
      unfold fwL
      rw [show (((m : Nat) : Int)).toNat = m from rfl]
      generalize t.data.toList = T at *
      subst e
      exact FormatWhole_ok f al si alt ze m gr pr T n w hD V hs.1 hs.2 hn
theorem validWholeS_any (n : Int) (w : World) : Calls Tryz.prog 117 #[.int .i64 n] w fun r w' => r = .returned (.bool (inr n (-999999999999) 999999999999)) ∧ w = w' := by
  have k1 := fun W => inRangeS_any n (-999999999999) 999999999999 W
  generalize inr n (-999999999999) 999999999999 = b at *
  have K1 := Lib.hid k1
  clear k1
  go_enter Tryz.func117, Tryz.ntmps117
  go_wp2_with (go_at_call 87; (with_reducible refine Calls.mono (K1.out _) ?_); rintro r w1 ⟨rfl, rfl⟩)
  all_goals go_ret
  all_goals exact ⟨rfl, rfl⟩
theorem inBaseS_any (up : Bool) (b n : Nat) (h2 : 2 ≤ b) (h16 : b ≤ 16) (hn : n ≤ 999999999999) (w : World) :
    Calls Tryz.prog 166 #[.int .i64 n, .int .i64 b, .bool up] w fun r w' => r = .returned (.string ⟨(digs up b n).toArray⟩) ∧ Below w.heap.size w w' := by
  cases up
  · exact inBaseS_low b h2 h16 n n (Nat.le_refl _) hn w
  · exact inBaseS_up b h2 h16 n n (Nat.le_refl _) hn w
/-- what the model takes -/
def gwB (v s : Bool) (t : List UInt8) (n : Int) : Bool := v && (s && (inr n (-999999999999) 999999999999 && (!(t == [99]) || inr n 32 126)))
set_option maxRecDepth 100000 in
set_option maxHeartbeats 8000000 in
theorem goodWholeS_any (f : ByteArray) (al si : Int) (alt ze : Bool) (wi gr pr : Int) (t : List UInt8) (n : Int) (w : World) :
    Calls Tryz.prog 119 #[.agg #[.string f, .int .i64 al, .int .i64 si, .bool alt, .bool ze, .int .i64 wi, .int .i64 gr, .int .i64 pr, .string ⟨t.toArray⟩], .int .i64 n] w fun r w' => r = .returned (.bool (gwB (vSp f al si wi gr pr ⟨t.toArray⟩) (suitT al si alt ze gr pr ⟨t.toArray⟩ 0) t n)) ∧ Below w.heap.size w w' := by
  have kv := fun W => validSpecS_any f al si alt ze wi gr pr ⟨t.toArray⟩ W
  have kw := fun W => mBn (validWholeS_any n W)
  have ki := fun W => mBn (inRangeS_any n 32 126 W)
  unfold gwB
  cases hv : vSp f al si wi gr pr ⟨t.toArray⟩
  · rw [Bool.false_and]
    rw [hv] at kv
    have KV := Lib.hid kv
    clear kv kw ki hv
    have za := C9.new w (.string f) (.int .i64 al) (.int .i64 si) (.bool alt) (.bool ze) (.int .i64 wi) (.int .i64 gr) (.int .i64 pr) (.string ⟨t.toArray⟩) 24
    have hB : Below w.heap.size w (w.alloc (.cells #[.string f, .int .i64 al, .int .i64 si, .bool alt, .bool ze, .int .i64 wi, .int .i64 gr, .int .i64 pr, .string ⟨t.toArray⟩] 24)) := (Below.refl _ _).alloc (Nat.le_refl _) _
    have zz := za
    obtain ⟨x0, x1, x2, x3, x4, x5, x6, x7, x8, x9, xl⟩ := zz
    go_enter Tryz.func119, Tryz.ntmps119
    go_wp2_with (first | (go_at_call 42; (with_reducible refine Calls.mono (KV.out _) ?_); rintro r w1 ⟨rfl, hb⟩; replace hB := hB.trans (hb.mono hB.size); replace za := za.carry hb; have zz := za; obtain ⟨x0, x1, x2, x3, x4, x5, x6, x7, x8, x9, xl⟩ := zz))
    all_goals go_ret
    all_goals exact ⟨rfl, hB⟩
  · have V := vSp_open hv
    have ks := fun W => suitsS_any f al si alt ze wi gr pr ⟨t.toArray⟩ 0 W V.pr0 V.type
    rw [hv] at kv
    rw [Bool.true_and]
    clear V hv
    generalize suitT al si alt ze gr pr ⟨t.toArray⟩ 0 = s at *
    generalize inr n (-999999999999) 999999999999 = b at *
    generalize inr n 32 126 = c at *
    have KV := Lib.hid kv; have KS := Lib.hid ks; have KW := Lib.hid kw; have KI := Lib.hid ki
    clear kv ks kw ki
    by_cases ht : t = [99]
    · subst ht
      cases s <;> cases b
      all_goals (
        have za := C9.new w (.string f) (.int .i64 al) (.int .i64 si) (.bool alt) (.bool ze) (.int .i64 wi) (.int .i64 gr) (.int .i64 pr) (.string ⟨[99].toArray⟩) 24
        have hB : Below w.heap.size w (w.alloc (.cells #[.string f, .int .i64 al, .int .i64 si, .bool alt, .bool ze, .int .i64 wi, .int .i64 gr, .int .i64 pr, .string ⟨[99].toArray⟩] 24)) := (Below.refl _ _).alloc (Nat.le_refl _) _
        have zz := za
        obtain ⟨x0, x1, x2, x3, x4, x5, x6, x7, x8, x9, xl⟩ := zz
        go_enter Tryz.func119, Tryz.ntmps119
        go_wp2_with (first | (go_at_call 42; (with_reducible refine Calls.mono (KV.out _) ?_); rintro r w1 ⟨rfl, hb⟩; replace hB := hB.trans (hb.mono hB.size); replace za := za.carry hb; have zz := za; obtain ⟨x0, x1, x2, x3, x4, x5, x6, x7, x8, x9, xl⟩ := zz) | (go_at_call 43; (with_reducible refine Calls.mono (KS.out _) ?_); rintro r w1 ⟨rfl, hb⟩; replace hB := hB.trans (hb.mono hB.size); replace za := za.carry hb; have zz := za; obtain ⟨x0, x1, x2, x3, x4, x5, x6, x7, x8, x9, xl⟩ := zz) | (go_at_call 117; (with_reducible refine Calls.mono (KW.out _) ?_); rintro r w1 ⟨rfl, hb⟩; replace hB := hB.trans (hb.mono hB.size); replace za := za.carry hb; have zz := za; obtain ⟨x0, x1, x2, x3, x4, x5, x6, x7, x8, x9, xl⟩ := zz) | (go_at_call 87; (with_reducible refine Calls.mono (KI.out _) ?_); rintro r w1 ⟨rfl, hb⟩; replace hB := hB.trans (hb.mono hB.size); replace za := za.carry hb; have zz := za; obtain ⟨x0, x1, x2, x3, x4, x5, x6, x7, x8, x9, xl⟩ := zz))
        all_goals go_ret
        all_goals exact ⟨rfl, hB⟩)
    · have ht1 : (t == [99]) = false := by simpa using ht
      rw [ht1]
      cases s <;> cases b
      all_goals (
        have za := C9.new w (.string f) (.int .i64 al) (.int .i64 si) (.bool alt) (.bool ze) (.int .i64 wi) (.int .i64 gr) (.int .i64 pr) (.string ⟨t.toArray⟩) 24
        have hB : Below w.heap.size w (w.alloc (.cells #[.string f, .int .i64 al, .int .i64 si, .bool alt, .bool ze, .int .i64 wi, .int .i64 gr, .int .i64 pr, .string ⟨t.toArray⟩] 24)) := (Below.refl _ _).alloc (Nat.le_refl _) _
        have zz := za
        obtain ⟨x0, x1, x2, x3, x4, x5, x6, x7, x8, x9, xl⟩ := zz
        go_enter Tryz.func119, Tryz.ntmps119
        go_wp2_with (first | (go_at_call 42; (with_reducible refine Calls.mono (KV.out _) ?_); rintro r w1 ⟨rfl, hb⟩; replace hB := hB.trans (hb.mono hB.size); replace za := za.carry hb; have zz := za; obtain ⟨x0, x1, x2, x3, x4, x5, x6, x7, x8, x9, xl⟩ := zz) | (go_at_call 43; (with_reducible refine Calls.mono (KS.out _) ?_); rintro r w1 ⟨rfl, hb⟩; replace hB := hB.trans (hb.mono hB.size); replace za := za.carry hb; have zz := za; obtain ⟨x0, x1, x2, x3, x4, x5, x6, x7, x8, x9, xl⟩ := zz) | (go_at_call 117; (with_reducible refine Calls.mono (KW.out _) ?_); rintro r w1 ⟨rfl, hb⟩; replace hB := hB.trans (hb.mono hB.size); replace za := za.carry hb; have zz := za; obtain ⟨x0, x1, x2, x3, x4, x5, x6, x7, x8, x9, xl⟩ := zz) | (go_at_call 87; (with_reducible refine Calls.mono (KI.out _) ?_); rintro r w1 ⟨rfl, hb⟩; replace hB := hB.trans (hb.mono hB.size); replace za := za.carry hb; have zz := za; obtain ⟨x0, x1, x2, x3, x4, x5, x6, x7, x8, x9, xl⟩ := zz))
        all_goals go_ret
        all_goals exact ⟨rfl, hB⟩)

set_option maxRecDepth 100000 in
set_option maxHeartbeats 8000000 in
theorem formatWholeS_byte (f : ByteArray) (al si : Int) (alt ze : Bool) (wi : Nat) (gr pr : Int) (n : Int) (w : World) (hw : wi ≤ 30) (ha0 : 0 ≤ al) (ha4 : al ≤ 4) (hf : okFill f al = true) (hn : 32 ≤ n ∧ n ≤ 126) :
    Calls Tryz.prog 120 #[.agg #[.string f, .int .i64 al, .int .i64 si, .bool alt, .bool ze, .int .i64 wi, .int .i64 gr, .int .i64 pr, .string ⟨[99].toArray⟩], .int .i64 n] w fun r w' => r = .returned (.string ⟨(byteL (fcB f ze) (alW al ze 0) wi n).toArray⟩) ∧ Below w.heap.size w w' := by
  have ha := alW_in ze ha0 ha4
  have kf := fun W => fillOfS_any f al si alt ze wi gr pr ⟨[99].toArray⟩ W
  have ka := fun W => alignOfS_any f al si alt ze wi gr pr ⟨[99].toArray⟩ 0 W
  rw [fill_one hf] at kf
  generalize alW al ze 0 = a at *
  generalize fcB f ze = c at *
  rw [show byteL c a wi n = padL [] [UInt8.ofNat n.toNat] wi c a from if_pos hn]
  obtain ⟨m, rfl⟩ := Int.eq_ofNat_of_zero_le (show 0 ≤ n by omega)
  have kl := fun W => paddedS_any [] [UInt8.ofNat m] wi c a W (by simp) (by simp) hw ha
  rw [show ((m : Int)).toNat = m from rfl]
  have e1 := rune_text (k := m) (by omega) (by omega)
  have e2 : IntKind.i32.wrap (m : Int) = m := i32_in (by omega) (by omega)
  generalize padL [] [UInt8.ofNat m] wi c a = R at *
  have KF := Lib.hid kf; have KA := Lib.hid ka; have KL := Lib.hid kl
  clear kf ka kl hf
  have za := C9.new w (.string f) (.int .i64 al) (.int .i64 si) (.bool alt) (.bool ze) (.int .i64 wi) (.int .i64 gr) (.int .i64 pr) (.string ⟨[99].toArray⟩) 24
  have hB : Below w.heap.size w (w.alloc (.cells #[.string f, .int .i64 al, .int .i64 si, .bool alt, .bool ze, .int .i64 wi, .int .i64 gr, .int .i64 pr, .string ⟨[99].toArray⟩] 24)) := (Below.refl _ _).alloc (Nat.le_refl _) _
  have zz := za
  obtain ⟨x0, x1, x2, x3, x4, x5, x6, x7, x8, x9, xl⟩ := zz
  go_enter Tryz.func120, Tryz.ntmps120
  go_wp2
  obtain ⟨sza0, sza1, sza2, sza3, sza4, sza5, sza6, sza7, sza8⟩ := C9.since za
  refine wp_region_since (by kernel_rfl) (by kernel_rfl) ?_
  repeat (quiet_step (first | (go_at_call 44; with_reducible exact Calls.since_of (KF.out _)) | (go_at_call 45; with_reducible exact Calls.since_of (KA.out _)) | (go_at_call 156; with_reducible exact Calls.since_of (KL.out _))))
  refine wpQuiet_nil ?_
  intro w_ hw_
  obtain ⟨⟨w1, hb⟩, hw2⟩ := hw_
  have hw3 : w1 = w_ := hw2.symm
  clear hw2
  subst hw3
  clear sza0 sza1 sza2 sza3 sza4 sza5 sza6 sza7 sza8
  replace hB := hB.trans (hb.mono hB.size)
  have hz := hb.size
  replace za := C9.carry za hb
  have zz := za
  obtain ⟨x0, x1, x2, x3, x4, x5, x6, x7, x8, x9, xl⟩ := zz
  go_wp2
  all_goals go_ret
  all_goals exact ⟨rfl, hB⟩
set_option maxRecDepth 100000 in
set_option maxHeartbeats 8000000 in
theorem formatWholeS_num (f : ByteArray) (al si : Int) (alt ze : Bool) (wi : Nat) (gr pr : Int) (t : List UInt8) (n : Int) (w : World) (hw : wi ≤ 30) (ha0 : 0 ≤ al) (ha4 : al ≤ 4) (hg0 : 0 ≤ gr) (hg2 : gr ≤ 2) (hf : okFill f al = true) (hT : TyOk t) (hn : -999999999999 ≤ n ∧ n ≤ 999999999999) :
    Calls Tryz.prog 120 #[.agg #[.string f, .int .i64 al, .int .i64 si, .bool alt, .bool ze, .int .i64 wi, .int .i64 gr, .int .i64 pr, .string ⟨t.toArray⟩], .int .i64 n] w fun r w' => r = .returned (.string ⟨(wholeL (fcB f ze) (alW al ze 0) si alt wi gr t n).toArray⟩) ∧ Below w.heap.size w w' := by
  have ha := alW_in ze ha0 ha4
  have kf := fun W => fillOfS_any f al si alt ze wi gr pr ⟨t.toArray⟩ W
  have ka := fun W => alignOfS_any f al si alt ze wi gr pr ⟨t.toArray⟩ 0 W
  rw [fill_one hf] at kf
  generalize alW al ze 0 = a at *
  generalize fcB f ze = c at *
  have hbase := hT.base
  have kb := fun W => mBn (baseOfS_ok t hT W)
  have kp := fun W => mBn (prefixOfS_ok t hT W)
  have kg := fun W => mBn (signTextS_any si (decide (n < 0)) W)
  have ki := fun W => inBaseS_any (t == [88]) (tyBase t) n.natAbs hbase.1 hbase.2 (by omega) W
  have hhl := head_len hT si (decide (n < 0)) alt
  have hdl := digs_40 (up := (t == [88])) (b := tyBase t) (n := n.natAbs) hT.base.1 (by omega)
  have kl := fun W => laidS_any f al si alt ze wi gr pr t (headL si (decide (n < 0)) alt t) (digs (t == [88]) (tyBase t) n.natAbs) c a W hw hT hhl hdl hg0 hg2 ha kf ka
  have hR : (if c = 48 ∧ a = 4 then headL si (decide (n < 0)) alt t ++ widL (digs (t == [88]) (tyBase t) n.natAbs) (wi - (headL si (decide (n < 0)) alt t).length) (tyGrp t) (mkL gr) else padL (headL si (decide (n < 0)) alt t) (joinL (tyGrp t) (mkL gr) (digs (t == [88]) (tyBase t) n.natAbs)) wi c a) = wholeL c a si alt wi gr t n := by
    split
    · rename_i h
      obtain ⟨rfl, h4⟩ := h
      exact (whole_inside hT hw hn h4).symm
    · rename_i h
      exact (whole_pad h).symm
  rw [hR] at kl
  generalize wholeL c a si alt wi gr t n = R at *
  have hpl := tyPre_len2 hT
  have hsl := sgn_len si (decide (n < 0))
  have ht1 : (t == [99]) = false := by rcases hT with rfl | rfl | rfl | rfl | rfl | rfl <;> decide
  have ht2 : ¬ t = [99] := by rcases hT with rfl | rfl | rfl | rfl | rfl | rfl <;> decide
  have hm1 : max n (-n) = ((n.natAbs : Nat) : Int) := by omega
  have hm2 : max n (0 - n) = ((n.natAbs : Nat) : Int) := by omega
  have w1 : IntKind.i64.wrap (-n) = -n := IntWalk.i64_in _ (by omega)
  have w2 : IntKind.i64.wrap (0 - n) = 0 - n := IntWalk.i64_in _ (by omega)
  clear hR kf ka hf
  unfold headL at kl hhl
  by_cases hx : t = [88]
  · subst hx
    rw [show (([88] : List UInt8) == [88]) = true from rfl] at ki kl
    generalize digs true (tyBase [88]) n.natAbs = D at *
    generalize tyBase [88] = b at *
    generalize n.natAbs = N at *
    cases alt
    · rw [if_neg (by decide), List.append_nil] at kl hhl
      generalize sgnL si (decide (n < 0)) = H at *
      have KB := Lib.hid kb; have KG := Lib.hid kg; have KI := Lib.hid ki; have KL := Lib.hid kl
      clear kb kp kg ki kl hT
      have za := C9.new w (.string f) (.int .i64 al) (.int .i64 si) (.bool false) (.bool ze) (.int .i64 wi) (.int .i64 gr) (.int .i64 pr) (.string ⟨[88].toArray⟩) 24
      have hB : Below w.heap.size w (w.alloc (.cells #[.string f, .int .i64 al, .int .i64 si, .bool false, .bool ze, .int .i64 wi, .int .i64 gr, .int .i64 pr, .string ⟨[88].toArray⟩] 24)) := (Below.refl _ _).alloc (Nat.le_refl _) _
      have zz := za
      obtain ⟨x0, x1, x2, x3, x4, x5, x6, x7, x8, x9, xl⟩ := zz
      go_enter Tryz.func120, Tryz.ntmps120
      go_wp2_with (first | (go_at_call 105; (with_reducible refine Calls.mono (KG.out _) ?_); rintro r w1 ⟨rfl, hb⟩; replace hB := hB.trans (hb.mono hB.size); replace za := za.carry hb; have zz := za; obtain ⟨x0, x1, x2, x3, x4, x5, x6, x7, x8, x9, xl⟩ := zz))
      obtain ⟨sza0, sza1, sza2, sza3, sza4, sza5, sza6, sza7, sza8⟩ := C9.since za
      refine wp_region_since (by kernel_rfl) (by kernel_rfl) ?_
      repeat (quiet_step (first | (go_at_call 167; with_reducible exact Calls.since_of (KB.out _)) | (go_at_call 166; with_reducible exact Calls.since_of (KI.out _)) | (go_at_call 104; with_reducible exact Calls.since_of (KL.out _))))
      refine wpQuiet_nil ?_
      intro w_ hw_
      obtain ⟨⟨w1, hb⟩, hw2⟩ := hw_
      have hw3 : w1 = w_ := hw2.symm
      clear hw2
      subst hw3
      clear sza0 sza1 sza2 sza3 sza4 sza5 sza6 sza7 sza8
      replace hB := hB.trans (hb.mono hB.size)
      have hz := hb.size
      replace za := C9.carry za hb
      have zz := za
      obtain ⟨x0, x1, x2, x3, x4, x5, x6, x7, x8, x9, xl⟩ := zz
      go_wp2
      all_goals go_ret
      all_goals exact ⟨rfl, hB⟩
    · rw [if_pos rfl] at kl hhl
      generalize sgnL si (decide (n < 0)) = H at *
      generalize tyPre [88] = P at *
      have c1 := cat_l H P
      have hq : ¬ (9223372036854775807 < H.length + P.length) := by omega
      have KB := Lib.hid kb; have KG := Lib.hid kg; have KI := Lib.hid ki; have KL := Lib.hid kl; have KP := Lib.hid kp
      clear kb kp kg ki kl hT
      have za := C9.new w (.string f) (.int .i64 al) (.int .i64 si) (.bool true) (.bool ze) (.int .i64 wi) (.int .i64 gr) (.int .i64 pr) (.string ⟨[88].toArray⟩) 24
      have hB : Below w.heap.size w (w.alloc (.cells #[.string f, .int .i64 al, .int .i64 si, .bool true, .bool ze, .int .i64 wi, .int .i64 gr, .int .i64 pr, .string ⟨[88].toArray⟩] 24)) := (Below.refl _ _).alloc (Nat.le_refl _) _
      have zz := za
      obtain ⟨x0, x1, x2, x3, x4, x5, x6, x7, x8, x9, xl⟩ := zz
      go_enter Tryz.func120, Tryz.ntmps120
      go_wp2_with (first | (go_at_call 105; (with_reducible refine Calls.mono (KG.out _) ?_); rintro r w1 ⟨rfl, hb⟩; replace hB := hB.trans (hb.mono hB.size); replace za := za.carry hb; have zz := za; obtain ⟨x0, x1, x2, x3, x4, x5, x6, x7, x8, x9, xl⟩ := zz) | (go_at_call 165; (with_reducible refine Calls.mono (KP.out _) ?_); rintro r w1 ⟨rfl, hb⟩; replace hB := hB.trans (hb.mono hB.size); replace za := za.carry hb; have zz := za; obtain ⟨x0, x1, x2, x3, x4, x5, x6, x7, x8, x9, xl⟩ := zz))
      obtain ⟨sza0, sza1, sza2, sza3, sza4, sza5, sza6, sza7, sza8⟩ := C9.since za
      refine wp_region_since (by kernel_rfl) (by kernel_rfl) ?_
      repeat (quiet_step (first | (go_at_call 167; with_reducible exact Calls.since_of (KB.out _)) | (go_at_call 166; with_reducible exact Calls.since_of (KI.out _)) | (go_at_call 104; with_reducible exact Calls.since_of (KL.out _))))
      refine wpQuiet_nil ?_
      intro w_ hw_
      obtain ⟨⟨w1, hb⟩, hw2⟩ := hw_
      have hw3 : w1 = w_ := hw2.symm
      clear hw2
      subst hw3
      clear sza0 sza1 sza2 sza3 sza4 sza5 sza6 sza7 sza8
      replace hB := hB.trans (hb.mono hB.size)
      have hz := hb.size
      replace za := C9.carry za hb
      have zz := za
      obtain ⟨x0, x1, x2, x3, x4, x5, x6, x7, x8, x9, xl⟩ := zz
      go_wp2
      all_goals go_ret
      all_goals exact ⟨rfl, hB⟩
  · have hx1 : (t == [88]) = false := by simpa using hx
    rw [hx1] at ki kl
    generalize digs false (tyBase t) n.natAbs = D at *
    generalize tyBase t = b at *
    generalize n.natAbs = N at *
    cases alt
    · rw [if_neg (by decide), List.append_nil] at kl hhl
      generalize sgnL si (decide (n < 0)) = H at *
      have KB := Lib.hid kb; have KG := Lib.hid kg; have KI := Lib.hid ki; have KL := Lib.hid kl
      clear kb kp kg ki kl hT
      have za := C9.new w (.string f) (.int .i64 al) (.int .i64 si) (.bool false) (.bool ze) (.int .i64 wi) (.int .i64 gr) (.int .i64 pr) (.string ⟨t.toArray⟩) 24
      have hB : Below w.heap.size w (w.alloc (.cells #[.string f, .int .i64 al, .int .i64 si, .bool false, .bool ze, .int .i64 wi, .int .i64 gr, .int .i64 pr, .string ⟨t.toArray⟩] 24)) := (Below.refl _ _).alloc (Nat.le_refl _) _
      have zz := za
      obtain ⟨x0, x1, x2, x3, x4, x5, x6, x7, x8, x9, xl⟩ := zz
      go_enter Tryz.func120, Tryz.ntmps120
      go_wp2_with (first | (go_at_call 105; (with_reducible refine Calls.mono (KG.out _) ?_); rintro r w1 ⟨rfl, hb⟩; replace hB := hB.trans (hb.mono hB.size); replace za := za.carry hb; have zz := za; obtain ⟨x0, x1, x2, x3, x4, x5, x6, x7, x8, x9, xl⟩ := zz))
      obtain ⟨sza0, sza1, sza2, sza3, sza4, sza5, sza6, sza7, sza8⟩ := C9.since za
      refine wp_region_since (by kernel_rfl) (by kernel_rfl) ?_
      repeat (quiet_step (first | (go_at_call 167; with_reducible exact Calls.since_of (KB.out _)) | (go_at_call 166; with_reducible exact Calls.since_of (KI.out _)) | (go_at_call 104; with_reducible exact Calls.since_of (KL.out _))))
      refine wpQuiet_nil ?_
      intro w_ hw_
      obtain ⟨⟨w1, hb⟩, hw2⟩ := hw_
      have hw3 : w1 = w_ := hw2.symm
      clear hw2
      subst hw3
      clear sza0 sza1 sza2 sza3 sza4 sza5 sza6 sza7 sza8
      replace hB := hB.trans (hb.mono hB.size)
      have hz := hb.size
      replace za := C9.carry za hb
      have zz := za
      obtain ⟨x0, x1, x2, x3, x4, x5, x6, x7, x8, x9, xl⟩ := zz
      go_wp2
      all_goals go_ret
      all_goals exact ⟨rfl, hB⟩
    · rw [if_pos rfl] at kl hhl
      generalize sgnL si (decide (n < 0)) = H at *
      generalize tyPre t = P at *
      have c1 := cat_l H P
      have hq : ¬ (9223372036854775807 < H.length + P.length) := by omega
      have KB := Lib.hid kb; have KG := Lib.hid kg; have KI := Lib.hid ki; have KL := Lib.hid kl; have KP := Lib.hid kp
      clear kb kp kg ki kl hT
      have za := C9.new w (.string f) (.int .i64 al) (.int .i64 si) (.bool true) (.bool ze) (.int .i64 wi) (.int .i64 gr) (.int .i64 pr) (.string ⟨t.toArray⟩) 24
      have hB : Below w.heap.size w (w.alloc (.cells #[.string f, .int .i64 al, .int .i64 si, .bool true, .bool ze, .int .i64 wi, .int .i64 gr, .int .i64 pr, .string ⟨t.toArray⟩] 24)) := (Below.refl _ _).alloc (Nat.le_refl _) _
      have zz := za
      obtain ⟨x0, x1, x2, x3, x4, x5, x6, x7, x8, x9, xl⟩ := zz
      go_enter Tryz.func120, Tryz.ntmps120
      go_wp2_with (first | (go_at_call 105; (with_reducible refine Calls.mono (KG.out _) ?_); rintro r w1 ⟨rfl, hb⟩; replace hB := hB.trans (hb.mono hB.size); replace za := za.carry hb; have zz := za; obtain ⟨x0, x1, x2, x3, x4, x5, x6, x7, x8, x9, xl⟩ := zz) | (go_at_call 165; (with_reducible refine Calls.mono (KP.out _) ?_); rintro r w1 ⟨rfl, hb⟩; replace hB := hB.trans (hb.mono hB.size); replace za := za.carry hb; have zz := za; obtain ⟨x0, x1, x2, x3, x4, x5, x6, x7, x8, x9, xl⟩ := zz))
      obtain ⟨sza0, sza1, sza2, sza3, sza4, sza5, sza6, sza7, sza8⟩ := C9.since za
      refine wp_region_since (by kernel_rfl) (by kernel_rfl) ?_
      repeat (quiet_step (first | (go_at_call 167; with_reducible exact Calls.since_of (KB.out _)) | (go_at_call 166; with_reducible exact Calls.since_of (KI.out _)) | (go_at_call 104; with_reducible exact Calls.since_of (KL.out _))))
      refine wpQuiet_nil ?_
      intro w_ hw_
      obtain ⟨⟨w1, hb⟩, hw2⟩ := hw_
      have hw3 : w1 = w_ := hw2.symm
      clear hw2
      subst hw3
      clear sza0 sza1 sza2 sza3 sza4 sza5 sza6 sza7 sza8
      replace hB := hB.trans (hb.mono hB.size)
      have hz := hb.size
      replace za := C9.carry za hb
      have zz := za
      obtain ⟨x0, x1, x2, x3, x4, x5, x6, x7, x8, x9, xl⟩ := zz
      go_wp2
      all_goals go_ret
      all_goals exact ⟨rfl, hB⟩
end Go.Proofs.YtejganoipbblcaaGreatDoor
namespace Go.Proofs.YtejganoipbblcaaGreatDoor
open Go.RowKit
end Go.Proofs.YtejganoipbblcaaGreatDoor
