import Derived.Test.YtejganoipbblcaaGreatDoorTL
import Derived.Test.YtejganoipbblcaaGreatDoorZ3
import Derived.Test.YtejganoipbblcaaGreatDoorU1
namespace Go.Proofs.YtejganoipbblcaaGreatDoor
open Go.RowKit
theorem suit_text {al si : Int} {alt ze : Bool} {gr pr : Int} {t : ByteArray} (h : suitT al si alt ze gr pr t 2 = true) : ze = false ∧ ¬ al = 4 := by
  have hm : marksW al si alt ze gr = false := by
    unfold suitT at h
    split at h
    · simpa using h
    · simp only [Bool.and_eq_true] at h
      simpa using h.2
    · cases h
  unfold marksW at hm
  simp at hm
  exact ⟨hm.2.2.2.1, hm.1⟩
/-- a text cut -/
def cutX (pr : Int) (x : ByteArray) : ByteArray := if 0 ≤ pr ∧ pr ≤ x.size then x.extract 0 pr.toNat else x
theorem cutX_ok {x : ByteArray} (h : vtB x = true) (pr : Int) : vtB (cutX pr x) = true := by
  unfold cutX
  split
  · have e := ext_take pr.toNat x.data.toList
    rw [← of_list x] at e
    unfold vtB at *
    simp only [Bool.and_eq_true, decide_eq_true_eq] at *
    refine ⟨by rw [ByteArray.size_extract]; omega, ?_⟩
    rw [e]
    have h2 := h.2
    unfold prL at *
    rw [List.all_eq_true] at *
    exact fun b hb => h2 b (List.mem_of_mem_take hb)
  · exact h
def fmR (f : ByteArray) (al : Int) (ze : Bool) (wi pr : Int) (x : ByteArray) : ByteArray := ⟨(padL [] (cutX pr x).data.toList wi.toNat (fcB f ze) (alW al ze 2)).toArray⟩
def fmW (ok : Bool) (f : ByteArray) (al : Int) (ze : Bool) (wi pr : Int) (x : ByteArray) : ByteArray := if ok then fmR f al ze wi pr x else ⟨#[]⟩
theorem fc_ok {f : ByteArray} {al : Int} {ze : Bool} (h : okFill f al = true) : oneP ⟨#[fcB f ze]⟩ = true := by
  rcases okFill_cases h with rfl | ⟨b, rfl⟩
  · cases ze <;> decide
  · show okByte b = true
    have h' : (!(al == 0) && okByte b && !(b == 123) && !(b == 125)) = true := h
    simp only [Bool.and_eq_true] at h'
    exact h'.1.1.2
theorem pad_ok {f : ByteArray} {al si wi gr pr : Int} {alt ze : Bool} {t x : ByteArray} (hv : vSp f al si wi gr pr t = true) (hs : suitT al si alt ze gr pr t 2 = true) (hx : vtB x = true) :
    padW (cutX pr x) wi ⟨#[fcB f ze]⟩ (alW al ze 2) = fmR f al ze wi pr x ∧ 1 ≤ alW al ze 2 ∧ alW al ze 2 ≤ 3 := by
  have V := vSp_open hv
  obtain ⟨hz, h4⟩ := suit_text hs
  have v0 := V.al0; have v1 := V.al4; have v2 := V.wi0; have v3 := V.wi30
  have ha : 1 ≤ alW al ze 2 ∧ alW al ze 2 ≤ 3 := by
    unfold alW
    rw [hz]
    by_cases h : al = 0
    · rw [if_pos h, if_neg (by decide), if_pos rfl]; omega
    · rw [if_neg h]; omega
  refine ⟨?_, ha⟩
  unfold padW padOk cpB
  rw [cutX_ok hx, fc_ok V.fill, show inr (alW al ze 2) 1 3 = true by simp [inr]; omega, show inr wi 0 30 = true by simp [inr]; omega]
  rfl
set_option maxRecDepth 100000 in
set_option maxHeartbeats 8000000 in
theorem textBy_any (f : ByteArray) (al si : Int) (alt ze : Bool) (wi gr pr : Int) (t : ByteArray) (x : ByteArray) (hx : x.size ≤ 300) (hv : vSp f al si wi gr pr t = true) (hs : suitT al si alt ze gr pr t 2 = true) (w : World) :
    Calls Tryz.prog 84 #[.agg #[.string f, .int .i64 al, .int .i64 si, .bool alt, .bool ze, .int .i64 wi, .int .i64 gr, .int .i64 pr, .string t], .string x] w fun r w' => r = .returned (.string (fmR f al ze wi pr x)) ∧ Below w.heap.size w w' := by
  have V := vSp_open hv
  obtain ⟨hze, h4⟩ := suit_text hs
  have v0 := V.al0; have v1 := V.al4; have v2 := V.wi0; have v3 := V.wi30; have v4 := V.pr0; have v5 := V.pr9
  have ha : 1 ≤ alW al ze 2 ∧ alW al ze 2 ≤ 3 := by
    unfold alW
    rw [hze]
    by_cases h : al = 0
    · rw [if_pos h, if_neg (by decide), if_pos rfl]; omega
    · rw [if_neg h]; omega
  have kf := fun W => FillFor_any f al si alt ze wi gr pr t W
  have ka := fun W => AlignFor_any f al si alt ze wi gr pr t 2 W
  have kw := fun W => mBn (within_any pr 0 x.size W)
  rw [hv, fill_one V.fill] at kf
  rw [show suitW (vSp f al si wi gr pr t) al si alt ze gr pr t 2 = true by unfold suitW; rw [hv, hs]; rfl, show alF true al ze 2 = alW al ze 2 from rfl] at ka
  obtain ⟨m, rfl⟩ := Int.eq_ofNat_of_zero_le v2
  have hcz : (cutX pr x).size ≤ 300 := by
    unfold cutX
    split
    · rw [ByteArray.size_extract]; omega
    · exact hx
  have kp : ∀ W, Calls Tryz.prog 64 #[.string ⟨#[]⟩, .string (cutX pr x), .int .i64 (m : Nat), .string ⟨#[fcB f ze]⟩, .int .i64 (alW al ze 2)] W fun r w' => r = .returned (.string (fmR f al ze (m : Nat) pr x)) ∧ Below W.heap.size W w' := fun W => by
    have k := filled_any [] (cutX pr x).data.toList m (fcB f ze) (alW al ze 2) W (by simp) (by show (cutX pr x).size ≤ 400; omega) (by omega) (by omega)
    rw [← of_list (cutX pr x)] at k
    exact k
  generalize fmR f al ze (m : Nat) pr x = R at *
  generalize alW al ze 2 = a at *
  generalize fcB f ze = c at *
  clear V hv hs hze
  by_cases hc : 0 ≤ pr ∧ pr ≤ x.size
  · rw [show cutX pr x = x.extract 0 pr.toNat from if_pos hc] at kp hcz
    rw [show inr pr 0 x.size = true by simp [inr]; omega] at kw
    obtain ⟨p, rfl⟩ := Int.eq_ofNat_of_zero_le hc.1
    rw [show ((p : Nat) : Int).toNat = p from rfl] at kp hcz
    have i1 : (p : Int) ≤ x.size := hc.2
    have i2 : ¬ (x.size : Int) < p := by omega
    have i3 : p ≤ x.size := by omega
    have KP := Lib.hid kp; have KF := Lib.hid kf; have KA := Lib.hid ka; have KW := Lib.hid kw
    clear kp kf ka kw
    have za := C9.new w (.string f) (.int .i64 al) (.int .i64 si) (.bool alt) (.bool ze) (.int .i64 (m : Nat)) (.int .i64 gr) (.int .i64 (p : Nat)) (.string t) 24
    have hB : Below w.heap.size w (w.alloc (.cells #[.string f, .int .i64 al, .int .i64 si, .bool alt, .bool ze, .int .i64 (m : Nat), .int .i64 gr, .int .i64 (p : Nat), .string t] 24)) := (Below.refl _ _).alloc (Nat.le_refl _) _
    have zz := za
    obtain ⟨x0, x1, x2, x3, x4, x5, x6, x7, x8, x9, xl⟩ := zz
    go_enter Tryz.func84, Tryz.ntmps84
    go_wp2_with (first | (go_at_call 67; (with_reducible refine Calls.mono (KW.out _) ?_); rintro r w1 ⟨rfl, hb⟩; replace hB := hB.trans (hb.mono hB.size); replace za := za.carry hb; have zz := za; obtain ⟨x0, x1, x2, x3, x4, x5, x6, x7, x8, x9, xl⟩ := zz))
    obtain ⟨sza0, sza1, sza2, sza3, sza4, sza5, sza6, sza7, sza8⟩ := C9.since za
    refine wp_region_since (by kernel_rfl) (by kernel_rfl) ?_
    repeat (quiet_step (first | (go_at_call 64; with_reducible exact Calls.since_of (KP.out _)) | (go_at_call 39; with_reducible exact Calls.since_of (KF.out _)) | (go_at_call 40; with_reducible exact Calls.since_of (KA.out _))))
    refine wpQuiet_nil ?_
    intro w_ hw_
    obtain ⟨⟨w1, hb⟩, hw2⟩ := hw_
    have hw3 : w1 = w_ := hw2.symm
    clear hw2
    subst hw3
    clear sza0 sza1 sza2 sza3 sza4 sza5 sza6 sza7 sza8
    replace hB := hB.trans (hb.mono hB.size)
    have hz := hb.size
    replace za := C9.carry za hb
    have zz := za
    obtain ⟨x0, x1, x2, x3, x4, x5, x6, x7, x8, x9, xl⟩ := zz
    go_wp2
    all_goals go_ret
    all_goals exact ⟨rfl, hB⟩
  · rw [show cutX pr x = x from if_neg hc] at kp hcz
    rw [show inr pr 0 x.size = false by simp [inr]; omega] at kw
    have KP := Lib.hid kp; have KF := Lib.hid kf; have KA := Lib.hid ka; have KW := Lib.hid kw
    clear kp kf ka kw
    have za := C9.new w (.string f) (.int .i64 al) (.int .i64 si) (.bool alt) (.bool ze) (.int .i64 (m : Nat)) (.int .i64 gr) (.int .i64 pr) (.string t) 24
    have hB : Below w.heap.size w (w.alloc (.cells #[.string f, .int .i64 al, .int .i64 si, .bool alt, .bool ze, .int .i64 (m : Nat), .int .i64 gr, .int .i64 pr, .string t] 24)) := (Below.refl _ _).alloc (Nat.le_refl _) _
    have zz := za
    obtain ⟨x0, x1, x2, x3, x4, x5, x6, x7, x8, x9, xl⟩ := zz
    go_enter Tryz.func84, Tryz.ntmps84
    go_wp2_with (first | (go_at_call 67; (with_reducible refine Calls.mono (KW.out _) ?_); rintro r w1 ⟨rfl, hb⟩; replace hB := hB.trans (hb.mono hB.size); replace za := za.carry hb; have zz := za; obtain ⟨x0, x1, x2, x3, x4, x5, x6, x7, x8, x9, xl⟩ := zz))
    obtain ⟨sza0, sza1, sza2, sza3, sza4, sza5, sza6, sza7, sza8⟩ := C9.since za
    refine wp_region_since (by kernel_rfl) (by kernel_rfl) ?_
    repeat (quiet_step (first | (go_at_call 64; with_reducible exact Calls.since_of (KP.out _)) | (go_at_call 39; with_reducible exact Calls.since_of (KF.out _)) | (go_at_call 40; with_reducible exact Calls.since_of (KA.out _))))
    refine wpQuiet_nil ?_
    intro w_ hw_
    obtain ⟨⟨w1, hb⟩, hw2⟩ := hw_
    have hw3 : w1 = w_ := hw2.symm
    clear hw2
    subst hw3
    clear sza0 sza1 sza2 sza3 sza4 sza5 sza6 sza7 sza8
    replace hB := hB.trans (hb.mono hB.size)
    have hz := hb.size
    replace za := C9.carry za hb
    have zz := za
    obtain ⟨x0, x1, x2, x3, x4, x5, x6, x7, x8, x9, xl⟩ := zz
    go_wp2
    all_goals go_ret
    all_goals exact ⟨rfl, hB⟩
set_option maxRecDepth 100000 in
set_option maxHeartbeats 8000000 in
theorem FormatText_any (f : ByteArray) (al si : Int) (alt ze : Bool) (wi gr pr : Int) (t : ByteArray) (x : ByteArray) (hx : x.size ≤ 9223372036854775807) (w : World) :
    Calls Tryz.prog 33 #[.agg #[.string f, .int .i64 al, .int .i64 si, .bool alt, .bool ze, .int .i64 wi, .int .i64 gr, .int .i64 pr, .string t], .string x] w fun r w' => r = .returned (.string (fmW (suitW (vSp f al si wi gr pr t) al si alt ze gr pr t 2 && vtB x) f al ze wi pr x)) ∧ Below w.heap.size w w' := by
  have ks := fun W => SpecSuits_any f al si alt ze wi gr pr t 2 W
  have kv := fun W => mBn (ValidText_any x hx W)
  cases hs : suitW (vSp f al si wi gr pr t) al si alt ze gr pr t 2
  · rw [hs] at ks
    show Calls Tryz.prog 33 _ w fun r w' => r = .returned (.string ⟨#[]⟩) ∧ _
    have KS := Lib.hid ks
    clear ks
    clear hs kv
    have za := C9.new w (.string f) (.int .i64 al) (.int .i64 si) (.bool alt) (.bool ze) (.int .i64 wi) (.int .i64 gr) (.int .i64 pr) (.string t) 24
    have hB : Below w.heap.size w (w.alloc (.cells #[.string f, .int .i64 al, .int .i64 si, .bool alt, .bool ze, .int .i64 wi, .int .i64 gr, .int .i64 pr, .string t] 24)) := (Below.refl _ _).alloc (Nat.le_refl _) _
    have zz := za
    obtain ⟨x0, x1, x2, x3, x4, x5, x6, x7, x8, x9, xl⟩ := zz
    go_enter Tryz.func33, Tryz.ntmps33
    go_wp2_with (first | (go_at_call 15; (with_reducible refine Calls.mono (KS.out _) ?_); rintro r w1 ⟨rfl, hb⟩; replace hB := hB.trans (hb.mono hB.size); replace za := za.carry hb; have zz := za; obtain ⟨x0, x1, x2, x3, x4, x5, x6, x7, x8, x9, xl⟩ := zz))
    all_goals go_ret
    all_goals exact ⟨rfl, hB⟩
  · cases hvt : vtB x
    · rw [hs] at ks
      rw [hvt] at kv
      show Calls Tryz.prog 33 _ w fun r w' => r = .returned (.string ⟨#[]⟩) ∧ _
      have KS := Lib.hid ks; have KV := Lib.hid kv
      clear ks kv
      clear hs hvt
      have za := C9.new w (.string f) (.int .i64 al) (.int .i64 si) (.bool alt) (.bool ze) (.int .i64 wi) (.int .i64 gr) (.int .i64 pr) (.string t) 24
      have hB : Below w.heap.size w (w.alloc (.cells #[.string f, .int .i64 al, .int .i64 si, .bool alt, .bool ze, .int .i64 wi, .int .i64 gr, .int .i64 pr, .string t] 24)) := (Below.refl _ _).alloc (Nat.le_refl _) _
      have zz := za
      obtain ⟨x0, x1, x2, x3, x4, x5, x6, x7, x8, x9, xl⟩ := zz
      go_enter Tryz.func33, Tryz.ntmps33
      go_wp2_with (first | (go_at_call 15; (with_reducible refine Calls.mono (KS.out _) ?_); rintro r w1 ⟨rfl, hb⟩; replace hB := hB.trans (hb.mono hB.size); replace za := za.carry hb; have zz := za; obtain ⟨x0, x1, x2, x3, x4, x5, x6, x7, x8, x9, xl⟩ := zz) | (go_at_call 77; (with_reducible refine Calls.mono (KV.out _) ?_); rintro r w1 ⟨rfl, hb⟩; replace hB := hB.trans (hb.mono hB.size); replace za := za.carry hb; have zz := za; obtain ⟨x0, x1, x2, x3, x4, x5, x6, x7, x8, x9, xl⟩ := zz))
      all_goals go_ret
      all_goals exact ⟨rfl, hB⟩
    · have hs' := hs
      unfold suitW at hs'
      simp only [Bool.and_eq_true] at hs'
      have hz := vtB_size hvt
      have kt := fun W => textBy_any f al si alt ze wi gr pr t x (by omega) hs'.1 hs'.2 W
      rw [hs] at ks
      rw [hvt] at kv
      rw [show fmW (true && true) f al ze wi pr x = fmR f al ze wi pr x from rfl]
      generalize fmR f al ze wi pr x = R at *
      clear hs' hs hvt
      have KS := Lib.hid ks; have KV := Lib.hid kv; have KT := Lib.hid kt
      clear ks kv kt
      have za := C9.new w (.string f) (.int .i64 al) (.int .i64 si) (.bool alt) (.bool ze) (.int .i64 wi) (.int .i64 gr) (.int .i64 pr) (.string t) 24
      have hB : Below w.heap.size w (w.alloc (.cells #[.string f, .int .i64 al, .int .i64 si, .bool alt, .bool ze, .int .i64 wi, .int .i64 gr, .int .i64 pr, .string t] 24)) := (Below.refl _ _).alloc (Nat.le_refl _) _
      have zz := za
      obtain ⟨x0, x1, x2, x3, x4, x5, x6, x7, x8, x9, xl⟩ := zz
      go_enter Tryz.func33, Tryz.ntmps33
      go_wp2_with (first | (go_at_call 15; (with_reducible refine Calls.mono (KS.out _) ?_); rintro r w1 ⟨rfl, hb⟩; replace hB := hB.trans (hb.mono hB.size); replace za := za.carry hb; have zz := za; obtain ⟨x0, x1, x2, x3, x4, x5, x6, x7, x8, x9, xl⟩ := zz) | (go_at_call 77; (with_reducible refine Calls.mono (KV.out _) ?_); rintro r w1 ⟨rfl, hb⟩; replace hB := hB.trans (hb.mono hB.size); replace za := za.carry hb; have zz := za; obtain ⟨x0, x1, x2, x3, x4, x5, x6, x7, x8, x9, xl⟩ := zz) | (go_at_call 84; (with_reducible refine Calls.mono (KT.out _) ?_); rintro r w1 ⟨rfl, hb⟩; replace hB := hB.trans (hb.mono hB.size); replace za := za.carry hb; have zz := za; obtain ⟨x0, x1, x2, x3, x4, x5, x6, x7, x8, x9, xl⟩ := zz))
      all_goals go_ret
      all_goals exact ⟨rfl, hB⟩

set_option maxRecDepth 100000 in
set_option maxHeartbeats 8000000 in
theorem formatTextS_any (f : ByteArray) (al si : Int) (alt ze : Bool) (wi gr pr : Int) (t : ByteArray) (x : ByteArray) (hz : x.size ≤ 80) (hv : vSp f al si wi gr pr t = true) (hs : suitT al si alt ze gr pr t 2 = true) (w : World) :
    Calls Tryz.prog 121 #[.agg #[.string f, .int .i64 al, .int .i64 si, .bool alt, .bool ze, .int .i64 wi, .int .i64 gr, .int .i64 pr, .string t], .string x] w fun r w' => r = .returned (.string (fmR f al ze wi pr x)) ∧ Below w.heap.size w w' := by
  have V := vSp_open hv
  obtain ⟨hze, h4⟩ := suit_text hs
  have v0 := V.al0; have v1 := V.al4; have v2 := V.wi0; have v3 := V.wi30; have v4 := V.pr0; have v5 := V.pr9
  have ha : 1 ≤ alW al ze 2 ∧ alW al ze 2 ≤ 3 := by
    unfold alW
    rw [hze]
    by_cases h : al = 0
    · rw [if_pos h, if_neg (by decide), if_pos rfl]; omega
    · rw [if_neg h]; omega
  have kf := fun W => fillOfS_any f al si alt ze wi gr pr t W
  have ka := fun W => alignOfS_any f al si alt ze wi gr pr t 2 W
  rw [fill_one V.fill] at kf
  obtain ⟨m, rfl⟩ := Int.eq_ofNat_of_zero_le v2
  have hcz : (cutX pr x).size ≤ 80 := by
    unfold cutX
    split
    · rw [ByteArray.size_extract]; omega
    · exact hz
  have kp : ∀ W, Calls Tryz.prog 156 #[.string ⟨#[]⟩, .string (cutX pr x), .int .i64 (m : Nat), .string ⟨#[fcB f ze]⟩, .int .i64 (alW al ze 2)] W fun r w' => r = .returned (.string (fmR f al ze (m : Nat) pr x)) ∧ Below W.heap.size W w' := by
    intro W
    have := paddedS_any [] (cutX pr x).data.toList m (fcB f ze) (alW al ze 2) W (by decide) (by rw [lsize]; omega) (by omega) (by omega)
    rw [← of_list (cutX pr x)] at this
    exact this
  generalize fmR f al ze (m : Nat) pr x = R at *
  generalize alW al ze 2 = a at *
  generalize fcB f ze = c at *
  clear hv hs V hze h4
  by_cases hc : 0 ≤ pr
  · obtain ⟨p, rfl⟩ := Int.eq_ofNat_of_zero_le hc
    by_cases hpx : p ≤ x.size
    · rw [show cutX (p : Nat) x = x.extract 0 p by unfold cutX; rw [if_pos ⟨by omega, by omega⟩]; rfl] at kp hcz
      have i1 : min (p : Int) (x.size : Int) = p := by omega
      have i2 : (p : Int) ≤ x.size := by omega
      have KP := Lib.hid kp; have KF := Lib.hid kf; have KA := Lib.hid ka
      clear kp kf ka
      have za := C9.new w (.string f) (.int .i64 al) (.int .i64 si) (.bool alt) (.bool ze) (.int .i64 (m : Nat)) (.int .i64 gr) (.int .i64 (p : Nat)) (.string t) 24
      have hB : Below w.heap.size w (w.alloc (.cells #[.string f, .int .i64 al, .int .i64 si, .bool alt, .bool ze, .int .i64 (m : Nat), .int .i64 gr, .int .i64 (p : Nat), .string t] 24)) := (Below.refl _ _).alloc (Nat.le_refl _) _
      have zz := za
      obtain ⟨x0, x1, x2, x3, x4, x5, x6, x7, x8, x9, xl⟩ := zz
      go_enter Tryz.func121, Tryz.ntmps121
      go_wp2_with (first | (go_at_call 44; (with_reducible refine Calls.mono (KF.out _) ?_); rintro r w1 ⟨rfl, hb⟩; replace hB := hB.trans (hb.mono hB.size); replace za := za.carry hb; have zz := za; obtain ⟨x0, x1, x2, x3, x4, x5, x6, x7, x8, x9, xl⟩ := zz) | (go_at_call 45; (with_reducible refine Calls.mono (KA.out _) ?_); rintro r w1 ⟨rfl, hb⟩; replace hB := hB.trans (hb.mono hB.size); replace za := za.carry hb; have zz := za; obtain ⟨x0, x1, x2, x3, x4, x5, x6, x7, x8, x9, xl⟩ := zz) | (go_at_call 156; (with_reducible refine Calls.mono (KP.out _) ?_); rintro r w1 ⟨rfl, hb⟩; replace hB := hB.trans (hb.mono hB.size); replace za := za.carry hb; have zz := za; obtain ⟨x0, x1, x2, x3, x4, x5, x6, x7, x8, x9, xl⟩ := zz))
      all_goals (first | (go_ret; exact ⟨rfl, hB⟩) | skip)
      obtain ⟨sza0, sza1, sza2, sza3, sza4, sza5, sza6, sza7, sza8⟩ := C9.since za
      refine wp_region_since (by kernel_rfl) (by kernel_rfl) ?_
      repeat (quiet_step (first | (go_at_call 156; with_reducible exact Calls.since_of (KP.out _)) | (go_at_call 44; with_reducible exact Calls.since_of (KF.out _)) | (go_at_call 45; with_reducible exact Calls.since_of (KA.out _))))
      refine wpQuiet_nil ?_
      intro w_ hw_
      obtain ⟨⟨w1, hb⟩, hw2⟩ := hw_
      have hw3 : w1 = w_ := hw2.symm
      clear hw2
      subst hw3
      clear sza0 sza1 sza2 sza3 sza4 sza5 sza6 sza7 sza8
      replace hB := hB.trans (hb.mono hB.size)
      have hz := hb.size
      replace za := C9.carry za hb
      have zz := za
      obtain ⟨x0, x1, x2, x3, x4, x5, x6, x7, x8, x9, xl⟩ := zz
      go_wp2
      all_goals go_ret
      all_goals exact ⟨rfl, hB⟩
    · rw [show cutX (p : Nat) x = x by unfold cutX; rw [if_neg (by omega)]] at kp hcz
      have i1 : min (p : Int) (x.size : Int) = x.size := by omega
      have i3 : x.extract 0 x.size = x := by simp
      have KP := Lib.hid kp; have KF := Lib.hid kf; have KA := Lib.hid ka
      clear kp kf ka
      have za := C9.new w (.string f) (.int .i64 al) (.int .i64 si) (.bool alt) (.bool ze) (.int .i64 (m : Nat)) (.int .i64 gr) (.int .i64 (p : Nat)) (.string t) 24
      have hB : Below w.heap.size w (w.alloc (.cells #[.string f, .int .i64 al, .int .i64 si, .bool alt, .bool ze, .int .i64 (m : Nat), .int .i64 gr, .int .i64 (p : Nat), .string t] 24)) := (Below.refl _ _).alloc (Nat.le_refl _) _
      have zz := za
      obtain ⟨x0, x1, x2, x3, x4, x5, x6, x7, x8, x9, xl⟩ := zz
      go_enter Tryz.func121, Tryz.ntmps121
      go_wp2_with (first | (go_at_call 44; (with_reducible refine Calls.mono (KF.out _) ?_); rintro r w1 ⟨rfl, hb⟩; replace hB := hB.trans (hb.mono hB.size); replace za := za.carry hb; have zz := za; obtain ⟨x0, x1, x2, x3, x4, x5, x6, x7, x8, x9, xl⟩ := zz) | (go_at_call 45; (with_reducible refine Calls.mono (KA.out _) ?_); rintro r w1 ⟨rfl, hb⟩; replace hB := hB.trans (hb.mono hB.size); replace za := za.carry hb; have zz := za; obtain ⟨x0, x1, x2, x3, x4, x5, x6, x7, x8, x9, xl⟩ := zz) | (go_at_call 156; (with_reducible refine Calls.mono (KP.out _) ?_); rintro r w1 ⟨rfl, hb⟩; replace hB := hB.trans (hb.mono hB.size); replace za := za.carry hb; have zz := za; obtain ⟨x0, x1, x2, x3, x4, x5, x6, x7, x8, x9, xl⟩ := zz))
      all_goals (first | (go_ret; exact ⟨rfl, hB⟩) | skip)
      obtain ⟨sza0, sza1, sza2, sza3, sza4, sza5, sza6, sza7, sza8⟩ := C9.since za
      refine wp_region_since (by kernel_rfl) (by kernel_rfl) ?_
      repeat (quiet_step (first | (go_at_call 156; with_reducible exact Calls.since_of (KP.out _)) | (go_at_call 44; with_reducible exact Calls.since_of (KF.out _)) | (go_at_call 45; with_reducible exact Calls.since_of (KA.out _))))
      refine wpQuiet_nil ?_
      intro w_ hw_
      obtain ⟨⟨w1, hb⟩, hw2⟩ := hw_
      have hw3 : w1 = w_ := hw2.symm
      clear hw2
      subst hw3
      clear sza0 sza1 sza2 sza3 sza4 sza5 sza6 sza7 sza8
      replace hB := hB.trans (hb.mono hB.size)
      have hz := hb.size
      replace za := C9.carry za hb
      have zz := za
      obtain ⟨x0, x1, x2, x3, x4, x5, x6, x7, x8, x9, xl⟩ := zz
      go_wp2
      all_goals go_ret
      all_goals exact ⟨rfl, hB⟩
  · rw [show cutX pr x = x by unfold cutX; rw [if_neg (by omega)]] at kp hcz
    have i1 : pr < 0 := by omega
    have KP := Lib.hid kp; have KF := Lib.hid kf; have KA := Lib.hid ka
    clear kp kf ka
    have za := C9.new w (.string f) (.int .i64 al) (.int .i64 si) (.bool alt) (.bool ze) (.int .i64 (m : Nat)) (.int .i64 gr) (.int .i64 pr) (.string t) 24
    have hB : Below w.heap.size w (w.alloc (.cells #[.string f, .int .i64 al, .int .i64 si, .bool alt, .bool ze, .int .i64 (m : Nat), .int .i64 gr, .int .i64 pr, .string t] 24)) := (Below.refl _ _).alloc (Nat.le_refl _) _
    have zz := za
    obtain ⟨x0, x1, x2, x3, x4, x5, x6, x7, x8, x9, xl⟩ := zz
    go_enter Tryz.func121, Tryz.ntmps121
    go_wp2_with (first | (go_at_call 44; (with_reducible refine Calls.mono (KF.out _) ?_); rintro r w1 ⟨rfl, hb⟩; replace hB := hB.trans (hb.mono hB.size); replace za := za.carry hb; have zz := za; obtain ⟨x0, x1, x2, x3, x4, x5, x6, x7, x8, x9, xl⟩ := zz) | (go_at_call 45; (with_reducible refine Calls.mono (KA.out _) ?_); rintro r w1 ⟨rfl, hb⟩; replace hB := hB.trans (hb.mono hB.size); replace za := za.carry hb; have zz := za; obtain ⟨x0, x1, x2, x3, x4, x5, x6, x7, x8, x9, xl⟩ := zz) | (go_at_call 156; (with_reducible refine Calls.mono (KP.out _) ?_); rintro r w1 ⟨rfl, hb⟩; replace hB := hB.trans (hb.mono hB.size); replace za := za.carry hb; have zz := za; obtain ⟨x0, x1, x2, x3, x4, x5, x6, x7, x8, x9, xl⟩ := zz))
    all_goals (first | (go_ret; exact ⟨rfl, hB⟩) | skip)
    obtain ⟨sza0, sza1, sza2, sza3, sza4, sza5, sza6, sza7, sza8⟩ := C9.since za
    refine wp_region_since (by kernel_rfl) (by kernel_rfl) ?_
    repeat (quiet_step (first | (go_at_call 156; with_reducible exact Calls.since_of (KP.out _)) | (go_at_call 44; with_reducible exact Calls.since_of (KF.out _)) | (go_at_call 45; with_reducible exact Calls.since_of (KA.out _))))
    refine wpQuiet_nil ?_
    intro w_ hw_
    obtain ⟨⟨w1, hb⟩, hw2⟩ := hw_
    have hw3 : w1 = w_ := hw2.symm
    clear hw2
    subst hw3
    clear sza0 sza1 sza2 sza3 sza4 sza5 sza6 sza7 sza8
    replace hB := hB.trans (hb.mono hB.size)
    have hz := hb.size
    replace za := C9.carry za hb
    have zz := za
    obtain ⟨x0, x1, x2, x3, x4, x5, x6, x7, x8, x9, xl⟩ := zz
    go_wp2
    all_goals go_ret
    all_goals exact ⟨rfl, hB⟩
end Go.Proofs.YtejganoipbblcaaGreatDoor
