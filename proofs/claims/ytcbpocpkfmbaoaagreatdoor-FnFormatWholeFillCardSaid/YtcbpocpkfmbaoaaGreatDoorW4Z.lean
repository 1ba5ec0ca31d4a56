import Derived.Test.YtcbpocpkfmbaoaaGreatDoorW2Z
import Derived.Test.YtcbpocpkfmbaoaaGreatDoorT2
namespace Go.Proofs.YtcbpocpkfmbaoaaGreatDoor
open Go.RowKit
theorem prL_app (a b : List UInt8) : prL (a ++ b) = (prL a && prL b) := by unfold prL; rw [List.all_append]
theorem prL_grpT {n : Nat} {sep : List UInt8} (hs : prL sep = true) : ∀ l : List UInt8, prL l = true → prL (grpT n sep l) = true
  | [], _ => rfl
  | b :: l, h => by
    have h' : (okByte b && prL l) = true := h
    rw [Bool.and_eq_true] at h'
    have hb : prL (b :: grpT n sep l) = true := by show (okByte b && prL (grpT n sep l)) = true; rw [h'.1, prL_grpT hs l h'.2]; rfl
    rw [grpT, prL_app, hb]
    split
    · rw [hs]; rfl
    · rfl
theorem prL_grp {n : Nat} {sep : List UInt8} (hs : prL sep = true) (l : List UInt8) (h : prL l = true) : prL (grp n sep l) = true := by
  cases l with
  | nil => rfl
  | cons b l =>
    have h' : (okByte b && prL l) = true := h
    rw [Bool.and_eq_true] at h'
    show (okByte b && prL (grpT n sep l)) = true
    rw [h'.1, prL_grpT hs l h'.2]; rfl
theorem dch_pr (up : Bool) {k : Nat} (h : k < 16) : okByte (dch up k) = true := by
  have h0 : ((List.range 16).all fun k => okByte (dch up k)) = true := by cases up <;> decide +kernel
  exact List.all_eq_true.1 h0 k (List.mem_range.2 h)
theorem prL_txL {si : Int} {alt : Bool} {gr : Int} {t : List UInt8} {n : Int} (hT : TyOk t) : prL (txL si alt gr t n) = true := by
  have hb := hT.base
  have hd : prL (digs (t == [88]) (tyBase t) n.natAbs) = true := by
    unfold prL
    rw [List.all_eq_true]
    intro x hx
    obtain ⟨d, h16, rfl⟩ := digs_all hb.1 hb.2 n.natAbs n.natAbs (Nat.le_refl _) x hx
    exact dch_pr _ h16
  have hm : prL (mkL gr) = true := by
    unfold mkL
    split
    · decide
    · split <;> decide
  have h1 : prL (sgnL si (decide (n < 0))) = true := by
    unfold sgnL
    split
    · decide
    · split
      · decide
      · split <;> decide
  have h2 : prL (if alt then tyPre t else []) = true := by
    split
    · rcases hT with rfl | rfl | rfl | rfl | rfl | rfl <;> decide
    · rfl
  have h3 : prL (bodyL gr t n) = true := by
    unfold bodyL joinL
    split
    · exact hd
    · exact prL_grp hm _ hd
  unfold txL headL
  rw [prL_app, prL_app, h1, h2, h3]
  rfl
theorem padL_head (H B : List UInt8) (wi : Nat) (c : UInt8) {a : Int} (h : ¬ a = 4) : padL H B wi c a = padL [] (H ++ B) wi c a := by
  have e : wi - ([] : List UInt8).length - (H ++ B).length = wi - H.length - B.length := by rw [List.length_append, List.length_nil]; omega
  unfold padL
  rw [e, if_neg h, if_neg h]
  split
  · simp
  · split
    · simp
    · simp
theorem fc_ok {f : ByteArray} {al : Int} {ze : Bool} (h : okFill f al = true) : oneP ⟨#[fcB f ze]⟩ = true := by
  rcases okFill_cases h with rfl | ⟨b, rfl⟩
  · cases ze <;> decide
  · show okByte b = true
    have h' : (!(al == 0) && okByte b && !(b == 123) && !(b == 125)) = true := h
    simp only [Bool.and_eq_true] at h'
    exact h'.1.1.2
structure Fill (f : ByteArray) (al si : Int) (alt ze : Bool) (wi gr pr : Int) (t : ByteArray) (n : Int) (X Y : List UInt8) : Prop where
  fmt : fwR (fwOk (vSp f al si wi gr pr t) al si alt ze gr pr t n) f al si alt ze wi gr t.data.toList n = X
  fmt0 : fwR (fwOk (vSp f al si 0 gr pr t) al si alt ze gr pr t n) f al si alt ze 0 gr t.data.toList n = Y
  pad : ¬ alW al ze 0 = 4 → padW ⟨Y.toArray⟩ wi ⟨#[fcB f ze]⟩ (alW al ze 0) = ⟨X.toArray⟩
  wide : wi ≤ X.length
  short : Y.length ≤ 80
theorem pad_of {f : ByteArray} {al si : Int} {ze : Bool} {wi gr pr : Int} {t : ByteArray} (V : VS f al si wi gr pr t) {Y : List UInt8} (h1 : Y.length ≤ 80) (h2 : prL Y = true) (h4 : ¬ alW al ze 0 = 4) :
    padW ⟨Y.toArray⟩ wi ⟨#[fcB f ze]⟩ (alW al ze 0) = ⟨(padL [] Y wi.toNat (fcB f ze) (alW al ze 0)).toArray⟩ := by
  have ha := alW_in ze V.al0 V.al4
  have w0 := V.wi0; have w30 := V.wi30
  have hv : vtB ⟨Y.toArray⟩ = true := by
    unfold vtB
    rw [decide_eq_true (show (⟨Y.toArray⟩ : ByteArray).size ≤ 80 from h1), show (⟨Y.toArray⟩ : ByteArray).data.toList = Y from rfl, h2]
    rfl
  unfold padW padOk cpB
  rw [hv, fc_ok V.fill, show inr (alW al ze 0) 1 3 = true by simp [inr]; omega, show inr wi 0 30 = true by simp [inr]; omega]
  rfl
theorem fill_of {f : ByteArray} {al si : Int} {alt ze : Bool} {wi gr pr : Int} {t : ByteArray} {n : Int} (hok : fwOk (vSp f al si wi gr pr t) al si alt ze gr pr t n = true) (hX : ¬ fwR (fwOk (vSp f al si wi gr pr t) al si alt ze gr pr t n) f al si alt ze wi gr t.data.toList n = []) :
    ∃ X Y, Fill f al si alt ze wi gr pr t n X Y := by
  obtain ⟨hs, hn⟩ := ok_of hok
  have hs' := hs
  unfold suitW at hs'
  simp only [Bool.and_eq_true] at hs'
  have V := vSp_open hs'.1
  have v0 := vSp_w0 V
  have w0 := V.wi0; have w30 := V.wi30
  by_cases hc : t.data.toList = [99]
  · have hi : inr n (-999999999999) 999999999999 = true := by simp only [inr, Bool.and_eq_true, decide_eq_true_eq]; omega
    have e1 : fwR (fwOk (vSp f al si wi gr pr t) al si alt ze gr pr t n) f al si alt ze wi gr t.data.toList n = byteL (fcB f ze) (alW al ze 0) wi.toNat n := by
      rw [hok]
      show fwL f al si alt ze wi gr t.data.toList n = _
      unfold fwL
      rw [if_pos hc]
    have e2 : fwR (fwOk (vSp f al si 0 gr pr t) al si alt ze gr pr t n) f al si alt ze 0 gr t.data.toList n = byteL (fcB f ze) (alW al ze 0) 0 n := by
      unfold fwOk suitW
      rw [v0, hs'.2, hi]
      show fwL f al si alt ze 0 gr t.data.toList n = _
      unfold fwL
      rw [if_pos hc]
      rfl
    rw [e1] at hX
    have hr : 32 ≤ n ∧ n ≤ 126 := by
      by_cases h : 32 ≤ n ∧ n ≤ 126
      · exact h
      · exact absurd (if_neg h) hX
    have b1 : byteL (fcB f ze) (alW al ze 0) wi.toNat n = padL [] [UInt8.ofNat n.toNat] wi.toNat (fcB f ze) (alW al ze 0) := if_pos hr
    have b2 : byteL (fcB f ze) (alW al ze 0) 0 n = [UInt8.ofNat n.toNat] := by
      show (if 32 ≤ n ∧ n ≤ 126 then _ else _) = _
      rw [if_pos hr, padL_zero]
      rfl
    have hp : prL [UInt8.ofNat n.toNat] = true := by
      show (okByte (UInt8.ofNat n.toNat) && true) = true
      rw [okByte_nat, UInt8.toNat_ofNat_of_lt' (by show n.toNat < 256; omega)]
      simp
      omega
    refine ⟨_, _, e1.trans b1, e2.trans b2, fun h4 => pad_of V (by simp) hp h4, ?_, by simp⟩
    rw [padL_len]
    omega
  · have hT := tyOk_of hs'.2 hc
    have hb := back_of hs hn hc
    refine ⟨_, _, hb.fmt, hb.fmt0, fun h4 => ?_, hb.wide, by have := hb.short; omega⟩
    have h1 := pad_of V (Y := txL si alt gr t.data.toList n) (by have := hb.short; omega) (prL_txL hT) h4
    rw [h1]
    congr 2
    rw [whole_pad (fun h => h4 h.2), padL_head (headL si (decide (n < 0)) alt t.data.toList) _ _ _ h4]
    rfl
set_option maxRecDepth 100000 in
set_option maxHeartbeats 8000000 in
theorem FnFormatWholeFill_law (s : Option Addr) (len cap : Nat) (w : World) (hT : DT w) (hcode : CodeAt s len w.heap.size w) (hcap : len ≤ cap) :
    Calls Tryz.prog 4 #[.slice s len cap] w fun r w' => r = .returned (.bool true) ∧ Below w.heap.size w w' := by
  by_cases hl : 1048576 < len
  · go_enter Tryz.func4, Tryz.ntmps4
    go_wp2
    go_ret
    exact ⟨rfl, (by repeat (first | with_reducible exact Below.refl _ _ | with_reducible assumption | with_reducible refine Below.setCell ?_ (by first | omega | (simp; done) | (simp <;> omega)) _ | with_reducible refine below_drewN ?_ _ | with_reducible refine Below.drew ?_ | with_reducible refine Below.alloc ?_ (by first | omega | (simp; done) | (simp <;> omega)) _))⟩
  go_enter Tryz.func4, Tryz.ntmps4
  go_wp2_with (go_at_call 6; (with_reducible refine Calls.mono (DrawFormatWhole_any _ _ _ _ hcode hcap) ?_); rintro r w1 ⟨⟨f, al, si, alt, ze, wi, gr, pr, t, n, rfl⟩, hB⟩; have hz := hB.size)
  have k1 := fun W (h : DT W) => FormatWhole_any f al si alt ze wi gr pr t n W h
  have k2 := fun W => FormatWholeS_any f al si alt ze wi gr pr t n W
  have hXX : ∀ l : List UInt8, (l != l) = false := fun l => by simp
  have hXY : ∀ l : List UInt8, (l == l) = true := fun l => by simp
  have zs := C9.new w1 (.string f) (.int .i64 al) (.int .i64 si) (.bool alt) (.bool ze) (.int .i64 wi) (.int .i64 gr) (.int .i64 pr) (.string t) 24
  replace hB : Below w.heap.size w (w1.alloc (.cells #[.string f, .int .i64 al, .int .i64 si, .bool alt, .bool ze, .int .i64 wi, .int .i64 gr, .int .i64 pr, .string t] 24)) := hB.alloc (by omega) _
  have zz := zs
  obtain ⟨x0, x1, x2, x3, x4, x5, x6, x7, x8, xf, xl⟩ := zz
  by_cases hX : fwR (fwOk (vSp f al si wi gr pr t) al si alt ze gr pr t n) f al si alt ze wi gr t.data.toList n = []
  · rw [hX] at k1 k2
    have K1 := Lib.hid k1; have K2 := Lib.hid k2
    clear k1 k2 hX
    go_wp2_with (first | (go_at_call 7; (with_reducible refine Calls.mono (K1.out _ (hT.on (by repeat (first | with_reducible exact Below.refl _ _ | with_reducible assumption | with_reducible refine Below.setCell ?_ (by first | omega | (simp; done) | (simp <;> omega)) _ | with_reducible refine below_drewN ?_ _ | with_reducible refine Below.drew ?_ | with_reducible refine Below.alloc ?_ (by first | omega | (simp; done) | (simp <;> omega)) _)))) ?_); rintro r w2 ⟨rfl, hb⟩; have hBN : Below w.heap.size w w2 := (by refine Below.trans ?_ (hb.mono (by first | omega | (simp; done) | (simp <;> omega))); repeat (first | with_reducible exact Below.refl _ _ | with_reducible assumption | with_reducible refine Below.setCell ?_ (by first | omega | (simp; done) | (simp <;> omega)) _ | with_reducible refine below_drewN ?_ _ | with_reducible refine Below.drew ?_ | with_reducible refine Below.alloc ?_ (by first | omega | (simp; done) | (simp <;> omega)) _)); clear hB; have hB := hBN; clear hBN; have hz := hB.size; have zN := C9.carry_of zs (by repeat (first | with_reducible assumption | with_reducible apply C9.up | (with_reducible apply C9.far; (case hn => (first | omega | (simp; omega)))) | with_reducible apply C9.set0 | with_reducible apply C9.set1 | with_reducible apply C9.set2 | with_reducible apply C9.set3 | with_reducible apply C9.set4 | with_reducible apply C9.set5 | with_reducible apply C9.set6 | with_reducible apply C9.set7 | with_reducible apply C9.set8 | with_reducible apply C9.drew)) hb; clear zs; have zs := zN; clear zN; have zz := zs; obtain ⟨x0, x1, x2, x3, x4, x5, x6, x7, x8, xf, xl⟩ := zz) | (go_at_call 8; (with_reducible refine Calls.mono (K2.out _) ?_); rintro r w2 ⟨rfl, hb⟩; have hBN : Below w.heap.size w w2 := (by refine Below.trans ?_ (hb.mono (by first | omega | (simp; done) | (simp <;> omega))); repeat (first | with_reducible exact Below.refl _ _ | with_reducible assumption | with_reducible refine Below.setCell ?_ (by first | omega | (simp; done) | (simp <;> omega)) _ | with_reducible refine below_drewN ?_ _ | with_reducible refine Below.drew ?_ | with_reducible refine Below.alloc ?_ (by first | omega | (simp; done) | (simp <;> omega)) _)); clear hB; have hB := hBN; clear hBN; have hz := hB.size; have zN := C9.carry_of zs (by repeat (first | with_reducible assumption | with_reducible apply C9.up | (with_reducible apply C9.far; (case hn => (first | omega | (simp; omega)))) | with_reducible apply C9.set0 | with_reducible apply C9.set1 | with_reducible apply C9.set2 | with_reducible apply C9.set3 | with_reducible apply C9.set4 | with_reducible apply C9.set5 | with_reducible apply C9.set6 | with_reducible apply C9.set7 | with_reducible apply C9.set8 | with_reducible apply C9.drew)) hb; clear zs; have zs := zN; clear zN; have zz := zs; obtain ⟨x0, x1, x2, x3, x4, x5, x6, x7, x8, xf, xl⟩ := zz))
    all_goals go_ret
    all_goals exact ⟨rfl, hB⟩
  · have hok : fwOk (vSp f al si wi gr pr t) al si alt ze gr pr t n = true := by
      rw [← Bool.not_eq_false]
      intro h
      exact hX (by unfold fwR; rw [h]; rfl)
    obtain ⟨X, Y, hF⟩ := fill_of hok hX
    obtain ⟨b1, b2, b3, b4, b5⟩ := hF
    obtain ⟨hs, hn⟩ := ok_of hok
    have hs' := hs
    unfold suitW at hs'
    simp only [Bool.and_eq_true] at hs'
    have V := vSp_open hs'.1
    have k3 := fun W (h : DT W) => FormatWhole_any f al si alt ze 0 gr pr t n W h
    have ka := fun W => AlignFor_any f al si alt ze wi gr pr t 0 W
    have kf := fun W => FillFor_any f al si alt ze wi gr pr t W
    have kp := fun W => PadText_any ⟨Y.toArray⟩ wi ⟨#[fcB f ze]⟩ (alW al ze 0) (by show Y.length ≤ _; omega) W
    rw [hs, show alF true al ze 0 = alW al ze 0 from rfl] at ka
    rw [hs'.1, fill_one V.fill] at kf
    rw [b1] at k1 k2 hX
    rw [b2] at k3
    have hXe : X.isEmpty = false := by
      rw [List.isEmpty_eq_false_iff]
      exact hX
    generalize fcB f ze = c at *
    generalize alW al ze 0 = a at *
    clear b1 b2 hs hs' V hok hX
    have j1 : ¬ (X.length : Int) < wi := by omega
    by_cases h4 : a = 4
    · subst h4
      have K1 := Lib.hid k1; have K2 := Lib.hid k2; have KA := Lib.hid ka
      clear k1 k2 k3 ka kf kp b3
      go_wp2_with (first | (go_at_call 7; (with_reducible refine Calls.mono (K1.out _ (hT.on (by repeat (first | with_reducible exact Below.refl _ _ | with_reducible assumption | with_reducible refine Below.setCell ?_ (by first | omega | (simp; done) | (simp <;> omega)) _ | with_reducible refine below_drewN ?_ _ | with_reducible refine Below.drew ?_ | with_reducible refine Below.alloc ?_ (by first | omega | (simp; done) | (simp <;> omega)) _)))) ?_); rintro r w2 ⟨rfl, hb⟩; have hBN : Below w.heap.size w w2 := (by refine Below.trans ?_ (hb.mono (by first | omega | (simp; done) | (simp <;> omega))); repeat (first | with_reducible exact Below.refl _ _ | with_reducible assumption | with_reducible refine Below.setCell ?_ (by first | omega | (simp; done) | (simp <;> omega)) _ | with_reducible refine below_drewN ?_ _ | with_reducible refine Below.drew ?_ | with_reducible refine Below.alloc ?_ (by first | omega | (simp; done) | (simp <;> omega)) _)); clear hB; have hB := hBN; clear hBN; have hz := hB.size; have zN := C9.carry_of zs (by repeat (first | with_reducible assumption | with_reducible apply C9.up | (with_reducible apply C9.far; (case hn => (first | omega | (simp; omega)))) | with_reducible apply C9.set0 | with_reducible apply C9.set1 | with_reducible apply C9.set2 | with_reducible apply C9.set3 | with_reducible apply C9.set4 | with_reducible apply C9.set5 | with_reducible apply C9.set6 | with_reducible apply C9.set7 | with_reducible apply C9.set8 | with_reducible apply C9.drew)) hb; clear zs; have zs := zN; clear zN; have zz := zs; obtain ⟨x0, x1, x2, x3, x4, x5, x6, x7, x8, xf, xl⟩ := zz) | (go_at_call 8; (with_reducible refine Calls.mono (K2.out _) ?_); rintro r w2 ⟨rfl, hb⟩; have hBN : Below w.heap.size w w2 := (by refine Below.trans ?_ (hb.mono (by first | omega | (simp; done) | (simp <;> omega))); repeat (first | with_reducible exact Below.refl _ _ | with_reducible assumption | with_reducible refine Below.setCell ?_ (by first | omega | (simp; done) | (simp <;> omega)) _ | with_reducible refine below_drewN ?_ _ | with_reducible refine Below.drew ?_ | with_reducible refine Below.alloc ?_ (by first | omega | (simp; done) | (simp <;> omega)) _)); clear hB; have hB := hBN; clear hBN; have hz := hB.size; have zN := C9.carry_of zs (by repeat (first | with_reducible assumption | with_reducible apply C9.up | (with_reducible apply C9.far; (case hn => (first | omega | (simp; omega)))) | with_reducible apply C9.set0 | with_reducible apply C9.set1 | with_reducible apply C9.set2 | with_reducible apply C9.set3 | with_reducible apply C9.set4 | with_reducible apply C9.set5 | with_reducible apply C9.set6 | with_reducible apply C9.set7 | with_reducible apply C9.set8 | with_reducible apply C9.drew)) hb; clear zs; have zs := zN; clear zN; have zz := zs; obtain ⟨x0, x1, x2, x3, x4, x5, x6, x7, x8, xf, xl⟩ := zz) | (go_at_call 10; (with_reducible refine Calls.mono (KA.out _) ?_); rintro r w2 ⟨rfl, hb⟩; have hBN : Below w.heap.size w w2 := (by refine Below.trans ?_ (hb.mono (by first | omega | (simp; done) | (simp <;> omega))); repeat (first | with_reducible exact Below.refl _ _ | with_reducible assumption | with_reducible refine Below.setCell ?_ (by first | omega | (simp; done) | (simp <;> omega)) _ | with_reducible refine below_drewN ?_ _ | with_reducible refine Below.drew ?_ | with_reducible refine Below.alloc ?_ (by first | omega | (simp; done) | (simp <;> omega)) _)); clear hB; have hB := hBN; clear hBN; have hz := hB.size; have zN := C9.carry_of zs (by repeat (first | with_reducible assumption | with_reducible apply C9.up | (with_reducible apply C9.far; (case hn => (first | omega | (simp; omega)))) | with_reducible apply C9.set0 | with_reducible apply C9.set1 | with_reducible apply C9.set2 | with_reducible apply C9.set3 | with_reducible apply C9.set4 | with_reducible apply C9.set5 | with_reducible apply C9.set6 | with_reducible apply C9.set7 | with_reducible apply C9.set8 | with_reducible apply C9.drew)) hb; clear zs; have zs := zN; clear zN; have zz := zs; obtain ⟨x0, x1, x2, x3, x4, x5, x6, x7, x8, xf, xl⟩ := zz))
      all_goals go_ret
      all_goals exact ⟨rfl, hB⟩
    · have hp := b3 h4
      rw [hp] at kp
      have i4 : (a == 4) = false := by simpa using h4
      have K1 := Lib.hid k1; have K2 := Lib.hid k2; have K3 := Lib.hid k3; have KA := Lib.hid ka; have KF := Lib.hid kf; have KP := Lib.hid kp
      clear k1 k2 k3 ka kf kp b3 hp
      go_wp2_with (first | (go_at_call 7; (with_reducible refine Calls.mono (K1.out _ (hT.on (by repeat (first | with_reducible exact Below.refl _ _ | with_reducible assumption | with_reducible refine Below.setCell ?_ (by first | omega | (simp; done) | (simp <;> omega)) _ | with_reducible refine below_drewN ?_ _ | with_reducible refine Below.drew ?_ | with_reducible refine Below.alloc ?_ (by first | omega | (simp; done) | (simp <;> omega)) _)))) ?_); rintro r w2 ⟨rfl, hb⟩; have hBN : Below w.heap.size w w2 := (by refine Below.trans ?_ (hb.mono (by first | omega | (simp; done) | (simp <;> omega))); repeat (first | with_reducible exact Below.refl _ _ | with_reducible assumption | with_reducible refine Below.setCell ?_ (by first | omega | (simp; done) | (simp <;> omega)) _ | with_reducible refine below_drewN ?_ _ | with_reducible refine Below.drew ?_ | with_reducible refine Below.alloc ?_ (by first | omega | (simp; done) | (simp <;> omega)) _)); clear hB; have hB := hBN; clear hBN; have hz := hB.size; have zN := C9.carry_of zs (by repeat (first | with_reducible assumption | with_reducible apply C9.up | (with_reducible apply C9.far; (case hn => (first | omega | (simp; omega)))) | with_reducible apply C9.set0 | with_reducible apply C9.set1 | with_reducible apply C9.set2 | with_reducible apply C9.set3 | with_reducible apply C9.set4 | with_reducible apply C9.set5 | with_reducible apply C9.set6 | with_reducible apply C9.set7 | with_reducible apply C9.set8 | with_reducible apply C9.drew)) hb; clear zs; have zs := zN; clear zN; have zz := zs; obtain ⟨x0, x1, x2, x3, x4, x5, x6, x7, x8, xf, xl⟩ := zz) | (go_at_call 8; (with_reducible refine Calls.mono (K2.out _) ?_); rintro r w2 ⟨rfl, hb⟩; have hBN : Below w.heap.size w w2 := (by refine Below.trans ?_ (hb.mono (by first | omega | (simp; done) | (simp <;> omega))); repeat (first | with_reducible exact Below.refl _ _ | with_reducible assumption | with_reducible refine Below.setCell ?_ (by first | omega | (simp; done) | (simp <;> omega)) _ | with_reducible refine below_drewN ?_ _ | with_reducible refine Below.drew ?_ | with_reducible refine Below.alloc ?_ (by first | omega | (simp; done) | (simp <;> omega)) _)); clear hB; have hB := hBN; clear hBN; have hz := hB.size; have zN := C9.carry_of zs (by repeat (first | with_reducible assumption | with_reducible apply C9.up | (with_reducible apply C9.far; (case hn => (first | omega | (simp; omega)))) | with_reducible apply C9.set0 | with_reducible apply C9.set1 | with_reducible apply C9.set2 | with_reducible apply C9.set3 | with_reducible apply C9.set4 | with_reducible apply C9.set5 | with_reducible apply C9.set6 | with_reducible apply C9.set7 | with_reducible apply C9.set8 | with_reducible apply C9.drew)) hb; clear zs; have zs := zN; clear zN; have zz := zs; obtain ⟨x0, x1, x2, x3, x4, x5, x6, x7, x8, xf, xl⟩ := zz) | (go_at_call 10; (with_reducible refine Calls.mono (KA.out _) ?_); rintro r w2 ⟨rfl, hb⟩; have hBN : Below w.heap.size w w2 := (by refine Below.trans ?_ (hb.mono (by first | omega | (simp; done) | (simp <;> omega))); repeat (first | with_reducible exact Below.refl _ _ | with_reducible assumption | with_reducible refine Below.setCell ?_ (by first | omega | (simp; done) | (simp <;> omega)) _ | with_reducible refine below_drewN ?_ _ | with_reducible refine Below.drew ?_ | with_reducible refine Below.alloc ?_ (by first | omega | (simp; done) | (simp <;> omega)) _)); clear hB; have hB := hBN; clear hBN; have hz := hB.size; have zN := C9.carry_of zs (by repeat (first | with_reducible assumption | with_reducible apply C9.up | (with_reducible apply C9.far; (case hn => (first | omega | (simp; omega)))) | with_reducible apply C9.set0 | with_reducible apply C9.set1 | with_reducible apply C9.set2 | with_reducible apply C9.set3 | with_reducible apply C9.set4 | with_reducible apply C9.set5 | with_reducible apply C9.set6 | with_reducible apply C9.set7 | with_reducible apply C9.set8 | with_reducible apply C9.drew)) hb; clear zs; have zs := zN; clear zN; have zz := zs; obtain ⟨x0, x1, x2, x3, x4, x5, x6, x7, x8, xf, xl⟩ := zz))
      have zt := C9.new w2 (.string f) (.int .i64 al) (.int .i64 si) (.bool alt) (.bool ze) (.int .i64 0) (.int .i64 gr) (.int .i64 pr) (.string t) 24
      replace zs := C9.up zs (.cells #[.string f, .int .i64 al, .int .i64 si, .bool alt, .bool ze, .int .i64 0, .int .i64 gr, .int .i64 pr, .string t] 24)
      replace hB : Below w.heap.size w (w2.alloc (.cells #[.string f, .int .i64 al, .int .i64 si, .bool alt, .bool ze, .int .i64 0, .int .i64 gr, .int .i64 pr, .string t] 24)) := hB.alloc (by omega) _
      obtain ⟨szs0, szs1, szs2, szs3, szs4, szs5, szs6, szs7, szs8⟩ := C9.since zs
      obtain ⟨szt0, szt1, szt2, szt3, szt4, szt5, szt6, szt7, szt8⟩ := C9.since zt
      refine wp_region_since (by kernel_rfl) (by kernel_rfl) ?_
      repeat (quiet_step (first | (go_at_call 7; with_reducible exact Calls.since_of (K3.out _ (hT.on (hB.trans ((Since.h _).mono hB.size))))) | (go_at_call 12; with_reducible exact Calls.since_of (KF.out _)) | (go_at_call 11; with_reducible exact Calls.since_of (KP.out _))))
      refine wpQuiet_nil ?_
      intro w_ hw_
      obtain ⟨⟨w1, hb⟩, hw2⟩ := hw_
      have hw3 : w1 = w_ := hw2.symm
      clear hw2
      subst hw3
      clear szs0 szs1 szs2 szs3 szs4 szs5 szs6 szs7 szs8 szt0 szt1 szt2 szt3 szt4 szt5 szt6 szt7 szt8
      replace hB := hB.trans (hb.mono hB.size)
      have hz := hb.size
      replace zs := C9.carry zs hb
      have zz := zs
      obtain ⟨x0, x1, x2, x3, x4, x5, x6, x7, x8, x9, xl⟩ := zz
      replace zt := C9.carry zt hb
      have zz := zt
      obtain ⟨x0, x1, x2, x3, x4, x5, x6, x7, x8, x9, xl⟩ := zz
      go_wp2
      all_goals go_ret
      all_goals exact ⟨rfl, hB⟩
end Go.Proofs.YtcbpocpkfmbaoaaGreatDoor
