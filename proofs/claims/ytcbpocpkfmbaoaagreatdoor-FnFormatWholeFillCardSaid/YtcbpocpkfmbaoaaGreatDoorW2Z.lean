import Derived.Test.YtcbpocpkfmbaoaaGreatDoorW1Z
import Derived.Test.YtcbpocpkfmbaoaaGreatDoorZR2
import Derived.Test.YtcbpocpkfmbaoaaGreatDoorZ9
import Derived.Handy
namespace Go.Proofs.YtcbpocpkfmbaoaaGreatDoor
open Go.RowKit
theorem vSp_w0 {f : ByteArray} {al si wi gr pr : Int} {t : ByteArray} (V : VS f al si wi gr pr t) : vSp f al si 0 gr pr t = true := by
  simp only [vSp, inr, Bool.and_eq_true, decide_eq_true_eq]
  exact ⟨⟨⟨⟨⟨⟨⟨V.al0, V.al4⟩, V.si0, V.si3⟩, V.gr0, V.gr2⟩, by omega, by omega⟩, V.pr0, V.pr9⟩, V.fill⟩, V.type⟩
/-- what is written without a width -/
def txL (si : Int) (alt : Bool) (gr : Int) (T : List UInt8) (n : Int) : List UInt8 := headL si (decide (n < 0)) alt T ++ bodyL gr T n
structure Back (f : ByteArray) (al si : Int) (alt ze : Bool) (wi gr pr : Int) (t : ByteArray) (n : Int) (X Y : List UInt8) : Prop where
  fmt : fwR (fwOk (vSp f al si wi gr pr t) al si alt ze gr pr t n) f al si alt ze wi gr t.data.toList n = X
  fmt0 : fwR (fwOk (vSp f al si 0 gr pr t) al si alt ze gr pr t n) f al si alt ze 0 gr t.data.toList n = Y
  num : rwN (rwOk (vSp f al si 0 gr pr t) al si alt ze gr pr t ⟨Y.toArray⟩) gr t ⟨Y.toArray⟩ = n
  ok : rwB (rwOk (vSp f al si 0 gr pr t) al si alt ze gr pr t ⟨Y.toArray⟩) gr t ⟨Y.toArray⟩ = true
  wide : wi ≤ X.length
  more : Y.length ≤ X.length
  same : wi ≤ Y.length → X = Y
  short : Y.length ≤ 63
  rng : -999999999999 ≤ n ∧ n ≤ 999999999999
  w0 : 0 ≤ wi
  lenX : X.length ≤ 300
theorem back_of {f : ByteArray} {al si : Int} {alt ze : Bool} {wi gr pr : Int} {t : ByteArray} {n : Int} (hs : suitW (vSp f al si wi gr pr t) al si alt ze gr pr t 0 = true) (hn : -999999999999 ≤ n ∧ n ≤ 999999999999) (hc : ¬ t.data.toList = [99]) :
    Back f al si alt ze wi gr pr t n (wholeL (fcB f ze) (alW al ze 0) si alt wi.toNat gr t.data.toList n) (txL si alt gr t.data.toList n) := by
  have hs' := hs
  unfold suitW at hs'
  simp only [Bool.and_eq_true] at hs'
  have V := vSp_open hs'.1
  have v0 := vSp_w0 V
  have hT := tyOk_of hs'.2 hc
  have w0 := V.wi0; have w30 := V.wi30
  have hi : inr n (-999999999999) 999999999999 = true := by simp only [inr, Bool.and_eq_true, decide_eq_true_eq]; omega
  obtain ⟨m, rfl⟩ := Int.eq_ofNat_of_zero_le w0
  rw [show ((m : Nat) : Int).toNat = m from rfl]
  obtain ⟨g1, g2, g3⟩ := whole_wide (c := fcB f ze) (a := alW al ze 0) (si := si) (alt := alt) (wi := m) (gr := gr) (t := t.data.toList) (n := n) hT (by omega) hn
  have hlen : (txL si alt gr t.data.toList n).length ≤ 63 := by
    unfold txL
    rw [List.length_append]
    have := head_len hT si (decide (n < 0)) alt
    have := body_len (gr := gr) (t := t.data.toList) (n := n) hT hn
    omega
  have hr := read_back (si := si) (alt := alt) (gr := gr) (t := t.data.toList) (n := n) hT V.gr0 V.gr2 hn
  have hrok : rwOk (vSp f al si 0 gr pr t) al si alt ze gr pr t ⟨(txL si alt gr t.data.toList n).toArray⟩ = true := by
    unfold rwOk suitW
    rw [v0, hs'.2, show (t.data.toList == [99]) = false by simpa using hc, decide_eq_true (show (⟨(txL si alt gr t.data.toList n).toArray⟩ : ByteArray).size ≤ 80 by show (txL si alt gr t.data.toList n).length ≤ 80; omega)]
    rfl
  have hv : rwV gr t ⟨(txL si alt gr t.data.toList n).toArray⟩ = (n.natAbs : Int) := hr.1
  have hcn : cutN (⟨(txL si alt gr t.data.toList n).toArray⟩ : ByteArray).data.toList = decide (n < 0) := hr.2
  refine ⟨?_, ?_, ?_, ?_, by omega, g2, fun h => g3 (by show m ≤ (txL si alt gr t.data.toList n).length; omega), hlen, hn, by omega, whole_len hT (by omega) (by omega)⟩
  · unfold fwOk
    rw [hs, hi, show fwR (true && true) f al si alt ze ((m : Nat) : Int) gr t.data.toList n = fwL f al si alt ze ((m : Nat) : Int) gr t.data.toList n from rfl]
    unfold fwL
    rw [if_neg hc, show ((m : Nat) : Int).toNat = m from rfl]
  · unfold fwOk suitW
    rw [v0, hs'.2, hi, show fwR (true && true && true) f al si alt ze 0 gr t.data.toList n = fwL f al si alt ze 0 gr t.data.toList n from rfl]
    unfold fwL
    rw [if_neg hc, show (0 : Int).toNat = 0 from rfl, whole_zero]
    rfl
  · rw [hrok]
    show resN (rwV gr t ⟨(txL si alt gr t.data.toList n).toArray⟩) (cutN (⟨(txL si alt gr t.data.toList n).toArray⟩ : ByteArray).data.toList) = n
    rw [hv, hcn, resN_back]
  · rw [hrok]
    show resB (rwV gr t ⟨(txL si alt gr t.data.toList n).toArray⟩) = true
    rw [hv]
    exact resB_pos (by omega)
theorem ok_of {f : ByteArray} {al si : Int} {alt ze : Bool} {wi gr pr : Int} {t : ByteArray} {n : Int} (h : fwOk (vSp f al si wi gr pr t) al si alt ze gr pr t n = true) :
    suitW (vSp f al si wi gr pr t) al si alt ze gr pr t 0 = true ∧ -999999999999 ≤ n ∧ n ≤ 999999999999 := by
  unfold fwOk at h
  rw [Bool.and_eq_true] at h
  exact ⟨h.1, by simpa only [inr, Bool.and_eq_true, decide_eq_true_eq] using h.2⟩
set_option maxRecDepth 100000 in
set_option maxHeartbeats 8000000 in
theorem FnFormatWhole_law (s : Option Addr) (len cap : Nat) (w : World) (hT : DT w) (hM : HasMax w) (hcode : CodeAt s len w.heap.size w) (hcap : len ≤ cap) :
    Calls Tryz.prog 3 #[.slice s len cap] w fun r w' => r = .returned (.bool true) ∧ Below w.heap.size w w' := by
  by_cases hl : 1048576 < len
  · go_enter Tryz.func3, Tryz.ntmps3
    go_wp2
    go_ret
    exact ⟨rfl, (by repeat (first | with_reducible exact Below.refl _ _ | with_reducible assumption | with_reducible refine Below.setCell ?_ (by first | omega | (simp; done) | (simp <;> omega)) _ | with_reducible refine below_drewN ?_ _ | with_reducible refine Below.drew ?_ | with_reducible refine Below.alloc ?_ (by first | omega | (simp; done) | (simp <;> omega)) _))⟩
  go_enter Tryz.func3, Tryz.ntmps3
  go_wp2_with (go_at_call 6; (with_reducible refine Calls.mono (DrawFormatWhole_any _ _ _ _ hcode hcap) ?_); rintro r w1 ⟨⟨f, al, si, alt, ze, wi, gr, pr, t, n, rfl⟩, hB⟩; have hz := hB.size)
  have k1 := fun W (h : DT W) => FormatWhole_any f al si alt ze wi gr pr t n W h
  have k2 := fun W => FormatWholeS_any f al si alt ze wi gr pr t n W
  have hXX : ∀ l : List UInt8, (l != l) = false := fun l => by simp
  have hXY : ∀ l : List UInt8, (l == l) = true := fun l => by simp
  have zs := C9.new w1 (.string f) (.int .i64 al) (.int .i64 si) (.bool alt) (.bool ze) (.int .i64 wi) (.int .i64 gr) (.int .i64 pr) (.string t) 24
  replace hB : Below w.heap.size w (w1.alloc (.cells #[.string f, .int .i64 al, .int .i64 si, .bool alt, .bool ze, .int .i64 wi, .int .i64 gr, .int .i64 pr, .string t] 24)) := hB.alloc (by omega) _
  have zz := zs
  obtain ⟨x0, x1, x2, x3, x4, x5, x6, x7, x8, xf, xl⟩ := zz
  by_cases hX : fwR (fwOk (vSp f al si wi gr pr t) al si alt ze gr pr t n) f al si alt ze wi gr t.data.toList n = []
  · rw [hX] at k1 k2
    have K1 := Lib.hid k1; have K2 := Lib.hid k2
    clear k1 k2 hX
    go_wp2_with (first | (go_at_call 7; (with_reducible refine Calls.mono (K1.out _ (hT.on (by repeat (first | with_reducible exact Below.refl _ _ | with_reducible assumption | with_reducible refine Below.setCell ?_ (by first | omega | (simp; done) | (simp <;> omega)) _ | with_reducible refine below_drewN ?_ _ | with_reducible refine Below.drew ?_ | with_reducible refine Below.alloc ?_ (by first | omega | (simp; done) | (simp <;> omega)) _)))) ?_); rintro r w2 ⟨rfl, hb⟩; have hBN : Below w.heap.size w w2 := (by refine Below.trans ?_ (hb.mono (by first | omega | (simp; done) | (simp <;> omega))); repeat (first | with_reducible exact Below.refl _ _ | with_reducible assumption | with_reducible refine Below.setCell ?_ (by first | omega | (simp; done) | (simp <;> omega)) _ | with_reducible refine below_drewN ?_ _ | with_reducible refine Below.drew ?_ | with_reducible refine Below.alloc ?_ (by first | omega | (simp; done) | (simp <;> omega)) _)); clear hB; have hB := hBN; clear hBN; have hz := hB.size; have zN := C9.carry_of zs (by repeat (first | with_reducible assumption | with_reducible apply C9.up | (with_reducible apply C9.far; (case hn => (first | omega | (simp; omega)))) | with_reducible apply C9.set0 | with_reducible apply C9.set1 | with_reducible apply C9.set2 | with_reducible apply C9.set3 | with_reducible apply C9.set4 | with_reducible apply C9.set5 | with_reducible apply C9.set6 | with_reducible apply C9.set7 | with_reducible apply C9.set8 | with_reducible apply C9.drew)) hb; clear zs; have zs := zN; clear zN; have zz := zs; obtain ⟨x0, x1, x2, x3, x4, x5, x6, x7, x8, xf, xl⟩ := zz) | (go_at_call 8; (with_reducible refine Calls.mono (K2.out _) ?_); rintro r w2 ⟨rfl, hb⟩; have hBN : Below w.heap.size w w2 := (by refine Below.trans ?_ (hb.mono (by first | omega | (simp; done) | (simp <;> omega))); repeat (first | with_reducible exact Below.refl _ _ | with_reducible assumption | with_reducible refine Below.setCell ?_ (by first | omega | (simp; done) | (simp <;> omega)) _ | with_reducible refine below_drewN ?_ _ | with_reducible refine Below.drew ?_ | with_reducible refine Below.alloc ?_ (by first | omega | (simp; done) | (simp <;> omega)) _)); clear hB; have hB := hBN; clear hBN; have hz := hB.size; have zN := C9.carry_of zs (by repeat (first | with_reducible assumption | with_reducible apply C9.up | (with_reducible apply C9.far; (case hn => (first | omega | (simp; omega)))) | with_reducible apply C9.set0 | with_reducible apply C9.set1 | with_reducible apply C9.set2 | with_reducible apply C9.set3 | with_reducible apply C9.set4 | with_reducible apply C9.set5 | with_reducible apply C9.set6 | with_reducible apply C9.set7 | with_reducible apply C9.set8 | with_reducible apply C9.drew)) hb; clear zs; have zs := zN; clear zN; have zz := zs; obtain ⟨x0, x1, x2, x3, x4, x5, x6, x7, x8, xf, xl⟩ := zz))
    all_goals go_ret
    all_goals exact ⟨rfl, hB⟩
  · have hok : fwOk (vSp f al si wi gr pr t) al si alt ze gr pr t n = true := by
      rw [← Bool.not_eq_false]
      intro h
      exact hX (by unfold fwR; rw [h]; rfl)
    have hXe : (fwR (fwOk (vSp f al si wi gr pr t) al si alt ze gr pr t n) f al si alt ze wi gr t.data.toList n).isEmpty = false := by
      rw [List.isEmpty_eq_false_iff]
      exact hX
    clear hX
    by_cases hc : t.data.toList = [99]
    · have et := of_list t
      rw [hc] at et
      subst et
      generalize fwR (fwOk (vSp f al si wi gr pr ⟨#[99]⟩) al si alt ze gr pr ⟨#[99]⟩ n) f al si alt ze wi gr (⟨#[99]⟩ : ByteArray).data.toList n = X at *
      have K1 := Lib.hid k1; have K2 := Lib.hid k2
      clear k1 k2 hok
      go_wp2_with (first | (go_at_call 7; (with_reducible refine Calls.mono (K1.out _ (hT.on (by repeat (first | with_reducible exact Below.refl _ _ | with_reducible assumption | with_reducible refine Below.setCell ?_ (by first | omega | (simp; done) | (simp <;> omega)) _ | with_reducible refine below_drewN ?_ _ | with_reducible refine Below.drew ?_ | with_reducible refine Below.alloc ?_ (by first | omega | (simp; done) | (simp <;> omega)) _)))) ?_); rintro r w2 ⟨rfl, hb⟩; have hBN : Below w.heap.size w w2 := (by refine Below.trans ?_ (hb.mono (by first | omega | (simp; done) | (simp <;> omega))); repeat (first | with_reducible exact Below.refl _ _ | with_reducible assumption | with_reducible refine Below.setCell ?_ (by first | omega | (simp; done) | (simp <;> omega)) _ | with_reducible refine below_drewN ?_ _ | with_reducible refine Below.drew ?_ | with_reducible refine Below.alloc ?_ (by first | omega | (simp; done) | (simp <;> omega)) _)); clear hB; have hB := hBN; clear hBN; have hz := hB.size; have zN := C9.carry_of zs (by repeat (first | with_reducible assumption | with_reducible apply C9.up | (with_reducible apply C9.far; (case hn => (first | omega | (simp; omega)))) | with_reducible apply C9.set0 | with_reducible apply C9.set1 | with_reducible apply C9.set2 | with_reducible apply C9.set3 | with_reducible apply C9.set4 | with_reducible apply C9.set5 | with_reducible apply C9.set6 | with_reducible apply C9.set7 | with_reducible apply C9.set8 | with_reducible apply C9.drew)) hb; clear zs; have zs := zN; clear zN; have zz := zs; obtain ⟨x0, x1, x2, x3, x4, x5, x6, x7, x8, xf, xl⟩ := zz) | (go_at_call 8; (with_reducible refine Calls.mono (K2.out _) ?_); rintro r w2 ⟨rfl, hb⟩; have hBN : Below w.heap.size w w2 := (by refine Below.trans ?_ (hb.mono (by first | omega | (simp; done) | (simp <;> omega))); repeat (first | with_reducible exact Below.refl _ _ | with_reducible assumption | with_reducible refine Below.setCell ?_ (by first | omega | (simp; done) | (simp <;> omega)) _ | with_reducible refine below_drewN ?_ _ | with_reducible refine Below.drew ?_ | with_reducible refine Below.alloc ?_ (by first | omega | (simp; done) | (simp <;> omega)) _)); clear hB; have hB := hBN; clear hBN; have hz := hB.size; have zN := C9.carry_of zs (by repeat (first | with_reducible assumption | with_reducible apply C9.up | (with_reducible apply C9.far; (case hn => (first | omega | (simp; omega)))) | with_reducible apply C9.set0 | with_reducible apply C9.set1 | with_reducible apply C9.set2 | with_reducible apply C9.set3 | with_reducible apply C9.set4 | with_reducible apply C9.set5 | with_reducible apply C9.set6 | with_reducible apply C9.set7 | with_reducible apply C9.set8 | with_reducible apply C9.drew)) hb; clear zs; have zs := zN; clear zN; have zz := zs; obtain ⟨x0, x1, x2, x3, x4, x5, x6, x7, x8, xf, xl⟩ := zz))
      all_goals go_ret
      all_goals exact ⟨rfl, hB⟩
    · have hb1 : (t.data.toList == [99]) = false := by simpa using hc
      obtain ⟨hs, hn⟩ := ok_of hok
      have k3 := fun W (h : DT W) => FormatWhole_any f al si alt ze 0 gr pr t n W h
      have hbk := back_of hs hn hc
      generalize wholeL (fcB f ze) (alW al ze 0) si alt wi.toNat gr t.data.toList n = X at *
      generalize txL si alt gr t.data.toList n = Y at *
      obtain ⟨b1, b2, b3, b4, b5, b6, b7, b8, b9, b10, b11⟩ := hbk
      have k4 := fun W (h : HasMax W) => ReadWhole_any f al si alt ze 0 gr pr t ⟨Y.toArray⟩ W (by show Y.length ≤ _; omega) h
      rw [b1] at k1 k2 hXe
      rw [b2] at k3
      rw [b3, b4] at k4
      clear b1 b2 b3 b4 hs hc hok
      have j1 : ¬ (X.length : Int) < wi := by omega
      have j2 : ¬ (X.length : Int) < Y.length := by omega
      have j3 : wi ≤ (X.length : Int) := by omega
      have j4 : (Y.length : Int) ≤ X.length := by omega
      have j5 : ¬ X.length < Y.length := by omega
      have hnn : (n == n) = true := by simp
      by_cases hwy : wi ≤ (Y.length : Int)
      · obtain rfl := b7 hwy
        have j6 : ¬ (X.length : Int) < wi := by omega
        have K1 := Lib.hid k1; have K2 := Lib.hid k2; have K3 := Lib.hid k3; have K4 := Lib.hid k4
        clear k1 k2 k3 k4 b5 b6 b7
        go_wp2_with (first | (go_at_call 7; (with_reducible refine Calls.mono (K1.out _ (hT.on (by repeat (first | with_reducible exact Below.refl _ _ | with_reducible assumption | with_reducible refine Below.setCell ?_ (by first | omega | (simp; done) | (simp <;> omega)) _ | with_reducible refine below_drewN ?_ _ | with_reducible refine Below.drew ?_ | with_reducible refine Below.alloc ?_ (by first | omega | (simp; done) | (simp <;> omega)) _)))) ?_); rintro r w2 ⟨rfl, hb⟩; have hBN : Below w.heap.size w w2 := (by refine Below.trans ?_ (hb.mono (by first | omega | (simp; done) | (simp <;> omega))); repeat (first | with_reducible exact Below.refl _ _ | with_reducible assumption | with_reducible refine Below.setCell ?_ (by first | omega | (simp; done) | (simp <;> omega)) _ | with_reducible refine below_drewN ?_ _ | with_reducible refine Below.drew ?_ | with_reducible refine Below.alloc ?_ (by first | omega | (simp; done) | (simp <;> omega)) _)); clear hB; have hB := hBN; clear hBN; have hz := hB.size; have zN := C9.carry_of zs (by repeat (first | with_reducible assumption | with_reducible apply C9.up | (with_reducible apply C9.far; (case hn => (first | omega | (simp; omega)))) | with_reducible apply C9.set0 | with_reducible apply C9.set1 | with_reducible apply C9.set2 | with_reducible apply C9.set3 | with_reducible apply C9.set4 | with_reducible apply C9.set5 | with_reducible apply C9.set6 | with_reducible apply C9.set7 | with_reducible apply C9.set8 | with_reducible apply C9.drew)) hb; clear zs; have zs := zN; clear zN; have zz := zs; obtain ⟨x0, x1, x2, x3, x4, x5, x6, x7, x8, xf, xl⟩ := zz) | (go_at_call 8; (with_reducible refine Calls.mono (K2.out _) ?_); rintro r w2 ⟨rfl, hb⟩; have hBN : Below w.heap.size w w2 := (by refine Below.trans ?_ (hb.mono (by first | omega | (simp; done) | (simp <;> omega))); repeat (first | with_reducible exact Below.refl _ _ | with_reducible assumption | with_reducible refine Below.setCell ?_ (by first | omega | (simp; done) | (simp <;> omega)) _ | with_reducible refine below_drewN ?_ _ | with_reducible refine Below.drew ?_ | with_reducible refine Below.alloc ?_ (by first | omega | (simp; done) | (simp <;> omega)) _)); clear hB; have hB := hBN; clear hBN; have hz := hB.size; have zN := C9.carry_of zs (by repeat (first | with_reducible assumption | with_reducible apply C9.up | (with_reducible apply C9.far; (case hn => (first | omega | (simp; omega)))) | with_reducible apply C9.set0 | with_reducible apply C9.set1 | with_reducible apply C9.set2 | with_reducible apply C9.set3 | with_reducible apply C9.set4 | with_reducible apply C9.set5 | with_reducible apply C9.set6 | with_reducible apply C9.set7 | with_reducible apply C9.set8 | with_reducible apply C9.drew)) hb; clear zs; have zs := zN; clear zN; have zz := zs; obtain ⟨x0, x1, x2, x3, x4, x5, x6, x7, x8, xf, xl⟩ := zz) | (go_at_call 7; (with_reducible refine Calls.mono (K3.out _ (hT.on (by repeat (first | with_reducible exact Below.refl _ _ | with_reducible assumption | with_reducible refine Below.setCell ?_ (by first | omega | (simp; done) | (simp <;> omega)) _ | with_reducible refine below_drewN ?_ _ | with_reducible refine Below.drew ?_ | with_reducible refine Below.alloc ?_ (by first | omega | (simp; done) | (simp <;> omega)) _)))) ?_); rintro r w3 ⟨rfl, hb⟩; have hBN : Below w.heap.size w w3 := (by refine Below.trans ?_ (hb.mono (by first | omega | (simp; done) | (simp <;> omega))); repeat (first | with_reducible exact Below.refl _ _ | with_reducible assumption | with_reducible refine Below.setCell ?_ (by first | omega | (simp; done) | (simp <;> omega)) _ | with_reducible refine below_drewN ?_ _ | with_reducible refine Below.drew ?_ | with_reducible refine Below.alloc ?_ (by first | omega | (simp; done) | (simp <;> omega)) _)); clear hB; have hB := hBN; clear hBN; have hz := hB.size; have zN := C9.carry_of zs (by repeat (first | with_reducible assumption | with_reducible apply C9.up | (with_reducible apply C9.far; (case hn => (first | omega | (simp; omega)))) | with_reducible apply C9.set0 | with_reducible apply C9.set1 | with_reducible apply C9.set2 | with_reducible apply C9.set3 | with_reducible apply C9.set4 | with_reducible apply C9.set5 | with_reducible apply C9.set6 | with_reducible apply C9.set7 | with_reducible apply C9.set8 | with_reducible apply C9.drew)) hb; clear zs; have zs := zN; clear zN; have zz := zs; obtain ⟨x0, x1, x2, x3, x4, x5, x6, x7, x8, xf, xl⟩ := zz; have zt := C9.carry (C9.new w2 (.string f) (.int .i64 al) (.int .i64 si) (.bool alt) (.bool ze) (.int .i64 0) (.int .i64 gr) (.int .i64 pr) (.string t) 24) hb; have zz2 := zt; obtain ⟨y0, y1, y2, y3, y4, y5, y6, y7, y8, yf, yl⟩ := zz2) | (go_at_call 9; (with_reducible refine Calls.mono (K4.out _ (hM.on (by repeat (first | with_reducible exact Below.refl _ _ | with_reducible assumption | with_reducible refine Below.setCell ?_ (by first | omega | (simp; done) | (simp <;> omega)) _ | with_reducible refine below_drewN ?_ _ | with_reducible refine Below.drew ?_ | with_reducible refine Below.alloc ?_ (by first | omega | (simp; done) | (simp <;> omega)) _)))) ?_); rintro r w4 ⟨rfl, hb⟩; have hBN : Below w.heap.size w w4 := (by refine Below.trans ?_ (hb.mono (by first | omega | (simp; done) | (simp <;> omega))); repeat (first | with_reducible exact Below.refl _ _ | with_reducible assumption | with_reducible refine Below.setCell ?_ (by first | omega | (simp; done) | (simp <;> omega)) _ | with_reducible refine below_drewN ?_ _ | with_reducible refine Below.drew ?_ | with_reducible refine Below.alloc ?_ (by first | omega | (simp; done) | (simp <;> omega)) _)); clear hB; have hB := hBN; clear hBN; have hz := hB.size; have zN := C9.carry_of zs (by repeat (first | with_reducible assumption | with_reducible apply C9.up | (with_reducible apply C9.far; (case hn => (first | omega | (simp; omega)))) | with_reducible apply C9.set0 | with_reducible apply C9.set1 | with_reducible apply C9.set2 | with_reducible apply C9.set3 | with_reducible apply C9.set4 | with_reducible apply C9.set5 | with_reducible apply C9.set6 | with_reducible apply C9.set7 | with_reducible apply C9.set8 | with_reducible apply C9.drew)) hb; clear zs; have zs := zN; clear zN; have zz := zs; obtain ⟨x0, x1, x2, x3, x4, x5, x6, x7, x8, xf, xl⟩ := zz))
        all_goals go_ret
        all_goals exact ⟨rfl, hB⟩
      · have j6 : (Y.length : Int) < wi := by omega
        have K1 := Lib.hid k1; have K2 := Lib.hid k2; have K3 := Lib.hid k3; have K4 := Lib.hid k4
        clear k1 k2 k3 k4 b5 b6 b7
        go_wp2_with (first | (go_at_call 7; (with_reducible refine Calls.mono (K1.out _ (hT.on (by repeat (first | with_reducible exact Below.refl _ _ | with_reducible assumption | with_reducible refine Below.setCell ?_ (by first | omega | (simp; done) | (simp <;> omega)) _ | with_reducible refine below_drewN ?_ _ | with_reducible refine Below.drew ?_ | with_reducible refine Below.alloc ?_ (by first | omega | (simp; done) | (simp <;> omega)) _)))) ?_); rintro r w2 ⟨rfl, hb⟩; have hBN : Below w.heap.size w w2 := (by refine Below.trans ?_ (hb.mono (by first | omega | (simp; done) | (simp <;> omega))); repeat (first | with_reducible exact Below.refl _ _ | with_reducible assumption | with_reducible refine Below.setCell ?_ (by first | omega | (simp; done) | (simp <;> omega)) _ | with_reducible refine below_drewN ?_ _ | with_reducible refine Below.drew ?_ | with_reducible refine Below.alloc ?_ (by first | omega | (simp; done) | (simp <;> omega)) _)); clear hB; have hB := hBN; clear hBN; have hz := hB.size; have zN := C9.carry_of zs (by repeat (first | with_reducible assumption | with_reducible apply C9.up | (with_reducible apply C9.far; (case hn => (first | omega | (simp; omega)))) | with_reducible apply C9.set0 | with_reducible apply C9.set1 | with_reducible apply C9.set2 | with_reducible apply C9.set3 | with_reducible apply C9.set4 | with_reducible apply C9.set5 | with_reducible apply C9.set6 | with_reducible apply C9.set7 | with_reducible apply C9.set8 | with_reducible apply C9.drew)) hb; clear zs; have zs := zN; clear zN; have zz := zs; obtain ⟨x0, x1, x2, x3, x4, x5, x6, x7, x8, xf, xl⟩ := zz) | (go_at_call 8; (with_reducible refine Calls.mono (K2.out _) ?_); rintro r w2 ⟨rfl, hb⟩; have hBN : Below w.heap.size w w2 := (by refine Below.trans ?_ (hb.mono (by first | omega | (simp; done) | (simp <;> omega))); repeat (first | with_reducible exact Below.refl _ _ | with_reducible assumption | with_reducible refine Below.setCell ?_ (by first | omega | (simp; done) | (simp <;> omega)) _ | with_reducible refine below_drewN ?_ _ | with_reducible refine Below.drew ?_ | with_reducible refine Below.alloc ?_ (by first | omega | (simp; done) | (simp <;> omega)) _)); clear hB; have hB := hBN; clear hBN; have hz := hB.size; have zN := C9.carry_of zs (by repeat (first | with_reducible assumption | with_reducible apply C9.up | (with_reducible apply C9.far; (case hn => (first | omega | (simp; omega)))) | with_reducible apply C9.set0 | with_reducible apply C9.set1 | with_reducible apply C9.set2 | with_reducible apply C9.set3 | with_reducible apply C9.set4 | with_reducible apply C9.set5 | with_reducible apply C9.set6 | with_reducible apply C9.set7 | with_reducible apply C9.set8 | with_reducible apply C9.drew)) hb; clear zs; have zs := zN; clear zN; have zz := zs; obtain ⟨x0, x1, x2, x3, x4, x5, x6, x7, x8, xf, xl⟩ := zz) | (go_at_call 7; (with_reducible refine Calls.mono (K3.out _ (hT.on (by repeat (first | with_reducible exact Below.refl _ _ | with_reducible assumption | with_reducible refine Below.setCell ?_ (by first | omega | (simp; done) | (simp <;> omega)) _ | with_reducible refine below_drewN ?_ _ | with_reducible refine Below.drew ?_ | with_reducible refine Below.alloc ?_ (by first | omega | (simp; done) | (simp <;> omega)) _)))) ?_); rintro r w3 ⟨rfl, hb⟩; have hBN : Below w.heap.size w w3 := (by refine Below.trans ?_ (hb.mono (by first | omega | (simp; done) | (simp <;> omega))); repeat (first | with_reducible exact Below.refl _ _ | with_reducible assumption | with_reducible refine Below.setCell ?_ (by first | omega | (simp; done) | (simp <;> omega)) _ | with_reducible refine below_drewN ?_ _ | with_reducible refine Below.drew ?_ | with_reducible refine Below.alloc ?_ (by first | omega | (simp; done) | (simp <;> omega)) _)); clear hB; have hB := hBN; clear hBN; have hz := hB.size; have zN := C9.carry_of zs (by repeat (first | with_reducible assumption | with_reducible apply C9.up | (with_reducible apply C9.far; (case hn => (first | omega | (simp; omega)))) | with_reducible apply C9.set0 | with_reducible apply C9.set1 | with_reducible apply C9.set2 | with_reducible apply C9.set3 | with_reducible apply C9.set4 | with_reducible apply C9.set5 | with_reducible apply C9.set6 | with_reducible apply C9.set7 | with_reducible apply C9.set8 | with_reducible apply C9.drew)) hb; clear zs; have zs := zN; clear zN; have zz := zs; obtain ⟨x0, x1, x2, x3, x4, x5, x6, x7, x8, xf, xl⟩ := zz; have zt := C9.carry (C9.new w2 (.string f) (.int .i64 al) (.int .i64 si) (.bool alt) (.bool ze) (.int .i64 0) (.int .i64 gr) (.int .i64 pr) (.string t) 24) hb; have zz2 := zt; obtain ⟨y0, y1, y2, y3, y4, y5, y6, y7, y8, yf, yl⟩ := zz2) | (go_at_call 9; (with_reducible refine Calls.mono (K4.out _ (hM.on (by repeat (first | with_reducible exact Below.refl _ _ | with_reducible assumption | with_reducible refine Below.setCell ?_ (by first | omega | (simp; done) | (simp <;> omega)) _ | with_reducible refine below_drewN ?_ _ | with_reducible refine Below.drew ?_ | with_reducible refine Below.alloc ?_ (by first | omega | (simp; done) | (simp <;> omega)) _)))) ?_); rintro r w4 ⟨rfl, hb⟩; have hBN : Below w.heap.size w w4 := (by refine Below.trans ?_ (hb.mono (by first | omega | (simp; done) | (simp <;> omega))); repeat (first | with_reducible exact Below.refl _ _ | with_reducible assumption | with_reducible refine Below.setCell ?_ (by first | omega | (simp; done) | (simp <;> omega)) _ | with_reducible refine below_drewN ?_ _ | with_reducible refine Below.drew ?_ | with_reducible refine Below.alloc ?_ (by first | omega | (simp; done) | (simp <;> omega)) _)); clear hB; have hB := hBN; clear hBN; have hz := hB.size; have zN := C9.carry_of zs (by repeat (first | with_reducible assumption | with_reducible apply C9.up | (with_reducible apply C9.far; (case hn => (first | omega | (simp; omega)))) | with_reducible apply C9.set0 | with_reducible apply C9.set1 | with_reducible apply C9.set2 | with_reducible apply C9.set3 | with_reducible apply C9.set4 | with_reducible apply C9.set5 | with_reducible apply C9.set6 | with_reducible apply C9.set7 | with_reducible apply C9.set8 | with_reducible apply C9.drew)) hb; clear zs; have zs := zN; clear zN; have zz := zs; obtain ⟨x0, x1, x2, x3, x4, x5, x6, x7, x8, xf, xl⟩ := zz))
        all_goals go_ret
        all_goals exact ⟨rfl, hB⟩
end Go.Proofs.YtcbpocpkfmbaoaaGreatDoor
