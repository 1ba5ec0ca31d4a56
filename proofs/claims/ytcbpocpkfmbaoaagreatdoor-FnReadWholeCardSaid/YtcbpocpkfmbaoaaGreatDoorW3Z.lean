import Derived.Test.YtcbpocpkfmbaoaaGreatDoorW2Z
import Derived.Test.YtcbpocpkfmbaoaaGreatDoorZR3
namespace Go.Proofs.YtcbpocpkfmbaoaaGreatDoor
open Go.RowKit
theorem grpV_max (gr : Int) (t D : List UInt8) : grpV gr t D ≤ 999999999999 := by
  unfold grpV
  split
  · exact bnd rfl
  · split
    · exact bnd rfl
    · omega
theorem read_ok {v : Bool} {al si : Int} {alt ze : Bool} {gr pr : Int} {t x : ByteArray} (h : rwB (rwOk v al si alt ze gr pr t x) gr t x = true) :
    suitW v al si alt ze gr pr t 0 = true ∧ ¬ t.data.toList = [99] ∧ -999999999999 ≤ rwN (rwOk v al si alt ze gr pr t x) gr t x ∧ rwN (rwOk v al si alt ze gr pr t x) gr t x ≤ 999999999999 := by
  cases hok : rwOk v al si alt ze gr pr t x
  · rw [hok] at h; cases h
  · rw [hok] at h
    have hb : resB (rwV gr t x) = true := h
    have h0 : ¬ rwV gr t x < 0 := by
      intro hl
      rw [resB_neg hl] at hb
      cases hb
    have h1 : rwV gr t x ≤ 999999999999 := grpV_max _ _ _
    unfold rwOk at hok
    simp only [Bool.and_eq_true, Bool.not_eq_true', beq_eq_false_iff_ne] at hok
    refine ⟨hok.1, hok.2.1, ?_⟩
    show -999999999999 ≤ resN (rwV gr t x) (cutN x.data.toList) ∧ resN (rwV gr t x) (cutN x.data.toList) ≤ 999999999999
    unfold resN
    rw [if_neg h0]
    split <;> omega
set_option maxRecDepth 100000 in
set_option maxHeartbeats 8000000 in
theorem FnReadWhole_law (s : Option Addr) (len cap : Nat) (w : World) (hT : DT w) (hM : HasMax w) (hcode : CodeAt s len w.heap.size w) (hcap : len ≤ cap) :
    Calls Tryz.prog 5 #[.slice s len cap] w fun r w' => r = .returned (.bool true) ∧ Below w.heap.size w w' := by
  by_cases hl : 1048576 < len
  · go_enter Tryz.func5, Tryz.ntmps5
    go_wp2
    go_ret
    exact ⟨rfl, (by repeat (first | with_reducible exact Below.refl _ _ | with_reducible assumption | with_reducible refine Below.setCell ?_ (by first | omega | (simp; done) | (simp <;> omega)) _ | with_reducible refine below_drewN ?_ _ | with_reducible refine Below.drew ?_ | with_reducible refine Below.alloc ?_ (by first | omega | (simp; done) | (simp <;> omega)) _))⟩
  go_enter Tryz.func5, Tryz.ntmps5
  go_wp2_with (go_at_call 13; (with_reducible refine Calls.mono (DrawReadWhole_any _ _ _ _ hcode hcap) ?_); rintro r w1 ⟨⟨f, al, si, alt, ze, wi, gr, pr, t, x, rfl, hx⟩, hB⟩; have hz := hB.size)
  have k1 := fun W (h : HasMax W) => ReadWhole_any f al si alt ze wi gr pr t x W (by omega) h
  have k2 := fun W => ReadWholeS_any f al si alt ze wi gr pr t x W (by omega)
  have zs := C9.new w1 (.string f) (.int .i64 al) (.int .i64 si) (.bool alt) (.bool ze) (.int .i64 wi) (.int .i64 gr) (.int .i64 pr) (.string t) 24
  replace hB : Below w.heap.size w (w1.alloc (.cells #[.string f, .int .i64 al, .int .i64 si, .bool alt, .bool ze, .int .i64 wi, .int .i64 gr, .int .i64 pr, .string t] 24)) := hB.alloc (by omega) _
  have zz := zs
  obtain ⟨x0, x1, x2, x3, x4, x5, x6, x7, x8, xf, xl⟩ := zz
  cases hb : rwB (rwOk (vSp f al si wi gr pr t) al si alt ze gr pr t x) gr t x
  · rw [hb] at k1 k2
    generalize rwN (rwOk (vSp f al si wi gr pr t) al si alt ze gr pr t x) gr t x = N at *
    have hNN : (N == N) = true := by simp
    have K1 := Lib.hid k1; have K2 := Lib.hid k2
    clear k1 k2 hb
    go_wp2_with (first | (go_at_call 9; (with_reducible refine Calls.mono (K1.out _ (hM.on (by repeat (first | with_reducible exact Below.refl _ _ | with_reducible assumption | with_reducible refine Below.setCell ?_ (by first | omega | (simp; done) | (simp <;> omega)) _ | with_reducible refine below_drewN ?_ _ | with_reducible refine Below.drew ?_ | with_reducible refine Below.alloc ?_ (by first | omega | (simp; done) | (simp <;> omega)) _)))) ?_); rintro r w2 ⟨rfl, hb⟩; have hBN : Below w.heap.size w w2 := (by refine Below.trans ?_ (hb.mono (by first | omega | (simp; done) | (simp <;> omega))); repeat (first | with_reducible exact Below.refl _ _ | with_reducible assumption | with_reducible refine Below.setCell ?_ (by first | omega | (simp; done) | (simp <;> omega)) _ | with_reducible refine below_drewN ?_ _ | with_reducible refine Below.drew ?_ | with_reducible refine Below.alloc ?_ (by first | omega | (simp; done) | (simp <;> omega)) _)); clear hB; have hB := hBN; clear hBN; have hz := hB.size; have zN := C9.carry_of zs (by repeat (first | with_reducible assumption | with_reducible apply C9.up | (with_reducible apply C9.far; (case hn => (first | omega | (simp; omega)))) | with_reducible apply C9.set0 | with_reducible apply C9.set1 | with_reducible apply C9.set2 | with_reducible apply C9.set3 | with_reducible apply C9.set4 | with_reducible apply C9.set5 | with_reducible apply C9.set6 | with_reducible apply C9.set7 | with_reducible apply C9.set8 | with_reducible apply C9.drew)) hb; clear zs; have zs := zN; clear zN; have zz := zs; obtain ⟨x0, x1, x2, x3, x4, x5, x6, x7, x8, xf, xl⟩ := zz) | (go_at_call 14; (with_reducible refine Calls.mono (K2.out _) ?_); rintro r w2 ⟨rfl, hb⟩; have hBN : Below w.heap.size w w2 := (by refine Below.trans ?_ (hb.mono (by first | omega | (simp; done) | (simp <;> omega))); repeat (first | with_reducible exact Below.refl _ _ | with_reducible assumption | with_reducible refine Below.setCell ?_ (by first | omega | (simp; done) | (simp <;> omega)) _ | with_reducible refine below_drewN ?_ _ | with_reducible refine Below.drew ?_ | with_reducible refine Below.alloc ?_ (by first | omega | (simp; done) | (simp <;> omega)) _)); clear hB; have hB := hBN; clear hBN; have hz := hB.size; have zN := C9.carry_of zs (by repeat (first | with_reducible assumption | with_reducible apply C9.up | (with_reducible apply C9.far; (case hn => (first | omega | (simp; omega)))) | with_reducible apply C9.set0 | with_reducible apply C9.set1 | with_reducible apply C9.set2 | with_reducible apply C9.set3 | with_reducible apply C9.set4 | with_reducible apply C9.set5 | with_reducible apply C9.set6 | with_reducible apply C9.set7 | with_reducible apply C9.set8 | with_reducible apply C9.drew)) hb; clear zs; have zs := zN; clear zN; have zz := zs; obtain ⟨x0, x1, x2, x3, x4, x5, x6, x7, x8, xf, xl⟩ := zz))
    all_goals go_ret
    all_goals exact ⟨rfl, hB⟩
  · obtain ⟨hs, hc, hn⟩ := read_ok hb
    rw [hb] at k1 k2
    generalize rwN (rwOk (vSp f al si wi gr pr t) al si alt ze gr pr t x) gr t x = n at *
    have hbk := back_of hs hn hc
    obtain ⟨_, b2, b3, b4, _, _, _, b8, _, _, _⟩ := hbk
    generalize txL si alt gr t.data.toList n = Y at *
    have k3 := fun W (h : DT W) => FormatWhole_any f al si alt ze 0 gr pr t n W h
    have k4 := fun W (h : HasMax W) => ReadWhole_any f al si alt ze 0 gr pr t ⟨Y.toArray⟩ W (by show Y.length ≤ _; omega) h
    rw [b2] at k3
    rw [b3, b4] at k4
    have hNN : (n == n) = true := by simp
    have K1 := Lib.hid k1; have K2 := Lib.hid k2; have K3 := Lib.hid k3; have K4 := Lib.hid k4
    clear k1 k2 k3 k4 b2 b3 b4 hs hc hb
    go_wp2_with (first | (go_at_call 9; (with_reducible refine Calls.mono (K1.out _ (hM.on (by repeat (first | with_reducible exact Below.refl _ _ | with_reducible assumption | with_reducible refine Below.setCell ?_ (by first | omega | (simp; done) | (simp <;> omega)) _ | with_reducible refine below_drewN ?_ _ | with_reducible refine Below.drew ?_ | with_reducible refine Below.alloc ?_ (by first | omega | (simp; done) | (simp <;> omega)) _)))) ?_); rintro r w2 ⟨rfl, hb⟩; have hBN : Below w.heap.size w w2 := (by refine Below.trans ?_ (hb.mono (by first | omega | (simp; done) | (simp <;> omega))); repeat (first | with_reducible exact Below.refl _ _ | with_reducible assumption | with_reducible refine Below.setCell ?_ (by first | omega | (simp; done) | (simp <;> omega)) _ | with_reducible refine below_drewN ?_ _ | with_reducible refine Below.drew ?_ | with_reducible refine Below.alloc ?_ (by first | omega | (simp; done) | (simp <;> omega)) _)); clear hB; have hB := hBN; clear hBN; have hz := hB.size; have zN := C9.carry_of zs (by repeat (first | with_reducible assumption | with_reducible apply C9.up | (with_reducible apply C9.far; (case hn => (first | omega | (simp; omega)))) | with_reducible apply C9.set0 | with_reducible apply C9.set1 | with_reducible apply C9.set2 | with_reducible apply C9.set3 | with_reducible apply C9.set4 | with_reducible apply C9.set5 | with_reducible apply C9.set6 | with_reducible apply C9.set7 | with_reducible apply C9.set8 | with_reducible apply C9.drew)) hb; clear zs; have zs := zN; clear zN; have zz := zs; obtain ⟨x0, x1, x2, x3, x4, x5, x6, x7, x8, xf, xl⟩ := zz) | (go_at_call 14; (with_reducible refine Calls.mono (K2.out _) ?_); rintro r w2 ⟨rfl, hb⟩; have hBN : Below w.heap.size w w2 := (by refine Below.trans ?_ (hb.mono (by first | omega | (simp; done) | (simp <;> omega))); repeat (first | with_reducible exact Below.refl _ _ | with_reducible assumption | with_reducible refine Below.setCell ?_ (by first | omega | (simp; done) | (simp <;> omega)) _ | with_reducible refine below_drewN ?_ _ | with_reducible refine Below.drew ?_ | with_reducible refine Below.alloc ?_ (by first | omega | (simp; done) | (simp <;> omega)) _)); clear hB; have hB := hBN; clear hBN; have hz := hB.size; have zN := C9.carry_of zs (by repeat (first | with_reducible assumption | with_reducible apply C9.up | (with_reducible apply C9.far; (case hn => (first | omega | (simp; omega)))) | with_reducible apply C9.set0 | with_reducible apply C9.set1 | with_reducible apply C9.set2 | with_reducible apply C9.set3 | with_reducible apply C9.set4 | with_reducible apply C9.set5 | with_reducible apply C9.set6 | with_reducible apply C9.set7 | with_reducible apply C9.set8 | with_reducible apply C9.drew)) hb; clear zs; have zs := zN; clear zN; have zz := zs; obtain ⟨x0, x1, x2, x3, x4, x5, x6, x7, x8, xf, xl⟩ := zz))
    have zt := C9.new w2 (.string f) (.int .i64 al) (.int .i64 si) (.bool alt) (.bool ze) (.int .i64 0) (.int .i64 gr) (.int .i64 pr) (.string t) 24
    replace zs := C9.up zs (.cells #[.string f, .int .i64 al, .int .i64 si, .bool alt, .bool ze, .int .i64 0, .int .i64 gr, .int .i64 pr, .string t] 24)
    replace hB : Below w.heap.size w (w2.alloc (.cells #[.string f, .int .i64 al, .int .i64 si, .bool alt, .bool ze, .int .i64 0, .int .i64 gr, .int .i64 pr, .string t] 24)) := hB.alloc (by omega) _
    obtain ⟨szs0, szs1, szs2, szs3, szs4, szs5, szs6, szs7, szs8⟩ := C9.since zs
    obtain ⟨szt0, szt1, szt2, szt3, szt4, szt5, szt6, szt7, szt8⟩ := C9.since zt
    refine wp_region_since (by kernel_rfl) (by kernel_rfl) ?_
    repeat (quiet_step (first | (go_at_call 7; with_reducible exact Calls.since_of (K3.out _ (hT.on (hB.trans ((Since.h _).mono hB.size))))) | (go_at_call 9; with_reducible exact Calls.since_of (K4.out _ (hM.on (hB.trans ((Since.h _).mono hB.size)))))))
    refine wpQuiet_nil ?_
    intro w_ hw_
    obtain ⟨⟨w1, hb⟩, hw2⟩ := hw_
    have hw3 : w1 = w_ := hw2.symm
    clear hw2
    subst hw3
    clear szs0 szs1 szs2 szs3 szs4 szs5 szs6 szs7 szs8 szt0 szt1 szt2 szt3 szt4 szt5 szt6 szt7 szt8
    replace hB := hB.trans (hb.mono hB.size)
    have hz := hb.size
    replace zs := C9.carry zs hb
    have zz := zs
    obtain ⟨x0, x1, x2, x3, x4, x5, x6, x7, x8, x9, xl⟩ := zz
    replace zt := C9.carry zt hb
    have zz := zt
    obtain ⟨x0, x1, x2, x3, x4, x5, x6, x7, x8, x9, xl⟩ := zz
    go_wp2
    all_goals go_ret
    all_goals exact ⟨rfl, hB⟩
end Go.Proofs.YtcbpocpkfmbaoaaGreatDoor
