/- Promise 37: proved for every input. No condition. The tables of the library that the row lists are tied to their text, or pinned. -/
import Derived.Test.YtejganoipbblcaaGreatDoorGP
import Derived.Test.YtejganoipbblcaaGreatDoorRC
import Derived.Test.YtejganoipbblcaaGreatDoorZ10
import Derived.Test.YtejganoipbblcaaGreatDoorC7
import Derived.Test.YtejganoipbblcaaGreatDoorTie
import Derived.Test.YtejganoipbblcaaGreatDoorCards
import Derived.LaidMore
import Derived.Lib.LaidTab
import Derived.Stop.LaidErr
import Derived.Handy
import Derived.Deep.LoopGhost
import Derived.Lay
import Derived.OpenShut
import Derived.Stop.Joined
import Derived.SevenTiedAt
namespace Go.Proofs.YtejganoipbblcaaGreatDoor
open Go Go.ChangeShapes Go.WideShapes Go.ChangeAt Go.WideMaps Go.WideElems Go.RowKit Go.Joins Go.ChangeMaps
/-- a hundred times as much has the same digits -/
theorem pct_same {n : Bool} {c e : Int} (hv : Fd.vld ⟨n, c, e⟩ = true) (hs : (Fd.shiftI ⟨n, c, e⟩ 2).2 = true) (P : Nat) :
    (Fd.shiftI ⟨n, c, e⟩ 2).1.n = n ∧ fxA (Fd.shiftI ⟨n, c, e⟩ 2).1.c (Fd.shiftI ⟨n, c, e⟩ 2).1.e P = fxA c (e + 2) P ∧ fxB (Fd.shiftI ⟨n, c, e⟩ 2).1.c (Fd.shiftI ⟨n, c, e⟩ 2).1.e P = fxB c (e + 2) P ∧
      Fd.vld ⟨(Fd.shiftI ⟨n, c, e⟩ 2).1.n, (Fd.shiftI ⟨n, c, e⟩ 2).1.c, (Fd.shiftI ⟨n, c, e⟩ 2).1.e⟩ = true := by
  have hP := Fd.vld_iff.1 hv
  have hF := Fd.shift_ok (k := 2) hP (by omega) (by omega)
  rcases hF with ⟨_, hn, hV⟩ | ⟨h2, _⟩
  · generalize Fd.shiftI ⟨n, c, e⟩ 2 = r at *
    obtain ⟨⟨n', c', e'⟩, b⟩ := r
    obtain ⟨hvP, _⟩ := hn
    have hP' := hvP
    unfold Fd.vldP at hP hP'
    simp only at hP hP' hV
    have hS := Fd.V_sign (a := ⟨n', c', e'⟩) (b := ⟨n, c, e + 2⟩) (by simp only; omega) (by simp only; intro h; first | exact hP'.2.2.2.2 h | omega) (by simp only; omega) (by simp only; intro h; first | exact hP.2.2.2.2 h | omega) hV
    obtain ⟨hn1, hU⟩ := hS
    simp only at hn1 hU
    have hD : fxD c' e' P = fxD c (e + 2) P := by
      by_cases h0 : c = 0
      · have h1 : c' = 0 := by
          rcases Int.lt_or_le 0 c' with h | h
          · have := Fd.U_pos (e := e') h
            rw [hU, h0, Fd.U_zero] at this
            omega
          · omega
        subst h0; subst h1
        unfold fxD
        rw [fxC_zero, fxC_zero]
        rfl
      · have h1 : 0 < c' := by
          rcases Int.lt_or_le 0 c' with h | h
          · exact h
          · exfalso
            have h3 : c' = 0 := by omega
            have := Fd.U_pos (c := c) (e := e + 2) (by omega)
            rw [← hU, h3, Fd.U_zero] at this
            omega
        exact fxD_same P h1 (by omega) (by omega) (by omega) (by omega) (by omega) hU
    have hAB := fxAB_same P hD
    exact ⟨hn1, hAB.1, hAB.2, Fd.vld_iff.2 hvP⟩
  · rw [hs] at h2; cases h2
theorem rOk_type {f : ByteArray} {al si : Int} {wi gr pr : Int} {t : ByteArray} {n : Bool} {c e : Int} (b : UInt8) (hb : b = 37 ∨ b = 102) (V : VS f al si wi gr pr t) (hd : Fd.vld ⟨n, c, e⟩ = true) : rOk ⟨#[]⟩ 0 si false false 0 gr pr ⟨#[b]⟩ n c e = true := by
  unfold rOk grB
  have h1 : vSp ⟨#[]⟩ 0 si 0 gr pr ⟨#[b]⟩ = true := by
    simp only [vSp, inr, Bool.and_eq_true, decide_eq_true_eq]
    refine ⟨⟨⟨⟨⟨⟨⟨by omega, by omega⟩, V.si0, V.si3⟩, V.gr0, V.gr2⟩, by omega, by omega⟩, V.pr0, V.pr9⟩, rfl⟩, ?_⟩
    rcases hb with rfl | rfl <;> rfl
  have h2 : suitT 0 si false false gr pr ⟨#[b]⟩ 1 = true := by rcases hb with rfl | rfl <;> rfl
  rw [h1, h2, hd]
  rfl
theorem frZ_pct {si gr : Int} {n : Bool} {A B : List UInt8} : frZ si false gr n A B [37] = frZ si false gr n A B [] ++ [37] := by
  unfold frZ
  rw [rest_split]
  simp only [List.append_assoc]
set_option maxHeartbeats 1000000 in
theorem ShiftDec_any (n : Bool) (c e k : Int) (w : World) :
    Calls Tryz.prog 24 #[.agg #[.bool n, .int .i64 c, .int .i64 e], .int .i64 k] w fun r w' =>
      r = .returned (.tuple #[.agg #[.bool (Fd.shiftI ⟨n, c, e⟩ k).1.n, .int .i64 (Fd.shiftI ⟨n, c, e⟩ k).1.c, .int .i64 (Fd.shiftI ⟨n, c, e⟩ k).1.e], .bool (Fd.shiftI ⟨n, c, e⟩ k).2]) ∧ Below w.heap.size w w' := by
  by_cases hk : -12 ≤ k ∧ k ≤ 12
  · obtain ⟨k1, k2⟩ := hk
    cases hv : Fd.vld ⟨n, c, e⟩
    · have HF : Hid (Fd.shiftI ⟨n, c, e⟩ k = (Fd.D.z, false)) := Lib.hid (by unfold Fd.shiftI; rw [hv]; rfl)
      go_enter Tryz.func24, Tryz.ntmps24
      go_wp2_with (go_at_call 74; refine (valid_any _ _ _ _).mono ?_; rintro r w1 ⟨rfl, hb⟩; obtain ⟨hc, hf⟩ := bcell hb; have hB : Below w.heap.size w w1 := (by refine Below.trans ?_ (hb.mono (by first | omega | (simp; done) | (simp <;> omega))); repeat (first | with_reducible exact Below.refl _ _ | with_reducible assumption | with_reducible refine Below.setCell ?_ (by first | omega | (simp; done) | (simp <;> omega)) _ | with_reducible refine below_drewN ?_ _ | with_reducible refine Below.drew ?_ | with_reducible refine Below.alloc ?_ (by first | omega | (simp; done) | (simp <;> omega)) _)); have hz := hb.size; (try simp at hz); (try have hz0 : w.heap.size < w1.heap.size := by omega); (try have hz1 : w.heap.size + 1 < w1.heap.size := by omega); (try have hz2 : w.heap.size + 1 + 1 < w1.heap.size := by omega))
      exact bodyPost_ret (v := .tuple #[.agg #[.bool false, .int .i64 0, .int .i64 0], .bool false]) (by simp [results, Tryz.results24, go_sem, *]) rfl ⟨by rw [HF.out]; rfl, (by repeat (first | with_reducible exact Below.refl _ _ | with_reducible assumption | with_reducible refine Below.setCell ?_ (by first | omega | (simp; done) | (simp <;> omega)) _ | with_reducible refine below_drewN ?_ _ | with_reducible refine Below.drew ?_ | with_reducible refine Below.alloc ?_ (by first | omega | (simp; done) | (simp <;> omega)) _))⟩
    · have HF : Hid (Fd.shiftI ⟨n, c, e⟩ k = Fd.fit1 ⟨n, c, e + k⟩) := Lib.hid (by unfold Fd.shiftI; rw [hv, decide_eq_false (by omega), decide_eq_false (by omega)]; rfl)
      obtain ⟨b1, b2, b3, b4⟩ := bounds_of hv
      go_enter Tryz.func24, Tryz.ntmps24
      go_wp2_with (first | (go_at_call 74; refine (valid_any _ _ _ _).mono ?_; rintro r w1 ⟨rfl, hb⟩; obtain ⟨hc, hf⟩ := bcell hb; have hB : Below w.heap.size w w1 := (by refine Below.trans ?_ (hb.mono (by first | omega | (simp; done) | (simp <;> omega))); repeat (first | with_reducible exact Below.refl _ _ | with_reducible assumption | with_reducible refine Below.setCell ?_ (by first | omega | (simp; done) | (simp <;> omega)) _ | with_reducible refine below_drewN ?_ _ | with_reducible refine Below.drew ?_ | with_reducible refine Below.alloc ?_ (by first | omega | (simp; done) | (simp <;> omega)) _)); have hz := hb.size; (try simp at hz); (try have hz0 : w.heap.size < w1.heap.size := by omega); (try have hz1 : w.heap.size + 1 < w1.heap.size := by omega); (try have hz2 : w.heap.size + 1 + 1 < w1.heap.size := by omega); have hcd : w1.cell? ⟨w.heap.size, 2, none⟩ = some (.int .i64 e) := by rw [hc _ _ (by first | omega | (simp; done) | (simp <;> omega))]; simp) | (go_at_call 75; refine (fitted_any _ _ _ _ b1 (by omega) (by omega) (by omega)).mono ?_; rintro r w1 ⟨rfl, hb⟩; obtain ⟨hc, hf⟩ := bcell hb; have hB : Below w.heap.size w w1 := (by refine Below.trans ?_ (hb.mono (by first | omega | (simp; done) | (simp <;> omega))); repeat (first | with_reducible exact Below.refl _ _ | with_reducible assumption | with_reducible refine Below.setCell ?_ (by first | omega | (simp; done) | (simp <;> omega)) _ | with_reducible refine below_drewN ?_ _ | with_reducible refine Below.drew ?_ | with_reducible refine Below.alloc ?_ (by first | omega | (simp; done) | (simp <;> omega)) _)); have hz := hb.size; (try simp at hz); (try have hz0 : w.heap.size < w1.heap.size := by omega); (try have hz1 : w.heap.size + 1 < w1.heap.size := by omega); (try have hz2 : w.heap.size + 1 + 1 < w1.heap.size := by omega)))
      exact bodyPost_ret (v := .tuple #[.agg #[.bool (Fd.fit1 ⟨n, c, e + k⟩).1.n, .int .i64 (Fd.fit1 ⟨n, c, e + k⟩).1.c, .int .i64 (Fd.fit1 ⟨n, c, e + k⟩).1.e], .bool (Fd.fit1 ⟨n, c, e + k⟩).2]) (by simp [results, Tryz.results24, go_sem, *]) rfl ⟨by rw [HF.out], (by repeat (first | with_reducible exact Below.refl _ _ | with_reducible assumption | with_reducible refine Below.setCell ?_ (by first | omega | (simp; done) | (simp <;> omega)) _ | with_reducible refine below_drewN ?_ _ | with_reducible refine Below.drew ?_ | with_reducible refine Below.alloc ?_ (by first | omega | (simp; done) | (simp <;> omega)) _))⟩
  · have HF : Hid (Fd.shiftI ⟨n, c, e⟩ k = (Fd.D.z, false)) := Lib.hid (by unfold Fd.shiftI; rw [if_pos]; simp; omega)
    have hcase : (Fd.vld ⟨n, c, e⟩ = false) ∨ (Fd.vld ⟨n, c, e⟩ = true ∧ k < -12) ∨ (Fd.vld ⟨n, c, e⟩ = true ∧ -12 ≤ k ∧ 12 < k) := by
      cases hv : Fd.vld ⟨n, c, e⟩ <;> simp; omega
    clear hk
    rcases hcase with hv | ⟨hv, k1⟩ | ⟨hv, k1, k2⟩
    all_goals
      go_enter Tryz.func24, Tryz.ntmps24
      go_wp2_with (go_at_call 74; refine (valid_any _ _ _ _).mono ?_; rintro r w1 ⟨rfl, hb⟩; obtain ⟨hc, hf⟩ := bcell hb; have hB : Below w.heap.size w w1 := (by refine Below.trans ?_ (hb.mono (by first | omega | (simp; done) | (simp <;> omega))); repeat (first | with_reducible exact Below.refl _ _ | with_reducible assumption | with_reducible refine Below.setCell ?_ (by first | omega | (simp; done) | (simp <;> omega)) _ | with_reducible refine below_drewN ?_ _ | with_reducible refine Below.drew ?_ | with_reducible refine Below.alloc ?_ (by first | omega | (simp; done) | (simp <;> omega)) _)); have hz := hb.size; (try simp at hz); (try have hz0 : w.heap.size < w1.heap.size := by omega); (try have hz1 : w.heap.size + 1 < w1.heap.size := by omega); (try have hz2 : w.heap.size + 1 + 1 < w1.heap.size := by omega))
      exact bodyPost_ret (v := .tuple #[.agg #[.bool false, .int .i64 0, .int .i64 0], .bool false]) (by simp [results, Tryz.results24, go_sem, *]) rfl ⟨by rw [HF.out]; rfl, (by repeat (first | with_reducible exact Below.refl _ _ | with_reducible assumption | with_reducible refine Below.setCell ?_ (by first | omega | (simp; done) | (simp <;> omega)) _ | with_reducible refine below_drewN ?_ _ | with_reducible refine Below.drew ?_ | with_reducible refine Below.alloc ?_ (by first | omega | (simp; done) | (simp <;> omega)) _))⟩

set_option maxRecDepth 100000 in
set_option maxHeartbeats 16000000 in
theorem FnFormatRealPercent_law (s : Option Addr) (len cap : Nat) (w : World) (hT : PT w) (hcode : CodeAt s len w.heap.size w) (hcap : len ≤ cap) :
    Calls Tryz.prog 6 #[.slice s len cap] w fun r w' => r = .returned (.bool true) ∧ Below w.heap.size w w' := by
  by_cases hl : 1048576 < len
  · go_enter Tryz.func6, Tryz.ntmps6
    go_wp2
    go_ret
    exact ⟨rfl, (by repeat (first | with_reducible exact Below.refl _ _ | with_reducible assumption | with_reducible refine Below.setCell ?_ (by first | omega | (simp; done) | (simp <;> omega)) _ | with_reducible refine below_drewN ?_ _ | with_reducible refine Below.drew ?_ | with_reducible refine Below.alloc ?_ (by first | omega | (simp; done) | (simp <;> omega)) _))⟩
  go_enter Tryz.func6, Tryz.ntmps6
  go_wp2_with (go_at_call 17; (with_reducible refine Calls.mono (DrawFormatReal_any _ _ _ _ hcode hcap) ?_); rintro r w1 ⟨⟨f, al, si, alt, ze, wi, gr, pr, t, n, c, e, rfl⟩, hB⟩; have hz := hB.size)
  have k1 := fun W (h : PT W) => FormatReal_any f al si alt ze wi gr pr t n c e W h
  have k2 := fun W => FormatRealS_any f al si alt ze wi gr pr t n c e W
  have hXX : ∀ l : List UInt8, (l != l) = false := fun l => by simp
  have hXY : ∀ l : List UInt8, (l == l) = true := fun l => by simp
  have za := (C9.new w1 (.string f) (.int .i64 al) (.int .i64 si) (.bool alt) (.bool ze) (.int .i64 wi) (.int .i64 gr) (.int .i64 pr) (.string t) 24).up (.cells #[.bool n, .int .i64 c, .int .i64 e] 31)
  have zd : C3 ((w1.alloc (.cells #[.string f, .int .i64 al, .int .i64 si, .bool alt, .bool ze, .int .i64 wi, .int .i64 gr, .int .i64 pr, .string t] 24)).alloc (.cells #[.bool n, .int .i64 c, .int .i64 e] 31)) (w1.heap.size + 1) (.bool n) (.int .i64 c) (.int .i64 e) := by
    have h := C3.new (w1.alloc (.cells #[.string f, .int .i64 al, .int .i64 si, .bool alt, .bool ze, .int .i64 wi, .int .i64 gr, .int .i64 pr, .string t] 24)) (.bool n) (.int .i64 c) (.int .i64 e) 31
    rw [show (w1.alloc (.cells #[.string f, .int .i64 al, .int .i64 si, .bool alt, .bool ze, .int .i64 wi, .int .i64 gr, .int .i64 pr, .string t] 24)).heap.size = w1.heap.size + 1 by simp] at h
    exact h
  replace hB : Below w.heap.size w ((w1.alloc (.cells #[.string f, .int .i64 al, .int .i64 si, .bool alt, .bool ze, .int .i64 wi, .int .i64 gr, .int .i64 pr, .string t] 24)).alloc (.cells #[.bool n, .int .i64 c, .int .i64 e] 31)) := (hB.alloc (by omega) _).alloc (by simp; omega) _
  have zz := za
  obtain ⟨x0, x1, x2, x3, x4, x5, x6, x7, x8, xf, xl⟩ := zz
  have zz := zd
  obtain ⟨u0, u1, u2, u3, u4, u5, u6⟩ := zz
  by_cases hX : frX (rOk f al si alt ze wi gr pr t n c e) f al si alt ze wi gr pr t n c e = []
  · rw [hX] at k1 k2
    have K1 := Lib.hid k1; have K2 := Lib.hid k2
    clear k1 k2 hX
    go_wp2_with (first | (go_at_call 18; (with_reducible refine Calls.mono (K1.out _ (hT.on (by repeat (first | with_reducible exact Below.refl _ _ | with_reducible assumption | with_reducible refine Below.setCell ?_ (by first | omega | (simp; done) | (simp <;> omega)) _ | with_reducible refine below_drewN ?_ _ | with_reducible refine Below.drew ?_ | with_reducible refine Below.alloc ?_ (by first | omega | (simp; done) | (simp <;> omega)) _)))) ?_); rintro r w2 ⟨rfl, hb⟩; have hBN : Below w.heap.size w w2 := (by refine Below.trans ?_ (hb.mono (by first | omega | (simp; done) | (simp <;> omega))); repeat (first | with_reducible exact Below.refl _ _ | with_reducible assumption | with_reducible refine Below.setCell ?_ (by first | omega | (simp; done) | (simp <;> omega)) _ | with_reducible refine below_drewN ?_ _ | with_reducible refine Below.drew ?_ | with_reducible refine Below.alloc ?_ (by first | omega | (simp; done) | (simp <;> omega)) _)); clear hB; have hB := hBN; clear hBN; have hz := hB.size; have zN := C9.carry_of za (by repeat (first | with_reducible assumption | with_reducible apply C9.up | (with_reducible apply C9.far; (case hn => (first | omega | (simp; omega)))) | with_reducible apply C9.set0 | with_reducible apply C9.set1 | with_reducible apply C9.set2 | with_reducible apply C9.set3 | with_reducible apply C9.set4 | with_reducible apply C9.set5 | with_reducible apply C9.set6 | with_reducible apply C9.set7 | with_reducible apply C9.set8 | with_reducible apply C9.drew)) hb; clear za; have za := zN; clear zN; have zz := za; obtain ⟨x0, x1, x2, x3, x4, x5, x6, x7, x8, xf, xl⟩ := zz; have zN := C3.carry_of zd (by repeat (first | with_reducible assumption | with_reducible apply C3.up | (with_reducible apply C3.far; (first | omega | (simp; omega))) | with_reducible apply C3.drew)) hb; clear zd; have zd := zN; clear zN; have zz := zd; obtain ⟨u0, u1, u2, u3, u4, u5, u6⟩ := zz) | (go_at_call 19; (with_reducible refine Calls.mono (K2.out _) ?_); rintro r w2 ⟨rfl, hb⟩; have hBN : Below w.heap.size w w2 := (by refine Below.trans ?_ (hb.mono (by first | omega | (simp; done) | (simp <;> omega))); repeat (first | with_reducible exact Below.refl _ _ | with_reducible assumption | with_reducible refine Below.setCell ?_ (by first | omega | (simp; done) | (simp <;> omega)) _ | with_reducible refine below_drewN ?_ _ | with_reducible refine Below.drew ?_ | with_reducible refine Below.alloc ?_ (by first | omega | (simp; done) | (simp <;> omega)) _)); clear hB; have hB := hBN; clear hBN; have hz := hB.size; have zN := C9.carry_of za (by repeat (first | with_reducible assumption | with_reducible apply C9.up | (with_reducible apply C9.far; (case hn => (first | omega | (simp; omega)))) | with_reducible apply C9.set0 | with_reducible apply C9.set1 | with_reducible apply C9.set2 | with_reducible apply C9.set3 | with_reducible apply C9.set4 | with_reducible apply C9.set5 | with_reducible apply C9.set6 | with_reducible apply C9.set7 | with_reducible apply C9.set8 | with_reducible apply C9.drew)) hb; clear za; have za := zN; clear zN; have zz := za; obtain ⟨x0, x1, x2, x3, x4, x5, x6, x7, x8, xf, xl⟩ := zz; have zN := C3.carry_of zd (by repeat (first | with_reducible assumption | with_reducible apply C3.up | (with_reducible apply C3.far; (first | omega | (simp; omega))) | with_reducible apply C3.drew)) hb; clear zd; have zd := zN; clear zN; have zz := zd; obtain ⟨u0, u1, u2, u3, u4, u5, u6⟩ := zz))
    all_goals go_ret
    all_goals exact ⟨rfl, hB⟩
  · have hok := rOk_some hX
    have hXe : (frX (rOk f al si alt ze wi gr pr t n c e) f al si alt ze wi gr pr t n c e).isEmpty = false := by
      rw [List.isEmpty_eq_false_iff]
      exact hX
    clear hX
    obtain ⟨V, hst, hd⟩ := rOk_open hok
    have k5 := fun W => ShiftDec_any n c e 2 W
    cases hs : (Fd.shiftI ⟨n, c, e⟩ 2).2
    · rw [hs] at k5
      generalize frX (rOk f al si alt ze wi gr pr t n c e) f al si alt ze wi gr pr t n c e = X at *
      generalize (Fd.shiftI ⟨n, c, e⟩ 2).1 = r at *
      clear hs V hst hd hok
      have K1 := Lib.hid k1; have K2 := Lib.hid k2; have K5 := Lib.hid k5
      clear k1 k2 k5
      go_wp2_with (first | (go_at_call 18; (with_reducible refine Calls.mono (K1.out _ (hT.on (by repeat (first | with_reducible exact Below.refl _ _ | with_reducible assumption | with_reducible refine Below.setCell ?_ (by first | omega | (simp; done) | (simp <;> omega)) _ | with_reducible refine below_drewN ?_ _ | with_reducible refine Below.drew ?_ | with_reducible refine Below.alloc ?_ (by first | omega | (simp; done) | (simp <;> omega)) _)))) ?_); rintro r w2 ⟨rfl, hb⟩; have hBN : Below w.heap.size w w2 := (by refine Below.trans ?_ (hb.mono (by first | omega | (simp; done) | (simp <;> omega))); repeat (first | with_reducible exact Below.refl _ _ | with_reducible assumption | with_reducible refine Below.setCell ?_ (by first | omega | (simp; done) | (simp <;> omega)) _ | with_reducible refine below_drewN ?_ _ | with_reducible refine Below.drew ?_ | with_reducible refine Below.alloc ?_ (by first | omega | (simp; done) | (simp <;> omega)) _)); clear hB; have hB := hBN; clear hBN; have hz := hB.size; have zN := C9.carry_of za (by repeat (first | with_reducible assumption | with_reducible apply C9.up | (with_reducible apply C9.far; (case hn => (first | omega | (simp; omega)))) | with_reducible apply C9.set0 | with_reducible apply C9.set1 | with_reducible apply C9.set2 | with_reducible apply C9.set3 | with_reducible apply C9.set4 | with_reducible apply C9.set5 | with_reducible apply C9.set6 | with_reducible apply C9.set7 | with_reducible apply C9.set8 | with_reducible apply C9.drew)) hb; clear za; have za := zN; clear zN; have zz := za; obtain ⟨x0, x1, x2, x3, x4, x5, x6, x7, x8, xf, xl⟩ := zz; have zN := C3.carry_of zd (by repeat (first | with_reducible assumption | with_reducible apply C3.up | (with_reducible apply C3.far; (first | omega | (simp; omega))) | with_reducible apply C3.drew)) hb; clear zd; have zd := zN; clear zN; have zz := zd; obtain ⟨u0, u1, u2, u3, u4, u5, u6⟩ := zz) | (go_at_call 19; (with_reducible refine Calls.mono (K2.out _) ?_); rintro r w2 ⟨rfl, hb⟩; have hBN : Below w.heap.size w w2 := (by refine Below.trans ?_ (hb.mono (by first | omega | (simp; done) | (simp <;> omega))); repeat (first | with_reducible exact Below.refl _ _ | with_reducible assumption | with_reducible refine Below.setCell ?_ (by first | omega | (simp; done) | (simp <;> omega)) _ | with_reducible refine below_drewN ?_ _ | with_reducible refine Below.drew ?_ | with_reducible refine Below.alloc ?_ (by first | omega | (simp; done) | (simp <;> omega)) _)); clear hB; have hB := hBN; clear hBN; have hz := hB.size; have zN := C9.carry_of za (by repeat (first | with_reducible assumption | with_reducible apply C9.up | (with_reducible apply C9.far; (case hn => (first | omega | (simp; omega)))) | with_reducible apply C9.set0 | with_reducible apply C9.set1 | with_reducible apply C9.set2 | with_reducible apply C9.set3 | with_reducible apply C9.set4 | with_reducible apply C9.set5 | with_reducible apply C9.set6 | with_reducible apply C9.set7 | with_reducible apply C9.set8 | with_reducible apply C9.drew)) hb; clear za; have za := zN; clear zN; have zz := za; obtain ⟨x0, x1, x2, x3, x4, x5, x6, x7, x8, xf, xl⟩ := zz; have zN := C3.carry_of zd (by repeat (first | with_reducible assumption | with_reducible apply C3.up | (with_reducible apply C3.far; (first | omega | (simp; omega))) | with_reducible apply C3.drew)) hb; clear zd; have zd := zN; clear zN; have zz := zd; obtain ⟨u0, u1, u2, u3, u4, u5, u6⟩ := zz) | (go_at_call 24; (with_reducible refine Calls.mono (K5.out _) ?_); rintro r w2 ⟨rfl, hb⟩; have hBN : Below w.heap.size w w2 := (by refine Below.trans ?_ (hb.mono (by first | omega | (simp; done) | (simp <;> omega))); repeat (first | with_reducible exact Below.refl _ _ | with_reducible assumption | with_reducible refine Below.setCell ?_ (by first | omega | (simp; done) | (simp <;> omega)) _ | with_reducible refine below_drewN ?_ _ | with_reducible refine Below.drew ?_ | with_reducible refine Below.alloc ?_ (by first | omega | (simp; done) | (simp <;> omega)) _)); clear hB; have hB := hBN; clear hBN; have hz := hB.size; have zN := C9.carry_of za (by repeat (first | with_reducible assumption | with_reducible apply C9.up | (with_reducible apply C9.far; (case hn => (first | omega | (simp; omega)))) | with_reducible apply C9.set0 | with_reducible apply C9.set1 | with_reducible apply C9.set2 | with_reducible apply C9.set3 | with_reducible apply C9.set4 | with_reducible apply C9.set5 | with_reducible apply C9.set6 | with_reducible apply C9.set7 | with_reducible apply C9.set8 | with_reducible apply C9.drew)) hb; clear za; have za := zN; clear zN; have zz := za; obtain ⟨x0, x1, x2, x3, x4, x5, x6, x7, x8, xf, xl⟩ := zz; have zN := C3.carry_of zd (by repeat (first | with_reducible assumption | with_reducible apply C3.up | (with_reducible apply C3.far; (first | omega | (simp; omega))) | with_reducible apply C3.drew)) hb; clear zd; have zd := zN; clear zN; have zz := zd; obtain ⟨u0, u1, u2, u3, u4, u5, u6⟩ := zz))
      all_goals go_ret
      all_goals exact ⟨rfl, (by repeat (first | with_reducible exact Below.refl _ _ | with_reducible assumption | with_reducible refine Below.setCell ?_ (by first | omega | (simp; done) | (simp <;> omega)) _ | with_reducible refine below_drewN ?_ _ | with_reducible refine Below.drew ?_ | with_reducible refine Below.alloc ?_ (by first | omega | (simp; done) | (simp <;> omega)) _))⟩
    · obtain ⟨q1, q2, q3, q4⟩ := pct_same hd hs (prW pr).toNat
      rw [hs] at k5
      generalize (Fd.shiftI ⟨n, c, e⟩ 2).1 = r at *
      obtain ⟨n', c', e'⟩ := r
      simp only at q1 q2 q3 q4 k5
      subst q1
      have h1 := rOk_type (n := n') (c := c) (e := e) 37 (.inl rfl) V hd
      have h0 := rOk_type (n := n') (c := c') (e := e') 102 (.inr rfl) V q4
      have a1 : amT false pr (⟨#[37]⟩ : ByteArray).data.toList n' c e = (fxA c (e + 2) (prW pr).toNat, fxB c (e + 2) (prW pr).toNat, [37]) := by unfold amT; simp
      have a0 : amT false pr (⟨#[102]⟩ : ByteArray).data.toList n' c' e' = (fxA c' e' (prW pr).toNat, fxB c' e' (prW pr).toNat, []) := by unfold amT; simp
      rw [q2, q3] at a0
      have k3 := fun W (h : PT W) => FormatReal_any ⟨#[]⟩ 0 si false false 0 gr pr ⟨#[37]⟩ n' c e W h
      have k4 := fun W (h : PT W) => FormatReal_any ⟨#[]⟩ 0 si false false 0 gr pr ⟨#[102]⟩ n' c' e' W h
      rw [frX_zero h1 a1, frZ_pct] at k3
      rw [frX_zero h0 a0] at k4
      have hln : (frZ si false gr n' (fxA c (e + 2) (prW pr).toNat) (fxB c (e + 2) (prW pr).toNat) []).length ≤ 500 := by
        obtain ⟨A, B, T, hA, L⟩ := amT_L false (t := [102]) (n := n') (c := c') (e := e') q4 V.pr0 V.pr9 (by unfold TyR; simp)
        have a2 : amT false pr [102] n' c' e' = _ := a0
        rw [a2] at hA
        obtain ⟨rfl, rfl, rfl⟩ : fxA c (e + 2) (prW pr).toNat = A ∧ fxB c (e + 2) (prW pr).toNat = B ∧ ([] : List UInt8) = T := by simpa using hA
        exact frZ_len L
      generalize frZ si false gr n' (fxA c (e + 2) (prW pr).toNat) (fxB c (e + 2) (prW pr).toNat) [] = Y at *
      have cc := cat_lN Y [37]
      have cq : ¬ (9223372036854775807 < Y.length + 1) := by omega
      generalize frX (rOk f al si alt ze wi gr pr t n' c e) f al si alt ze wi gr pr t n' c e = X at *
      clear h1 h0 a1 a0 q2 q3 q4 hs V hst hd hok
      have K1 := Lib.hid k1; have K2 := Lib.hid k2; have K3 := Lib.hid k3; have K4 := Lib.hid k4; have K5 := Lib.hid k5
      clear k1 k2 k3 k4 k5
      go_wp2_with (first | (go_at_call 18; (with_reducible refine Calls.mono (K1.out _ (hT.on (by repeat (first | with_reducible exact Below.refl _ _ | with_reducible assumption | with_reducible refine Below.setCell ?_ (by first | omega | (simp; done) | (simp <;> omega)) _ | with_reducible refine below_drewN ?_ _ | with_reducible refine Below.drew ?_ | with_reducible refine Below.alloc ?_ (by first | omega | (simp; done) | (simp <;> omega)) _)))) ?_); rintro r w2 ⟨rfl, hb⟩; have hBN : Below w.heap.size w w2 := (by refine Below.trans ?_ (hb.mono (by first | omega | (simp; done) | (simp <;> omega))); repeat (first | with_reducible exact Below.refl _ _ | with_reducible assumption | with_reducible refine Below.setCell ?_ (by first | omega | (simp; done) | (simp <;> omega)) _ | with_reducible refine below_drewN ?_ _ | with_reducible refine Below.drew ?_ | with_reducible refine Below.alloc ?_ (by first | omega | (simp; done) | (simp <;> omega)) _)); clear hB; have hB := hBN; clear hBN; have hz := hB.size; have zN := C9.carry_of za (by repeat (first | with_reducible assumption | with_reducible apply C9.up | (with_reducible apply C9.far; (case hn => (first | omega | (simp; omega)))) | with_reducible apply C9.set0 | with_reducible apply C9.set1 | with_reducible apply C9.set2 | with_reducible apply C9.set3 | with_reducible apply C9.set4 | with_reducible apply C9.set5 | with_reducible apply C9.set6 | with_reducible apply C9.set7 | with_reducible apply C9.set8 | with_reducible apply C9.drew)) hb; clear za; have za := zN; clear zN; have zz := za; obtain ⟨x0, x1, x2, x3, x4, x5, x6, x7, x8, xf, xl⟩ := zz; have zN := C3.carry_of zd (by repeat (first | with_reducible assumption | with_reducible apply C3.up | (with_reducible apply C3.far; (first | omega | (simp; omega))) | with_reducible apply C3.drew)) hb; clear zd; have zd := zN; clear zN; have zz := zd; obtain ⟨u0, u1, u2, u3, u4, u5, u6⟩ := zz) | (go_at_call 19; (with_reducible refine Calls.mono (K2.out _) ?_); rintro r w2 ⟨rfl, hb⟩; have hBN : Below w.heap.size w w2 := (by refine Below.trans ?_ (hb.mono (by first | omega | (simp; done) | (simp <;> omega))); repeat (first | with_reducible exact Below.refl _ _ | with_reducible assumption | with_reducible refine Below.setCell ?_ (by first | omega | (simp; done) | (simp <;> omega)) _ | with_reducible refine below_drewN ?_ _ | with_reducible refine Below.drew ?_ | with_reducible refine Below.alloc ?_ (by first | omega | (simp; done) | (simp <;> omega)) _)); clear hB; have hB := hBN; clear hBN; have hz := hB.size; have zN := C9.carry_of za (by repeat (first | with_reducible assumption | with_reducible apply C9.up | (with_reducible apply C9.far; (case hn => (first | omega | (simp; omega)))) | with_reducible apply C9.set0 | with_reducible apply C9.set1 | with_reducible apply C9.set2 | with_reducible apply C9.set3 | with_reducible apply C9.set4 | with_reducible apply C9.set5 | with_reducible apply C9.set6 | with_reducible apply C9.set7 | with_reducible apply C9.set8 | with_reducible apply C9.drew)) hb; clear za; have za := zN; clear zN; have zz := za; obtain ⟨x0, x1, x2, x3, x4, x5, x6, x7, x8, xf, xl⟩ := zz; have zN := C3.carry_of zd (by repeat (first | with_reducible assumption | with_reducible apply C3.up | (with_reducible apply C3.far; (first | omega | (simp; omega))) | with_reducible apply C3.drew)) hb; clear zd; have zd := zN; clear zN; have zz := zd; obtain ⟨u0, u1, u2, u3, u4, u5, u6⟩ := zz) | (go_at_call 24; (with_reducible refine Calls.mono (K5.out _) ?_); rintro r w2 ⟨rfl, hb⟩; have hBN : Below w.heap.size w w2 := (by refine Below.trans ?_ (hb.mono (by first | omega | (simp; done) | (simp <;> omega))); repeat (first | with_reducible exact Below.refl _ _ | with_reducible assumption | with_reducible refine Below.setCell ?_ (by first | omega | (simp; done) | (simp <;> omega)) _ | with_reducible refine below_drewN ?_ _ | with_reducible refine Below.drew ?_ | with_reducible refine Below.alloc ?_ (by first | omega | (simp; done) | (simp <;> omega)) _)); clear hB; have hB := hBN; clear hBN; have hz := hB.size; have zN := C9.carry_of za (by repeat (first | with_reducible assumption | with_reducible apply C9.up | (with_reducible apply C9.far; (case hn => (first | omega | (simp; omega)))) | with_reducible apply C9.set0 | with_reducible apply C9.set1 | with_reducible apply C9.set2 | with_reducible apply C9.set3 | with_reducible apply C9.set4 | with_reducible apply C9.set5 | with_reducible apply C9.set6 | with_reducible apply C9.set7 | with_reducible apply C9.set8 | with_reducible apply C9.drew)) hb; clear za; have za := zN; clear zN; have zz := za; obtain ⟨x0, x1, x2, x3, x4, x5, x6, x7, x8, xf, xl⟩ := zz; have zN := C3.carry_of zd (by repeat (first | with_reducible assumption | with_reducible apply C3.up | (with_reducible apply C3.far; (first | omega | (simp; omega))) | with_reducible apply C3.drew)) hb; clear zd; have zd := zN; clear zN; have zz := zd; obtain ⟨u0, u1, u2, u3, u4, u5, u6⟩ := zz))
      have hz := hB.size
      have zh : C3 (((w2.alloc (.cells #[.bool n', .int .i64 c', .int .i64 e'] 31)).alloc (.cells #[.string ⟨#[]⟩, .int .i64 0, .int .i64 si, .bool false, .bool false, .int .i64 0, .int .i64 gr, .int .i64 pr, .string ⟨#[37]⟩] 24)).alloc (.cells #[.string ⟨#[]⟩, .int .i64 0, .int .i64 si, .bool false, .bool false, .int .i64 0, .int .i64 gr, .int .i64 pr, .string ⟨#[102]⟩] 24)) (w2.heap.size) (.bool n') (.int .i64 c') (.int .i64 e') := by
        have h := C3.new w2 (.bool n') (.int .i64 c') (.int .i64 e') 31
        exact ((h.up (.cells #[.string ⟨#[]⟩, .int .i64 0, .int .i64 si, .bool false, .bool false, .int .i64 0, .int .i64 gr, .int .i64 pr, .string ⟨#[37]⟩] 24)).up (.cells #[.string ⟨#[]⟩, .int .i64 0, .int .i64 si, .bool false, .bool false, .int .i64 0, .int .i64 gr, .int .i64 pr, .string ⟨#[102]⟩] 24))
      have zA : C9 (((w2.alloc (.cells #[.bool n', .int .i64 c', .int .i64 e'] 31)).alloc (.cells #[.string ⟨#[]⟩, .int .i64 0, .int .i64 si, .bool false, .bool false, .int .i64 0, .int .i64 gr, .int .i64 pr, .string ⟨#[37]⟩] 24)).alloc (.cells #[.string ⟨#[]⟩, .int .i64 0, .int .i64 si, .bool false, .bool false, .int .i64 0, .int .i64 gr, .int .i64 pr, .string ⟨#[102]⟩] 24)) (w2.heap.size + 1) (.string ⟨#[]⟩) (.int .i64 0) (.int .i64 si) (.bool false) (.bool false) (.int .i64 0) (.int .i64 gr) (.int .i64 pr) (.string ⟨#[37]⟩) := by
        have h := C9.new (w2.alloc (.cells #[.bool n', .int .i64 c', .int .i64 e'] 31)) (.string ⟨#[]⟩) (.int .i64 0) (.int .i64 si) (.bool false) (.bool false) (.int .i64 0) (.int .i64 gr) (.int .i64 pr) (.string ⟨#[37]⟩) 24
        rw [show (w2.alloc (.cells #[.bool n', .int .i64 c', .int .i64 e'] 31)).heap.size = w2.heap.size + 1 by simp] at h
        exact (h.up (.cells #[.string ⟨#[]⟩, .int .i64 0, .int .i64 si, .bool false, .bool false, .int .i64 0, .int .i64 gr, .int .i64 pr, .string ⟨#[102]⟩] 24))
      have zB : C9 (((w2.alloc (.cells #[.bool n', .int .i64 c', .int .i64 e'] 31)).alloc (.cells #[.string ⟨#[]⟩, .int .i64 0, .int .i64 si, .bool false, .bool false, .int .i64 0, .int .i64 gr, .int .i64 pr, .string ⟨#[37]⟩] 24)).alloc (.cells #[.string ⟨#[]⟩, .int .i64 0, .int .i64 si, .bool false, .bool false, .int .i64 0, .int .i64 gr, .int .i64 pr, .string ⟨#[102]⟩] 24)) (w2.heap.size + 1 + 1) (.string ⟨#[]⟩) (.int .i64 0) (.int .i64 si) (.bool false) (.bool false) (.int .i64 0) (.int .i64 gr) (.int .i64 pr) (.string ⟨#[102]⟩) := by
        have h := C9.new ((w2.alloc (.cells #[.bool n', .int .i64 c', .int .i64 e'] 31)).alloc (.cells #[.string ⟨#[]⟩, .int .i64 0, .int .i64 si, .bool false, .bool false, .int .i64 0, .int .i64 gr, .int .i64 pr, .string ⟨#[37]⟩] 24)) (.string ⟨#[]⟩) (.int .i64 0) (.int .i64 si) (.bool false) (.bool false) (.int .i64 0) (.int .i64 gr) (.int .i64 pr) (.string ⟨#[102]⟩) 24
        rw [show ((w2.alloc (.cells #[.bool n', .int .i64 c', .int .i64 e'] 31)).alloc (.cells #[.string ⟨#[]⟩, .int .i64 0, .int .i64 si, .bool false, .bool false, .int .i64 0, .int .i64 gr, .int .i64 pr, .string ⟨#[37]⟩] 24)).heap.size = w2.heap.size + 1 + 1 by simp] at h
        exact h
      replace zd := (((zd.up (.cells #[.bool n', .int .i64 c', .int .i64 e'] 31)).up (.cells #[.string ⟨#[]⟩, .int .i64 0, .int .i64 si, .bool false, .bool false, .int .i64 0, .int .i64 gr, .int .i64 pr, .string ⟨#[37]⟩] 24)).up (.cells #[.string ⟨#[]⟩, .int .i64 0, .int .i64 si, .bool false, .bool false, .int .i64 0, .int .i64 gr, .int .i64 pr, .string ⟨#[102]⟩] 24))
      replace hB : Below w.heap.size w (((w2.alloc (.cells #[.bool n', .int .i64 c', .int .i64 e'] 31)).alloc (.cells #[.string ⟨#[]⟩, .int .i64 0, .int .i64 si, .bool false, .bool false, .int .i64 0, .int .i64 gr, .int .i64 pr, .string ⟨#[37]⟩] 24)).alloc (.cells #[.string ⟨#[]⟩, .int .i64 0, .int .i64 si, .bool false, .bool false, .int .i64 0, .int .i64 gr, .int .i64 pr, .string ⟨#[102]⟩] 24)) := (((hB).alloc (by first | omega | (simp; omega)) _).alloc (by first | omega | (simp; omega)) _).alloc (by first | omega | (simp; omega)) _
      have zz := zd; obtain ⟨zd_0, zd_1, zd_2, zd_3, zd_4, zd_5, zd_6⟩ := zz
      have zz := zh; obtain ⟨zh_0, zh_1, zh_2, zh_3, zh_4, zh_5, zh_6⟩ := zz
      have zz := zA; obtain ⟨zA_x0, zA_x1, zA_x2, zA_x3, zA_x4, zA_x5, zA_x6, zA_x7, zA_x8, zA_xf, zA_xl⟩ := zz
      have zz := zB; obtain ⟨zB_x0, zB_x1, zB_x2, zB_x3, zB_x4, zB_x5, zB_x6, zB_x7, zB_x8, zB_xf, zB_xl⟩ := zz
      obtain ⟨szA0, szA1, szA2, szA3, szA4, szA5, szA6, szA7, szA8⟩ := C9.since zA
      obtain ⟨szB0, szB1, szB2, szB3, szB4, szB5, szB6, szB7, szB8⟩ := C9.since zB
      obtain ⟨szd0, szd1, szd2⟩ := C3.since zd
      obtain ⟨szh0, szh1, szh2⟩ := C3.since zh
      refine wp_region_since (by kernel_rfl) (by kernel_rfl) ?_
      repeat (quiet_step (first | (go_at_call 18; with_reducible exact Calls.since_of (K3.out _ (hT.on (hB.trans (Below.mono (Since.h _) hB.size))))) | (go_at_call 18; with_reducible exact Calls.since_of (K4.out _ (hT.on (hB.trans (Below.mono (Since.h _) hB.size)))))))
      refine wpQuiet_nil ?_
      intro w_ hw_
      obtain ⟨⟨w1, hb⟩, hw2⟩ := hw_
      have hw3 : w1 = w_ := hw2.symm
      clear hw2
      subst hw3
      clear szA0 szA1 szA2 szA3 szA4 szA5 szA6 szA7 szA8 szB0 szB1 szB2 szB3 szB4 szB5 szB6 szB7 szB8 szd0 szd1 szd2 szh0 szh1 szh2
      replace hB := hB.trans (hb.mono hB.size)
      have hz := hb.size
      replace zA := C9.carry zA hb
      have zz := zA; obtain ⟨zA_x0, zA_x1, zA_x2, zA_x3, zA_x4, zA_x5, zA_x6, zA_x7, zA_x8, zA_xf, zA_xl⟩ := zz
      replace zB := C9.carry zB hb
      have zz := zB; obtain ⟨zB_x0, zB_x1, zB_x2, zB_x3, zB_x4, zB_x5, zB_x6, zB_x7, zB_x8, zB_xf, zB_xl⟩ := zz
      replace zd := C3.carry zd hb
      have zz := zd; obtain ⟨zd_0, zd_1, zd_2, zd_3, zd_4, zd_5, zd_6⟩ := zz
      replace zh := C3.carry zh hb
      have zz := zh; obtain ⟨zh_0, zh_1, zh_2, zh_3, zh_4, zh_5, zh_6⟩ := zz
      go_wp2
      all_goals go_ret
      all_goals exact ⟨rfl, hB⟩

def FnFormatRealPercent_LL : List (String × DataW Unit) := [("math/bits.deBruijn32tab", Rows.laid_math_bits_deBruijn32tab), ("math/bits.deBruijn64tab", Rows.laid_math_bits_deBruijn64tab), ("internal/strconv.uint64pow10", Rows.laid_internal_strconv_uint64pow10), ("unicode/utf8.acceptRanges", Rows.laid_unicode_utf8_acceptRanges), ("unicode.CaseRanges", Rows.laid_unicode_CaseRanges), ("unicode/utf8.first", Rows.laid_unicode_utf8_first)]

set_option maxRecDepth 100000 in
theorem FnFormatRealPercent_lifted (os : Os) (started : os.Started) (H : Type) (enc : TypeId × Value → H) :
    ReturnsInHanded {} Tryz.checked os 6 .any (fun w args => (Rows.fnFormatRealPercentSpec.pre enc Tryz.prog Tryz.f6 [] false w args ∧ laidMetH Tryz.prog FnFormatRealPercent_LL w) ∧ sizedMet enc Tryz.prog Tryz.f6 (OpenSpec.ofChange Rows.fnFormatRealPercentSpec) false w args) (Rows.fnFormatRealPercentSpec.post enc Tryz.prog Tryz.f6 false true false false) := by
  refine returnsInHanded_of_change_and (C := Tryz.checked) (X := fun w _ => laidMetH Tryz.prog FnFormatRealPercent_LL w) (fun _ _ _ hh h => h.of_heap hh) Tryz.own started (by kernel_rfl) Tryz.func6
    (ChangeSpec.witness_shaped (enc := enc) (C := Tryz.checked) (os := os) (X := fun w _ => laidMetH Tryz.prog FnFormatRealPercent_LL w) false (World.laidAll Tryz.prog os FnFormatRealPercent_LL) #[.slice none 0 0] 8 (World.laidAll_os _ _ _) (World.shaped_of_ZipB (by kernel_rfl) (by kernel_rfl)) (by kernel_rfl) (by kernel_rfl) (by kernel_rfl)
      (by rw [MakeChecks.laidMetH_plain _ _ _ (by kernel_rfl)]; exact laidMet_laidAll _ (by kernel_rfl) (by kernel_rfl))) ?_
  intro W base args ds gs before hval0 hW _ _ hL _
  rw [MakeChecks.laidMetH_plain _ _ _ (by kernel_rfl)] at hL
  have hT := p10_is hL
  have hval : ∀ (j : Nat) t v, Tryz.f6.params[j]? = some t → args[j]? = some v → Value.okWide Tryz.prog W .any base t v := hval0
  have hW' := hW
  obtain ⟨p, q, hA0, hV, rfl, hfz, hnd⟩ := hW
  have hA : DataW.TrodAll enc Tryz.prog W 0 (fun _ => true) true Tryz.f6.params.toList args.toList ds p := hA0
  rw [Tryz.params6] at hA hval
  obtain ⟨v0, d0, rfl, rfl, h0⟩ := trodAll_one hA
  obtain ⟨rfl, rfl⟩ := trodVars_none hV
  obtain ⟨s, len, cap, rfl, hcap, hcode⟩ := open_code (hval 0 22 v0 rfl rfl) h0
  clear hA0 hval0
  have hlt := fun x hx => hW'.lt x hx
  refine (FnFormatRealPercent_law s len cap W hT hcode hcap).mono fun e_ W' ⟨he, hb⟩ => ?_
  subst he
  exact ⟨_, rfl, post_of_below (pa := p) (pv := []) hW' (fun _ _ _ => trodAll_mk1 (shut_bool Tryz.underlying4 true)) (fun sp hsp => trodAll_mk1 (code_back h0 hb (fun x hx => hlt x (by simp [hx])) (fun x hx => hsp x (by simp [hx])))) (fun _ _ => rfl) (by simp) hb (ok_one (by kernel_rfl) rfl (okWide_bool_mk Tryz.underlying4 true))⟩


theorem and_t {a b : Bool} (h : a = true) (k : b = true) : (a && b) = true := by rw [h, k]; rfl
theorem FnFormatRealPercent_q1 : (Rows.fnFormatRealPercentRow.wf (OpenSpec.ofChange Rows.fnFormatRealPercentSpec)) = true := by kernel_rfl
theorem FnFormatRealPercent_q2 : (laidOutB Tryz.prog) = true := by kernel_rfl
theorem FnFormatRealPercent_q3 : (mapsRowed Tryz.prog) = true := by kernel_rfl
theorem FnFormatRealPercent_q4 : (Tryz.f6.params.all (Tryz.prog.readableRec ·)) = true := by kernel_rfl
theorem FnFormatRealPercent_q5 : (namedTie Tryz.prog Rows.fnFormatRealPercentRow.named Rows.fnFormatRealPercentSpec.vars) = true := by kernel_rfl
theorem FnFormatRealPercent_q6 : ((Rows.fnFormatRealPercentRow.stops == [])) = true := by kernel_rfl
theorem FnFormatRealPercent_q7 : ((Tryz.prog.stops == [])) = true := by kernel_rfl
theorem FnFormatRealPercent_q8 : ((Rows.fnFormatRealPercentRow.knobs == [])) = true := by kernel_rfl
theorem FnFormatRealPercent_q9 : ((Tryz.prog.stopKnobs == [])) = true := by kernel_rfl
theorem FnFormatRealPercent_q10 : ((Rows.fnFormatRealPercentRow.inPlace == Tryz.prog.inPlace 6)) = true := by kernel_rfl
theorem FnFormatRealPercent_q11 : ((Rows.fnFormatRealPercentRow.unfollowed == Tryz.prog.unfollowed 6)) = true := by kernel_rfl
theorem FnFormatRealPercent_q12 : ((Rows.fnFormatRealPercentRow.recurses == Tryz.prog.recurses 6)) = true := by kernel_rfl
theorem FnFormatRealPercent_q13 : ((Rows.fnFormatRealPercentRow.named == Tryz.prog.varsNamed 6)) = true := by kernel_rfl
theorem FnFormatRealPercent_q14 : ((Rows.fnFormatRealPercentRow.maps == (Tryz.f6.params.toList ++ Rows.fnFormatRealPercentSpec.plain.varTypes Tryz.prog).any (Tryz.prog.mapsRec ·))) = true := by kernel_rfl
theorem FnFormatRealPercent_q15 : ((Rows.fnFormatRealPercentRow.ifaces == (Tryz.f6.params.toList ++ Rows.fnFormatRealPercentSpec.plain.varTypes Tryz.prog).any (Tryz.prog.ifacesRec ·))) = true := by kernel_rfl
theorem FnFormatRealPercent_q16 : ((Rows.fnFormatRealPercentRow.mapsOut == Tryz.prog.mapsAmong Tryz.f6.resultTypes.toList)) = true := by kernel_rfl
theorem FnFormatRealPercent_q17 : ((Rows.fnFormatRealPercentRow.loops == (Tryz.f6.params.toList ++ Rows.fnFormatRealPercentSpec.plain.varTypes Tryz.prog).any (Tryz.prog.loopsFrom ·))) = true := by kernel_rfl
theorem FnFormatRealPercent_q18 : ((Rows.fnFormatRealPercentRow.wideKeys == (Tryz.f6.params.toList ++ Rows.fnFormatRealPercentSpec.plain.varTypes Tryz.prog ++ Tryz.f6.resultTypes.toList).any (Tryz.prog.wideKeysFrom ·))) = true := by kernel_rfl
theorem FnFormatRealPercent_q19 : (Rows.fnFormatRealPercentSpec.vars.all (Tryz.prog.varReadable ·)) = true := by kernel_rfl
theorem FnFormatRealPercent_q20 : (Tryz.f6.resultTypes.all (fun t => Tryz.prog.readableRec t && decide (t < Tryz.prog.types.size))) = true := by kernel_rfl
theorem FnFormatRealPercent_q21 : ((Rows.fnFormatRealPercentRow.ifacesOut == Tryz.f6.resultTypes.toList.any (Tryz.prog.ifacesRec ·))) = true := by kernel_rfl
theorem FnFormatRealPercent_q22 : ((Rows.fnFormatRealPercentRow.loopsOut == Tryz.f6.resultTypes.toList.any (Tryz.prog.loopsFrom ·))) = true := by kernel_rfl
theorem FnFormatRealPercent_q23 : ((Rows.fnFormatRealPercentRow.plainKeys == Tryz.prog.plainKeys)) = true := by kernel_rfl
theorem FnFormatRealPercent_q24 : (Rows.fnFormatRealPercentRow.shortTexts.isNone) = true := by kernel_rfl
theorem FnFormatRealPercent_q25 : (Tryz.prog.stopsHeard) = true := by kernel_rfl
theorem FnFormatRealPercent_q26 : (Tryz.prog.mayEnter) = true := by kernel_rfl
theorem FnFormatRealPercent_q27 : ((Rows.fnFormatRealPercentRow.lifted == Tryz.prog.liftsFinal)) = true := by kernel_rfl
theorem FnFormatRealPercent_q28 : ((Tryz.prog.make == some Rows.fnFormatRealPercentRow.make)) = true := by kernel_rfl
theorem FnFormatRealPercent_q29 : ((Rows.fnFormatRealPercentRow.kinds == (if Rows.fnFormatRealPercentRow.domain.isEmpty then [] else Tryz.f6.params.toList.map fun t => match Tryz.prog.underlying t with | some (.int k) => some k | _ => none))) = true := by kernel_rfl
theorem FnFormatRealPercent_q30 : ((Rows.fnFormatRealPercentRow.pinned == Rows.fnFormatRealPercentRow.pinnedBy)) = true := by kernel_rfl
theorem FnFormatRealPercent_q31 : ((Rows.fnFormatRealPercentRow.veiled == (Tryz.f6.params.toList ++ Rows.fnFormatRealPercentSpec.plain.varTypes Tryz.prog ++ Tryz.f6.resultTypes.toList).any (Tryz.prog.veiledRec ·))) = true := by kernel_rfl
theorem FnFormatRealPercent_q32 : (Rows.fnFormatRealPercentRow.veiledFits Tryz.prog Tryz.f6.params.toList (Tryz.f6.params.toList ++ Rows.fnFormatRealPercentSpec.plain.varTypes Tryz.prog ++ Tryz.f6.resultTypes.toList)) = true := by kernel_rfl
set_option maxRecDepth 100000 in
theorem FnFormatRealPercent_jf : joinedFacts Tryz.prog 6 Tryz.f6 Rows.fnFormatRealPercentSpec Rows.fnFormatRealPercentRow = true := by
  unfold joinedFacts
  exact and_t (and_t (and_t (and_t (and_t (and_t (and_t (and_t (and_t (and_t (and_t (and_t (and_t (and_t (and_t (and_t (and_t (and_t (and_t (and_t (and_t (and_t (and_t (and_t (and_t (and_t (and_t (and_t (and_t (and_t (and_t (FnFormatRealPercent_q1) FnFormatRealPercent_q2) FnFormatRealPercent_q3) FnFormatRealPercent_q4) FnFormatRealPercent_q5) FnFormatRealPercent_q6) FnFormatRealPercent_q7) FnFormatRealPercent_q8) FnFormatRealPercent_q9) FnFormatRealPercent_q10) FnFormatRealPercent_q11) FnFormatRealPercent_q12) FnFormatRealPercent_q13) FnFormatRealPercent_q14) FnFormatRealPercent_q15) FnFormatRealPercent_q16) FnFormatRealPercent_q17) FnFormatRealPercent_q18) FnFormatRealPercent_q19) FnFormatRealPercent_q20) FnFormatRealPercent_q21) FnFormatRealPercent_q22) FnFormatRealPercent_q23) FnFormatRealPercent_q24) FnFormatRealPercent_q25) FnFormatRealPercent_q26) FnFormatRealPercent_q27) FnFormatRealPercent_q28) FnFormatRealPercent_q29) FnFormatRealPercent_q30) FnFormatRealPercent_q31) FnFormatRealPercent_q32
theorem FnFormatRealPercent_fn : Tryz.prog.funcNamed Rows.fnFormatRealPercentRow.func = some 6 := by kernel_rfl
theorem FnFormatRealPercent_fn2 : Tryz.prog.funcNamed "loop.example/formatplans/laws.FnFormatRealPercent" = some 6 := by kernel_rfl
theorem FnFormatRealPercent_lo : false = Tryz.prog.looks [] := by kernel_rfl
theorem FnFormatRealPercent_wf : Rows.fnFormatRealPercentRow.wfByText (OpenSpec.ofChange Rows.fnFormatRealPercentSpec) = true := by kernel_rfl
theorem FnFormatRealPercent_go : false = Rows.fnFormatRealPercentRow.goesBy Tryz.prog := by kernel_rfl
theorem FnFormatRealPercent_wr : Tryz.f6.isWrapper Tryz.prog Rows.fnFormatRealPercentRow.wrapper Rows.fnFormatRealPercentRow.mainSum := by unfold Func.isWrapper; first | (rw [if_pos (by decide +kernel)]; kernel_rfl) | (rw [if_neg (by decide +kernel)]; exact ⟨rfl, rfl⟩)
theorem FnFormatRealPercent_mi : Tryz.prog.mainIs = some (true, "6933efefb6e096d9a2a014b580faf256fe9a780daa6d240b09c62b53f6401334".toList) := by kernel_rfl
theorem FnFormatRealPercent_st : ([22].all fun u => !Tryz.prog.wantsStandIn u) = true := by kernel_rfl
theorem FnFormatRealPercent_holds : Rows.FnFormatRealPercentSaid :=
  OpenClaim.holds_of_wide 6 Tryz.f6 rfl rfl rfl rfl rfl rfl rfl ⟨rfl, rfl, rfl, rfl, rfl⟩ rfl rfl rfl rfl rfl FnFormatRealPercent_fn Tryz.func6 FnFormatRealPercent_jf
    (of_decide_eq_true (by kernel_rfl)) FnFormatRealPercent_wr
    (fun os started H enc _ => FnFormatRealPercent_lifted os started H enc)

theorem FnFormatRealPercent_card : Rows.FnFormatRealPercentCardSaid :=
  Claim7.holds_tied_plain_at .later [] [.data, .data, .data, .data, .pinned, .pinned] true (true, "6933efefb6e096d9a2a014b580faf256fe9a780daa6d240b09c62b53f6401334") false
    FnFormatRealPercent_holds (fun _ h => by cases h) FnFormatRealPercent_wf (fun _ h => by cases h) fnFormatRealPercent_row_tie rfl ⟨rfl, rfl⟩ FnFormatRealPercent_mi rfl
    (fun f fn hf hfn => by
      obtain rfl : f = 6 := Option.some.inj (FnFormatRealPercent_fn2.symm.trans hf) |>.symm
      obtain rfl : fn = Tryz.f6 := (Option.some.inj (Tryz.func6.symm.trans hfn)).symm
      exact ⟨FnFormatRealPercent_lo, fun j t ht => by
        rw [Tryz.params6] at ht
        have hm : t ∈ [22] := by simpa using Array.mem_of_getElem? ht
        have hall := FnFormatRealPercent_st
        exact (show Tryz.prog.wantsStandIn t = false by simpa using List.all_eq_true.1 hall t hm)⟩)
    FnFormatRealPercent_go
end Go.Proofs.YtejganoipbblcaaGreatDoor
