import Derived.Test.YtehocgedlepajaaD2
namespace Go.Proofs.Ytehocgedlepajaa
open Go.RowKit

def IsDec2 (r : Ending) : Prop := ∃ n c e n' c' e', r = .returned (.tuple #[.agg #[.bool n, .int .i64 c, .int .i64 e], .agg #[.bool n', .int .i64 c', .int .i64 e']])
theorem IsDec2.mk (n : Bool) (c e : Int) (n' : Bool) (c' e' : Int) : IsDec2 (.returned (.tuple #[.agg #[.bool n, .int .i64 c, .int .i64 e], .agg #[.bool n', .int .i64 c', .int .i64 e']])) := ⟨n, c, e, n', c', e', rfl⟩

set_option maxHeartbeats 2000000 in
theorem twoDecs_any (R : Nat) (K : Int) (w : World) (h : Rd R K w) (hK : K ≤ 700) :
    Calls Try.prog 64 #[.pointer (some ⟨R, 0, none⟩)] w fun r w' => IsDec2 r ∧ Rd R (K + 60) w' ∧ Kp R w.heap.size w w' := by
  have hR := h.1
  have hr := h
  have hgR : w.heap.size ≠ R := by omega
  have hgR2 : w.heap.size + 1 ≠ R := by omega
  have zA0 := (C3.new w (.bool false) (.int .i64 0) (.int .i64 0) 24).up (.cells #[.bool false, .int .i64 0, .int .i64 0] 24)
  have zB0 : C3 ((w.alloc (.cells #[.bool false, .int .i64 0, .int .i64 0] 24)).alloc (.cells #[.bool false, .int .i64 0, .int .i64 0] 24)) (w.heap.size + 1) (.bool false) (.int .i64 0) (.int .i64 0) := by
    have := C3.new (w.alloc (.cells #[.bool false, .int .i64 0, .int .i64 0] 24)) (.bool false) (.int .i64 0) (.int .i64 0) 24
    simpa using this
  go_enter Try.func64, Try.ntmps64
  go_wp2_with (first
    | (go_at_call 54; (with_reducible refine Calls.mono (someDec_any R _ _ ((hr.up _).up _) ?_) ?_); omega; rintro r wa ⟨⟨n, c, e, rfl⟩, hr, hk⟩; have hR1 := hr.1; have hz := hk.size; (try simp at hz); have zA := zA0.kp hk hgR; have zB := zB0.kp hk hgR2; clear zA0 zB0)
    | (go_at_call 54; (with_reducible refine Calls.mono (someDec_any R _ _ (hr.up _) ?_) ?_); omega; rintro r wb ⟨⟨n', c', e', rfl⟩, hr, hk⟩; have hR1 := hr.1; have hz := hk.size; (try simp at hz); have zA1 := (zA.up _).kp hk hgR; have zB1 := (zB.up _).kp hk hgR2; have zC := C3.dec hk (by omega); clear zA zB)
    | (go_at_call 81; (with_reducible refine Calls.mono (pick_any R _ _ _ (hr.up _) ?_) ?_); omega; rintro r wc ⟨⟨x, rfl, hx0, hx1⟩, hr, hk⟩; have hR1 := hr.1; have hz := hk.size; (try simp at hz); have zA2 := (zA1.up _).kp hk hgR; have zB2 := (zB1.up _).kp hk hgR2; have zC2 := (zC.up _).kp hk (by omega); have zD2 := C3.dec hk (by omega); clear zA1 zB1 zC;  (have zz := zA2; obtain ⟨a0, a1, a2, a3, a4, a5, a6⟩ := zz); (have zz := zB2; obtain ⟨b0, b1, b2, b3, b4, b5, b6⟩ := zz); (have zz := zC2; obtain ⟨c0, c1, c2, c3, c4, c5, c6⟩ := zz); (have zz := zD2; obtain ⟨d0, d1, d2, d3, d4, d5, d6⟩ := zz))
    | (go_at_call 24; (with_reducible refine Calls.mono (NormalDecS_any _ _ _ _) ?_); rintro r wd ⟨rfl, hb⟩; have hr1 := hr.carry hb; have hkb := Kp.of_below hb hR1; have hz := hb.size; have zA3 := zA2.carry hb; have zB3 := zB2.carry hb; have zC3 := zC2.carry hb; have zD3 := zD2.carry hb;  (have zz := zA3; obtain ⟨a0, a1, a2, a3, a4, a5, a6⟩ := zz); (have zz := zB3; obtain ⟨b0, b1, b2, b3, b4, b5, b6⟩ := zz); (have zz := zC3; obtain ⟨c0, c1, c2, c3, c4, c5, c6⟩ := zz); (have zz := zD3; obtain ⟨d0, d1, d2, d3, d4, d5, d6⟩ := zz)))
  · go_region
    go_wp2
    obtain ⟨p0, p1, p2, p3, p4, p5, _⟩ := finC ((((zA3.far (b := wb.heap.size) (o := 0) (.bool (Fd.ndS ⟨n, c, e⟩).n) (by omega)).far (b := wb.heap.size) (o := 1) (.int .i64 (Fd.ndS ⟨n, c, e⟩).c) (by omega)).far (b := wb.heap.size) (o := 2) (.int .i64 (Fd.ndS ⟨n, c, e⟩).e) (by omega))) ((((zB3.far (b := wb.heap.size) (o := 0) (.bool (Fd.ndS ⟨n, c, e⟩).n) (by omega)).far (b := wb.heap.size) (o := 1) (.int .i64 (Fd.ndS ⟨n, c, e⟩).c) (by omega)).far (b := wb.heap.size) (o := 2) (.int .i64 (Fd.ndS ⟨n, c, e⟩).e) (by omega))) (show w.heap.size + 1 ≠ w.heap.size by omega) (.bool n) (.int .i64 c) (.int .i64 e) (.bool (Fd.ndS ⟨n, c, e⟩).n) (.int .i64 (Fd.ndS ⟨n, c, e⟩).c) (.int .i64 (Fd.ndS ⟨n, c, e⟩).e)
    have hrm := Rd.mono (K' := K + 60) hr1 (by omega)
    exact bodyPost_ret (v := .tuple #[.agg #[.bool n, .int .i64 c, .int .i64 e], .agg #[.bool (Fd.ndS ⟨n, c, e⟩).n, .int .i64 (Fd.ndS ⟨n, c, e⟩).c, .int .i64 (Fd.ndS ⟨n, c, e⟩).e]]) (by simp [results, Try.results64, go_sem, p0, p1, p2, p3, p4, p5]) rfl ⟨IsDec2.mk _ _ _ _ _ _, (by repeat (first | with_reducible assumption | with_reducible refine Rd.up ?_ _ | with_reducible refine Rd.drew ?_ | with_reducible refine Rd.set ?_ (by first | omega | (simp; done) | (simp <;> omega)) _)), (by repeat (first | with_reducible assumption | with_reducible exact Kp.refl _ _ _ | with_reducible refine Kp.up ?_ (by first | omega | (simp; done) | (simp <;> omega)) _ | with_reducible refine Kp.set ?_ (by first | omega | (simp; done) | (simp <;> omega)) _ _ | with_reducible refine Kp.drew ?_ | with_reducible refine Kp.step ?_ (by with_reducible assumption)))⟩
  · go_region
    go_wp2
    obtain ⟨p0, p1, p2, p3, p4, p5, _⟩ := finC (zA2.far (b := wb.heap.size) (o := 2) (.int .i64 e) (by omega)) (zB2.far (b := wb.heap.size) (o := 2) (.int .i64 e) (by omega)) (show w.heap.size + 1 ≠ w.heap.size by omega) (.bool n) (.int .i64 c) (.int .i64 e) (.bool n') (.int .i64 c') (.int .i64 e)
    have hrm := Rd.mono (K' := K + 60) hr (by omega)
    exact bodyPost_ret (v := .tuple #[.agg #[.bool n, .int .i64 c, .int .i64 e], .agg #[.bool n', .int .i64 c', .int .i64 e]]) (by simp [results, Try.results64, go_sem, p0, p1, p2, p3, p4, p5]) rfl ⟨IsDec2.mk _ _ _ _ _ _, (by repeat (first | with_reducible assumption | with_reducible refine Rd.up ?_ _ | with_reducible refine Rd.drew ?_ | with_reducible refine Rd.set ?_ (by first | omega | (simp; done) | (simp <;> omega)) _)), (by repeat (first | with_reducible assumption | with_reducible exact Kp.refl _ _ _ | with_reducible refine Kp.up ?_ (by first | omega | (simp; done) | (simp <;> omega)) _ | with_reducible refine Kp.set ?_ (by first | omega | (simp; done) | (simp <;> omega)) _ _ | with_reducible refine Kp.drew ?_ | with_reducible refine Kp.step ?_ (by with_reducible assumption)))⟩
  · go_region
    go_wp2
    obtain ⟨p0, p1, p2, p3, p4, p5, _⟩ := finC (zA2) (zB2) (show w.heap.size + 1 ≠ w.heap.size by omega) (.bool n) (.int .i64 c) (.int .i64 e) (.bool n') (.int .i64 c') (.int .i64 e')
    have hrm := Rd.mono (K' := K + 60) hr (by omega)
    exact bodyPost_ret (v := .tuple #[.agg #[.bool n, .int .i64 c, .int .i64 e], .agg #[.bool n', .int .i64 c', .int .i64 e']]) (by simp [results, Try.results64, go_sem, p0, p1, p2, p3, p4, p5]) rfl ⟨IsDec2.mk _ _ _ _ _ _, (by repeat (first | with_reducible assumption | with_reducible refine Rd.up ?_ _ | with_reducible refine Rd.drew ?_ | with_reducible refine Rd.set ?_ (by first | omega | (simp; done) | (simp <;> omega)) _)), (by repeat (first | with_reducible assumption | with_reducible exact Kp.refl _ _ _ | with_reducible refine Kp.up ?_ (by first | omega | (simp; done) | (simp <;> omega)) _ | with_reducible refine Kp.set ?_ (by first | omega | (simp; done) | (simp <;> omega)) _ _ | with_reducible refine Kp.drew ?_ | with_reducible refine Kp.step ?_ (by with_reducible assumption)))⟩
end Go.Proofs.Ytehocgedlepajaa
