import Derived.Test.YtehocgedlepajaaS8
namespace Go.Proofs.Ytehocgedlepajaa
open Go.RowKit

theorem kbA {B : Nat} {W w0 w1 : World} (hS : (∀ b o, b < B → w0.cell? ⟨b, o, none⟩ = W.cell? ⟨b, o, none⟩) ∧ Below B W w0 ∧ B ≤ w0.heap.size) (hb : Below w0.heap.size w0 w1) :
    (∀ b o, b < B → w1.cell? ⟨b, o, none⟩ = W.cell? ⟨b, o, none⟩) ∧ Below B W w1 ∧ B ≤ w1.heap.size :=
  have h := hS.2.1.trans (hb.mono hS.2.2)
  ⟨fun b o hlt => h.cell (p := ⟨b, o, none⟩) hlt, h, Nat.le_trans hS.2.2 hb.size⟩
theorem kbD {B : Nat} {W w0 : World} (hS : (∀ b o, b < B → w0.cell? ⟨b, o, none⟩ = W.cell? ⟨b, o, none⟩) ∧ Below B W w0 ∧ B ≤ w0.heap.size) :
    (∀ b o, b < B → w0.drew.cell? ⟨b, o, none⟩ = W.cell? ⟨b, o, none⟩) ∧ Below B W w0.drew ∧ B ≤ w0.drew.heap.size := ⟨hS.1, hS.2.1.drew, hS.2.2⟩
theorem kbS {B : Nat} {W w0 : World} {p : Addr} (hS : (∀ b o, b < B → w0.cell? ⟨b, o, none⟩ = W.cell? ⟨b, o, none⟩) ∧ Below B W w0 ∧ B ≤ w0.heap.size) (hp : B ≤ p.block) (u : Value) :
    (∀ b o, b < B → (w0.setCell p u).cell? ⟨b, o, none⟩ = W.cell? ⟨b, o, none⟩) ∧ Below B W (w0.setCell p u) ∧ B ≤ (w0.setCell p u).heap.size :=
  have h := hS.2.1.setCell hp u
  ⟨fun b o hlt => h.cell (p := ⟨b, o, none⟩) hlt, h, by simpa [World.setCell] using hS.2.2⟩
theorem sum_bd2 {n1 n2 : Bool} {c1 c2 P : Int} (e1 e2 : Int) (a0 : 0 ≤ c1) (a1 : c1 ≤ 999999999) (d0 : 0 ≤ c2) (d1 : c2 ≤ 999999999) (h5 : 1 ≤ P) (h6 : P ≤ 1000000000) :
    -999999999 ≤ Fd.sc ⟨n2, c2, e2⟩ ∧ Fd.sc ⟨n2, c2, e2⟩ ≤ 999999999 ∧ -999999999000000000 ≤ Fd.sc ⟨n1, c1, e1⟩ * P ∧ Fd.sc ⟨n1, c1, e1⟩ * P ≤ 999999999000000000 := by
  have h : 0 ≤ c1 * P := Int.mul_nonneg a0 (by omega)
  have h' : c1 * P ≤ 999999999 * 1000000000 := Int.mul_le_mul a1 h6 (by omega) (by omega)
  have e : Fd.sc ⟨n1, c1, e1⟩ * P = c1 * P ∨ Fd.sc ⟨n1, c1, e1⟩ * P = -(c1 * P) := by
    unfold Fd.sc; simp only; split
    · right; rw [Int.neg_mul]
    · left; rfl
  have f : Fd.sc ⟨n2, c2, e2⟩ = c2 ∨ Fd.sc ⟨n2, c2, e2⟩ = -c2 := by
    unfold Fd.sc; simp only; split
    · right; rfl
    · left; rfl
  omega
/-- the bound for what is put back, by the amounts -/
theorem from_bd {a b : Fd.D} (ha : NF a) (hb : NF b) (hle : b.e ≤ a.e) :
    12 < (Fd.normal2 (Fd.fromS (Fd.sc a * Fd.p10 (a.e - b.e) + Fd.sc b) b.e)).e → (Fd.normal2 (Fd.fromS (Fd.sc a * Fd.p10 (a.e - b.e) + Fd.sc b) b.e)).c ≤ 2000000000 := by
  intro h12
  obtain ⟨a0, a1, a2, a3, _, a5, _⟩ := ha
  obtain ⟨d0, d1, d2, d3, _, d5, _⟩ := hb
  have hc := Fd.fromS_c (Fd.sc a * Fd.p10 (a.e - b.e) + Fd.sc b) b.e
  have he : (Fd.fromS (Fd.sc a * Fd.p10 (a.e - b.e) + Fd.sc b) b.e).e = b.e := rfl
  generalize hF : Fd.fromS (Fd.sc a * Fd.p10 (a.e - b.e) + Fd.sc b) b.e = F at *
  have hV : Fd.V F = (Fd.sc a * Fd.p10 (a.e - b.e) + Fd.sc b) * Fd.p10 (b.e + 24) := by rw [← hF]; exact Fd.V_fromS _ _
  have hV2 : Fd.V F = Fd.V a + Fd.V b := by
    rw [hV, Fd.V_sc, Fd.V_sc, Int.add_mul, Int.mul_assoc, ← Fd.p10_add (by omega) (by omega)]
    congr 3; omega
  have hU : Fd.U F.c F.e ≤ Fd.U a.c a.e + Fd.U b.c b.e := by
    have ga := Fd.U_nonneg (e := a.e) a0
    have gb := Fd.U_nonneg (e := b.e) d0
    unfold Fd.V at hV2
    split at hV2 <;> split at hV2 <;> split at hV2 <;> omega
  by_cases hz : F.c = 0
  · unfold Fd.normal2 at h12; rw [if_pos hz] at h12; simp [Fd.D.z] at h12
  have e : Fd.normal2 F = ⟨F.n, (Fd.strip2 F.c F.e).1, (Fd.strip2 F.c F.e).2⟩ := by unfold Fd.normal2; rw [if_neg hz]
  rw [e] at h12 ⊢
  simp only at h12 ⊢
  obtain ⟨s1, s2, s3, s4, s5⟩ := Fd.strip2_ok F.c F.e (by omega) (by omega)
  generalize Fd.strip2 F.c F.e = s at *
  have hp := Fd.p10_mono (j := 36) (k := s.2 + 24) (by omega) (by omega)
  have hu : s.1 * Fd.p10 36 ≤ Fd.U s.1 s.2 := Int.mul_le_mul_of_nonneg_left hp (by omega)
  have h2 : s.1 * Fd.p10 36 ≤ 1999999998 * Fd.p10 36 := by
    have : 1999999998 * Fd.p10 36 = 999999999 * Fd.p10 36 + 999999999 * Fd.p10 36 := by omega
    omega
  have := Int.le_of_mul_le_mul_right h2 (Fd.p10_pos 36)
  omega

set_option maxHeartbeats 8000000 in
theorem AddDecS_b2 (n : Bool) (c e : Int) (n' : Bool) (c' e' : Int) (w : World) (hv : Fd.vld ⟨n, c, e⟩ = true) (hv' : Fd.vld ⟨n', c', e'⟩ = true) (n1 : Bool) (c1 e1 : Int) (n2 : Bool) (c2 e2 : Int) (hc1 : (c1 == 0) = false) (hc2 : (c2 == 0) = false) (hA : Fd.normal2 ⟨n, c, e⟩ = ⟨n1, c1, e1⟩) (hB : Fd.normal2 ⟨n', c', e'⟩ = ⟨n2, c2, e2⟩) (hlt : ¬ e1 < e2) (h9 : ¬ 9 < e1 - e2) (hfr : 12 < (Fd.normal2 (Fd.fromS (Fd.sc ⟨n1, c1, e1⟩ * Fd.p10 (e1 - e2) + Fd.sc ⟨n2, c2, e2⟩) e2)).e → (Fd.normal2 (Fd.fromS (Fd.sc ⟨n1, c1, e1⟩ * Fd.p10 (e1 - e2) + Fd.sc ⟨n2, c2, e2⟩) e2)).c ≤ 2000000000) :
    Calls Try.prog 31 #[.agg #[.bool n, .int .i64 c, .int .i64 e], .agg #[.bool n', .int .i64 c', .int .i64 e']] w fun r w' => r = .returned (.tuple #[.agg #[.bool (Fd.fit2 (Fd.normal2 (Fd.fromS (Fd.sc ⟨n1, c1, e1⟩ * Fd.p10 (e1 - e2) + Fd.sc ⟨n2, c2, e2⟩) e2))).1.n, .int .i64 (Fd.fit2 (Fd.normal2 (Fd.fromS (Fd.sc ⟨n1, c1, e1⟩ * Fd.p10 (e1 - e2) + Fd.sc ⟨n2, c2, e2⟩) e2))).1.c, .int .i64 (Fd.fit2 (Fd.normal2 (Fd.fromS (Fd.sc ⟨n1, c1, e1⟩ * Fd.p10 (e1 - e2) + Fd.sc ⟨n2, c2, e2⟩) e2))).1.e], .bool (Fd.fit2 (Fd.normal2 (Fd.fromS (Fd.sc ⟨n1, c1, e1⟩ * Fd.p10 (e1 - e2) + Fd.sc ⟨n2, c2, e2⟩) e2))).2]) ∧ Below w.heap.size w w' := by
  have q1 := fun W => validS_any n c e W
  have q2 := fun W => validS_any n' c' e' W
  rw [hv] at q1
  rw [hv'] at q2
  obtain ⟨b1, b2, b3, b4⟩ := bounds_of hv
  obtain ⟨b1', b2', b3', b4'⟩ := bounds_of hv'
  have q3 := fun W => normalS_any n c e W b1 (by omega) (by omega) (by omega)
  have q4 := fun W => normalS_any n' c' e' W b1' (by omega) (by omega) (by omega)
  obtain ⟨a0, a1, a2, a3, _, _, a4⟩ := nfacts (Fd.vld_iff.1 hv)
  obtain ⟨d0, d1, d2, d3, _, _, d4⟩ := nfacts (Fd.vld_iff.1 hv')
  rw [hA] at q3 a0 a1 a2 a3 a4
  rw [hB] at q4 d0 d1 d2 d3 d4
  dsimp only at q3 q4 a0 a1 a2 a3 a4 d0 d1 d2 d3 d4
  clear hv hv' hA hB b1 b2 b3 b4 b1' b2' b3' b4'
  have Q1 := Lib.hid q1; have Q2 := Lib.hid q2; have Q3 := Lib.hid q3; have Q4 := Lib.hid q4
  clear q1 q2 q3 q4
  have za := ((C3.new w (.bool n) (.int .i64 c) (.int .i64 e) 24).up (.cells #[.bool n', .int .i64 c', .int .i64 e'] 24)).up (.cells #[.bool false, .int .i64 0, .int .i64 0] 24)
  have zb : C3 (((w.alloc (.cells #[.bool n, .int .i64 c, .int .i64 e] 24)).alloc (.cells #[.bool n', .int .i64 c', .int .i64 e'] 24)).alloc (.cells #[.bool false, .int .i64 0, .int .i64 0] 24)) (w.heap.size + 1) (.bool n') (.int .i64 c') (.int .i64 e') := by
    have := (C3.new (w.alloc (.cells #[.bool n, .int .i64 c, .int .i64 e] 24)) (.bool n') (.int .i64 c') (.int .i64 e') 24).up (.cells #[.bool false, .int .i64 0, .int .i64 0] 24)
    simpa using this
  have zc : C3 (((w.alloc (.cells #[.bool n, .int .i64 c, .int .i64 e] 24)).alloc (.cells #[.bool n', .int .i64 c', .int .i64 e'] 24)).alloc (.cells #[.bool false, .int .i64 0, .int .i64 0] 24)) (w.heap.size + 1 + 1) (.bool false) (.int .i64 0) (.int .i64 0) := by
    have := C3.new ((w.alloc (.cells #[.bool n, .int .i64 c, .int .i64 e] 24)).alloc (.cells #[.bool n', .int .i64 c', .int .i64 e'] 24)) (.bool false) (.int .i64 0) (.int .i64 0) 24
    simpa using this
  have zz := zb
  obtain ⟨x0, x1, x2, x3, x4, x5, x6⟩ := zz
  have zz := zc
  obtain ⟨x0, x1, x2, x3, x4, x5, x6⟩ := zz
  go_enter Try.func31, Try.ntmps31
  go_wp2_with (first | (go_at_call 57; (with_reducible refine Calls.mono (Q1.out _) ?_); rintro r w1 ⟨rfl, hb⟩; have hB : Below w.heap.size w w1 := (by refine Below.trans ?_ (hb.mono (by first | omega | (simp; done) | (simp <;> omega))); repeat (first | with_reducible exact Below.refl _ _ | with_reducible assumption | with_reducible refine Below.setCell ?_ (by first | omega | (simp; done) | (simp <;> omega)) _ | with_reducible refine below_drewN ?_ _ | with_reducible refine Below.drew ?_ | with_reducible refine Below.alloc ?_ (by first | omega | (simp; done) | (simp <;> omega)) _)); have hz := hb.size; (try simp at hz); (try (have zN := C3.carry (by first | with_reducible exact za | with_reducible exact za.up _ | with_reducible exact (za.up _).up _ | with_reducible exact C3.drew za | with_reducible exact (C3.drew za).up _) hb; clear za; have za := zN; clear zN; have zz := za; obtain ⟨x0, x1, x2, x3, x4, x5, x6⟩ := zz)); (try (have zN := C3.carry (by first | with_reducible exact zb | with_reducible exact zb.up _ | with_reducible exact (zb.up _).up _ | with_reducible exact C3.drew zb | with_reducible exact (C3.drew zb).up _) hb; clear zb; have zb := zN; clear zN; have zz := zb; obtain ⟨x0, x1, x2, x3, x4, x5, x6⟩ := zz)); (try (have zN := C3.carry (by first | with_reducible exact zc | with_reducible exact zc.up _ | with_reducible exact (zc.up _).up _ | with_reducible exact C3.drew zc | with_reducible exact (C3.drew zc).up _) hb; clear zc; have zc := zN; clear zN; have zz := zc; obtain ⟨x0, x1, x2, x3, x4, x5, x6⟩ := zz)); (try (have zN := C3.carry (by first | with_reducible exact zd | with_reducible exact zd.up _ | with_reducible exact (zd.up _).up _ | with_reducible exact C3.drew zd | with_reducible exact (C3.drew zd).up _) hb; clear zd; have zd := zN; clear zN; have zz := zd; obtain ⟨x0, x1, x2, x3, x4, x5, x6⟩ := zz)); (try (have zN := C3.carry (by first | with_reducible exact ze | with_reducible exact ze.up _ | with_reducible exact (ze.up _).up _ | with_reducible exact C3.drew ze | with_reducible exact (C3.drew ze).up _) hb; clear ze; have ze := zN; clear zN; have zz := ze; obtain ⟨x0, x1, x2, x3, x4, x5, x6⟩ := zz)); (try (have zN := C3.carry (by first | with_reducible exact zf | with_reducible exact zf.up _ | with_reducible exact (zf.up _).up _ | with_reducible exact C3.drew zf | with_reducible exact (C3.drew zf).up _) hb; clear zf; have zf := zN; clear zN; have zz := zf; obtain ⟨x0, x1, x2, x3, x4, x5, x6⟩ := zz)); (try (first | (have zT := za; clear zT; (first | (have zT := zb; clear zT; (first | (have zT := zc; clear zT; (first | (have zT := zd; clear zT; (first | (have zT := ze; clear zT; (first | (have zT := zf; clear zT; (skip)) | (have zf := C3.carry (C3.new _ _ _ _ _) hb; have zz := zf; obtain ⟨x0, x1, x2, x3, x4, x5, x6⟩ := zz))) | (have ze := C3.carry (C3.new _ _ _ _ _) hb; have zz := ze; obtain ⟨x0, x1, x2, x3, x4, x5, x6⟩ := zz))) | (have zd := C3.carry (C3.new _ _ _ _ _) hb; have zz := zd; obtain ⟨x0, x1, x2, x3, x4, x5, x6⟩ := zz))) | (have zc := C3.carry (C3.new _ _ _ _ _) hb; have zz := zc; obtain ⟨x0, x1, x2, x3, x4, x5, x6⟩ := zz))) | (have zb := C3.carry (C3.new _ _ _ _ _) hb; have zz := zb; obtain ⟨x0, x1, x2, x3, x4, x5, x6⟩ := zz))) | (have za := C3.carry (C3.new _ _ _ _ _) hb; have zz := za; obtain ⟨x0, x1, x2, x3, x4, x5, x6⟩ := zz)))) | (go_at_call 57; (with_reducible refine Calls.mono (Q2.out _) ?_); rintro r w1 ⟨rfl, hb⟩; have hB : Below w.heap.size w w1 := (by refine Below.trans ?_ (hb.mono (by first | omega | (simp; done) | (simp <;> omega))); repeat (first | with_reducible exact Below.refl _ _ | with_reducible assumption | with_reducible refine Below.setCell ?_ (by first | omega | (simp; done) | (simp <;> omega)) _ | with_reducible refine below_drewN ?_ _ | with_reducible refine Below.drew ?_ | with_reducible refine Below.alloc ?_ (by first | omega | (simp; done) | (simp <;> omega)) _)); have hz := hb.size; (try simp at hz); (try (have zN := C3.carry (by first | with_reducible exact za | with_reducible exact za.up _ | with_reducible exact (za.up _).up _ | with_reducible exact C3.drew za | with_reducible exact (C3.drew za).up _) hb; clear za; have za := zN; clear zN; have zz := za; obtain ⟨x0, x1, x2, x3, x4, x5, x6⟩ := zz)); (try (have zN := C3.carry (by first | with_reducible exact zb | with_reducible exact zb.up _ | with_reducible exact (zb.up _).up _ | with_reducible exact C3.drew zb | with_reducible exact (C3.drew zb).up _) hb; clear zb; have zb := zN; clear zN; have zz := zb; obtain ⟨x0, x1, x2, x3, x4, x5, x6⟩ := zz)); (try (have zN := C3.carry (by first | with_reducible exact zc | with_reducible exact zc.up _ | with_reducible exact (zc.up _).up _ | with_reducible exact C3.drew zc | with_reducible exact (C3.drew zc).up _) hb; clear zc; have zc := zN; clear zN; have zz := zc; obtain ⟨x0, x1, x2, x3, x4, x5, x6⟩ := zz)); (try (have zN := C3.carry (by first | with_reducible exact zd | with_reducible exact zd.up _ | with_reducible exact (zd.up _).up _ | with_reducible exact C3.drew zd | with_reducible exact (C3.drew zd).up _) hb; clear zd; have zd := zN; clear zN; have zz := zd; obtain ⟨x0, x1, x2, x3, x4, x5, x6⟩ := zz)); (try (have zN := C3.carry (by first | with_reducible exact ze | with_reducible exact ze.up _ | with_reducible exact (ze.up _).up _ | with_reducible exact C3.drew ze | with_reducible exact (C3.drew ze).up _) hb; clear ze; have ze := zN; clear zN; have zz := ze; obtain ⟨x0, x1, x2, x3, x4, x5, x6⟩ := zz)); (try (have zN := C3.carry (by first | with_reducible exact zf | with_reducible exact zf.up _ | with_reducible exact (zf.up _).up _ | with_reducible exact C3.drew zf | with_reducible exact (C3.drew zf).up _) hb; clear zf; have zf := zN; clear zN; have zz := zf; obtain ⟨x0, x1, x2, x3, x4, x5, x6⟩ := zz)); (try (first | (have zT := za; clear zT; (first | (have zT := zb; clear zT; (first | (have zT := zc; clear zT; (first | (have zT := zd; clear zT; (first | (have zT := ze; clear zT; (first | (have zT := zf; clear zT; (skip)) | (have zf := C3.carry (C3.new _ _ _ _ _) hb; have zz := zf; obtain ⟨x0, x1, x2, x3, x4, x5, x6⟩ := zz))) | (have ze := C3.carry (C3.new _ _ _ _ _) hb; have zz := ze; obtain ⟨x0, x1, x2, x3, x4, x5, x6⟩ := zz))) | (have zd := C3.carry (C3.new _ _ _ _ _) hb; have zz := zd; obtain ⟨x0, x1, x2, x3, x4, x5, x6⟩ := zz))) | (have zc := C3.carry (C3.new _ _ _ _ _) hb; have zz := zc; obtain ⟨x0, x1, x2, x3, x4, x5, x6⟩ := zz))) | (have zb := C3.carry (C3.new _ _ _ _ _) hb; have zz := zb; obtain ⟨x0, x1, x2, x3, x4, x5, x6⟩ := zz))) | (have za := C3.carry (C3.new _ _ _ _ _) hb; have zz := za; obtain ⟨x0, x1, x2, x3, x4, x5, x6⟩ := zz)))) | (go_at_call_of 63 (Value.agg #[.bool n, .int .i64 c, .int .i64 e]); (with_reducible refine Calls.mono (Q3.out _) ?_); rintro r w1 ⟨rfl, hb⟩; have hB : Below w.heap.size w w1 := (by refine Below.trans ?_ (hb.mono (by first | omega | (simp; done) | (simp <;> omega))); repeat (first | with_reducible exact Below.refl _ _ | with_reducible assumption | with_reducible refine Below.setCell ?_ (by first | omega | (simp; done) | (simp <;> omega)) _ | with_reducible refine below_drewN ?_ _ | with_reducible refine Below.drew ?_ | with_reducible refine Below.alloc ?_ (by first | omega | (simp; done) | (simp <;> omega)) _)); have hz := hb.size; (try simp at hz); (try (have zN := C3.carry (by first | with_reducible exact za | with_reducible exact za.up _ | with_reducible exact (za.up _).up _ | with_reducible exact C3.drew za | with_reducible exact (C3.drew za).up _) hb; clear za; have za := zN; clear zN; have zz := za; obtain ⟨x0, x1, x2, x3, x4, x5, x6⟩ := zz)); (try (have zN := C3.carry (by first | with_reducible exact zb | with_reducible exact zb.up _ | with_reducible exact (zb.up _).up _ | with_reducible exact C3.drew zb | with_reducible exact (C3.drew zb).up _) hb; clear zb; have zb := zN; clear zN; have zz := zb; obtain ⟨x0, x1, x2, x3, x4, x5, x6⟩ := zz)); (try (have zN := C3.carry (by first | with_reducible exact zc | with_reducible exact zc.up _ | with_reducible exact (zc.up _).up _ | with_reducible exact C3.drew zc | with_reducible exact (C3.drew zc).up _) hb; clear zc; have zc := zN; clear zN; have zz := zc; obtain ⟨x0, x1, x2, x3, x4, x5, x6⟩ := zz)); (try (have zN := C3.carry (by first | with_reducible exact zd | with_reducible exact zd.up _ | with_reducible exact (zd.up _).up _ | with_reducible exact C3.drew zd | with_reducible exact (C3.drew zd).up _) hb; clear zd; have zd := zN; clear zN; have zz := zd; obtain ⟨x0, x1, x2, x3, x4, x5, x6⟩ := zz)); (try (have zN := C3.carry (by first | with_reducible exact ze | with_reducible exact ze.up _ | with_reducible exact (ze.up _).up _ | with_reducible exact C3.drew ze | with_reducible exact (C3.drew ze).up _) hb; clear ze; have ze := zN; clear zN; have zz := ze; obtain ⟨x0, x1, x2, x3, x4, x5, x6⟩ := zz)); (try (have zN := C3.carry (by first | with_reducible exact zf | with_reducible exact zf.up _ | with_reducible exact (zf.up _).up _ | with_reducible exact C3.drew zf | with_reducible exact (C3.drew zf).up _) hb; clear zf; have zf := zN; clear zN; have zz := zf; obtain ⟨x0, x1, x2, x3, x4, x5, x6⟩ := zz)); (try (first | (have zT := za; clear zT; (first | (have zT := zb; clear zT; (first | (have zT := zc; clear zT; (first | (have zT := zd; clear zT; (first | (have zT := ze; clear zT; (first | (have zT := zf; clear zT; (skip)) | (have zf := C3.carry (C3.new _ _ _ _ _) hb; have zz := zf; obtain ⟨x0, x1, x2, x3, x4, x5, x6⟩ := zz))) | (have ze := C3.carry (C3.new _ _ _ _ _) hb; have zz := ze; obtain ⟨x0, x1, x2, x3, x4, x5, x6⟩ := zz))) | (have zd := C3.carry (C3.new _ _ _ _ _) hb; have zz := zd; obtain ⟨x0, x1, x2, x3, x4, x5, x6⟩ := zz))) | (have zc := C3.carry (C3.new _ _ _ _ _) hb; have zz := zc; obtain ⟨x0, x1, x2, x3, x4, x5, x6⟩ := zz))) | (have zb := C3.carry (C3.new _ _ _ _ _) hb; have zz := zb; obtain ⟨x0, x1, x2, x3, x4, x5, x6⟩ := zz))) | (have za := C3.carry (C3.new _ _ _ _ _) hb; have zz := za; obtain ⟨x0, x1, x2, x3, x4, x5, x6⟩ := zz)))))
  have za2 := finP za (.bool n1) (.int .i64 c1) (.int .i64 e1)
  have zb2 := ((zb.far (b := w.heap.size) (o := 0) (.bool n1) (by omega)).far (b := w.heap.size) (o := 1) (.int .i64 c1) (by omega)).far (b := w.heap.size) (o := 2) (.int .i64 e1) (by omega)
  have zc2 := ((zc.far (b := w.heap.size) (o := 0) (.bool n1) (by omega)).far (b := w.heap.size) (o := 1) (.int .i64 c1) (by omega)).far (b := w.heap.size) (o := 2) (.int .i64 e1) (by omega)
  clear za zb zc
  have hB : Below w.heap.size w (((w1.setCell ⟨w.heap.size, 0, none⟩ (.bool n1)).setCell ⟨w.heap.size, 1, none⟩ (.int .i64 c1)).setCell ⟨w.heap.size, 2, none⟩ (.int .i64 e1)) := (by repeat (first | with_reducible exact Below.refl _ _ | with_reducible assumption | with_reducible refine Below.setCell ?_ (by first | omega | (simp; done) | (simp <;> omega)) _ | with_reducible refine below_drewN ?_ _ | with_reducible refine Below.drew ?_ | with_reducible refine Below.alloc ?_ (by first | omega | (simp; done) | (simp <;> omega)) _))
  generalize hW : (((w1.setCell ⟨w.heap.size, 0, none⟩ (.bool n1)).setCell ⟨w.heap.size, 1, none⟩ (.int .i64 c1)).setCell ⟨w.heap.size, 2, none⟩ (.int .i64 e1)) = W at hB za2 zb2 zc2 ⊢
  clear hW
  have hBW := hB
  have zz := za2
  obtain ⟨x0, x1, x2, x3, x4, x5, x6⟩ := zz
  have zz := zb2
  obtain ⟨x0, x1, x2, x3, x4, x5, x6⟩ := zz
  have zz := zc2
  obtain ⟨x0, x1, x2, x3, x4, x5, x6⟩ := zz
  have za := za2; have zb := zb2; have zc := zc2
  clear za2 zb2 zc2
  clear a4 d4
  go_wp2_with (go_at_call 63; (with_reducible refine Calls.mono (Q4.out _) ?_); rintro r w1 ⟨rfl, hb⟩; have hB : Below w.heap.size w w1 := (by refine Below.trans ?_ (hb.mono (by first | omega | (simp; done) | (simp <;> omega))); repeat (first | with_reducible exact Below.refl _ _ | with_reducible assumption | with_reducible refine Below.setCell ?_ (by first | omega | (simp; done) | (simp <;> omega)) _ | with_reducible refine below_drewN ?_ _ | with_reducible refine Below.drew ?_ | with_reducible refine Below.alloc ?_ (by first | omega | (simp; done) | (simp <;> omega)) _)); have hz := hb.size; (try simp at hz); (try (have zN := C3.carry (by first | with_reducible exact za | with_reducible exact za.up _ | with_reducible exact (za.up _).up _ | with_reducible exact C3.drew za | with_reducible exact (C3.drew za).up _) hb; clear za; have za := zN; clear zN; have zz := za; obtain ⟨x0, x1, x2, x3, x4, x5, x6⟩ := zz)); (try (have zN := C3.carry (by first | with_reducible exact zb | with_reducible exact zb.up _ | with_reducible exact (zb.up _).up _ | with_reducible exact C3.drew zb | with_reducible exact (C3.drew zb).up _) hb; clear zb; have zb := zN; clear zN; have zz := zb; obtain ⟨x0, x1, x2, x3, x4, x5, x6⟩ := zz)); (try (have zN := C3.carry (by first | with_reducible exact zc | with_reducible exact zc.up _ | with_reducible exact (zc.up _).up _ | with_reducible exact C3.drew zc | with_reducible exact (C3.drew zc).up _) hb; clear zc; have zc := zN; clear zN; have zz := zc; obtain ⟨x0, x1, x2, x3, x4, x5, x6⟩ := zz)); (try (have zN := C3.carry (by first | with_reducible exact zd | with_reducible exact zd.up _ | with_reducible exact (zd.up _).up _ | with_reducible exact C3.drew zd | with_reducible exact (C3.drew zd).up _) hb; clear zd; have zd := zN; clear zN; have zz := zd; obtain ⟨x0, x1, x2, x3, x4, x5, x6⟩ := zz)); (try (have zN := C3.carry (by first | with_reducible exact ze | with_reducible exact ze.up _ | with_reducible exact (ze.up _).up _ | with_reducible exact C3.drew ze | with_reducible exact (C3.drew ze).up _) hb; clear ze; have ze := zN; clear zN; have zz := ze; obtain ⟨x0, x1, x2, x3, x4, x5, x6⟩ := zz)); (try (have zN := C3.carry (by first | with_reducible exact zf | with_reducible exact zf.up _ | with_reducible exact (zf.up _).up _ | with_reducible exact C3.drew zf | with_reducible exact (C3.drew zf).up _) hb; clear zf; have zf := zN; clear zN; have zz := zf; obtain ⟨x0, x1, x2, x3, x4, x5, x6⟩ := zz)); (try (first | (have zT := za; clear zT; (first | (have zT := zb; clear zT; (first | (have zT := zc; clear zT; (first | (have zT := zd; clear zT; (first | (have zT := ze; clear zT; (first | (have zT := zf; clear zT; (skip)) | (have zf := C3.carry (C3.new _ _ _ _ _) hb; have zz := zf; obtain ⟨x0, x1, x2, x3, x4, x5, x6⟩ := zz))) | (have ze := C3.carry (C3.new _ _ _ _ _) hb; have zz := ze; obtain ⟨x0, x1, x2, x3, x4, x5, x6⟩ := zz))) | (have zd := C3.carry (C3.new _ _ _ _ _) hb; have zz := zd; obtain ⟨x0, x1, x2, x3, x4, x5, x6⟩ := zz))) | (have zc := C3.carry (C3.new _ _ _ _ _) hb; have zz := zc; obtain ⟨x0, x1, x2, x3, x4, x5, x6⟩ := zz))) | (have zb := C3.carry (C3.new _ _ _ _ _) hb; have zz := zb; obtain ⟨x0, x1, x2, x3, x4, x5, x6⟩ := zz))) | (have za := C3.carry (C3.new _ _ _ _ _) hb; have zz := za; obtain ⟨x0, x1, x2, x3, x4, x5, x6⟩ := zz))))
  have za2 := ((za.far (b := w.heap.size + 1) (o := 0) (.bool n2) (by omega)).far (b := w.heap.size + 1) (o := 1) (.int .i64 c2) (by omega)).far (b := w.heap.size + 1) (o := 2) (.int .i64 e2) (by omega)
  have zb2 := finP zb (.bool n2) (.int .i64 c2) (.int .i64 e2)
  have zc2 := ((zc.far (b := w.heap.size + 1) (o := 0) (.bool n2) (by omega)).far (b := w.heap.size + 1) (o := 1) (.int .i64 c2) (by omega)).far (b := w.heap.size + 1) (o := 2) (.int .i64 e2) (by omega)
  clear za zb zc
  have hB : Below w.heap.size w (((w1.setCell ⟨w.heap.size + 1, 0, none⟩ (.bool n2)).setCell ⟨w.heap.size + 1, 1, none⟩ (.int .i64 c2)).setCell ⟨w.heap.size + 1, 2, none⟩ (.int .i64 e2)) := (by repeat (first | with_reducible exact Below.refl _ _ | with_reducible assumption | with_reducible refine Below.setCell ?_ (by first | omega | (simp; done) | (simp <;> omega)) _ | with_reducible refine below_drewN ?_ _ | with_reducible refine Below.drew ?_ | with_reducible refine Below.alloc ?_ (by first | omega | (simp; done) | (simp <;> omega)) _))
  generalize hW : (((w1.setCell ⟨w.heap.size + 1, 0, none⟩ (.bool n2)).setCell ⟨w.heap.size + 1, 1, none⟩ (.int .i64 c2)).setCell ⟨w.heap.size + 1, 2, none⟩ (.int .i64 e2)) = W at hB za2 zb2 zc2 ⊢
  clear hW
  have hBW := hB
  have zz := za2
  obtain ⟨x0, x1, x2, x3, x4, x5, x6⟩ := zz
  have zz := zb2
  obtain ⟨x0, x1, x2, x3, x4, x5, x6⟩ := zz
  have zz := zc2
  obtain ⟨x0, x1, x2, x3, x4, x5, x6⟩ := zz
  have hP := Fd.p10_pos (e1 - e2)
  have hP9 := Fd.p10_mono (j := e1 - e2) (k := 9) (by omega) (by omega)
  rw [Fd.p10_9] at hP9
  obtain ⟨s1, s2, s3, s4⟩ := sum_bd2 (n1 := n1) (n2 := n2) e1 e2 a0 a1 d0 d1 (by omega : 1 ≤ Fd.p10 (e1 - e2)) hP9
  have k1 := fun W => signedS_any n1 c1 e1 W a0 (by omega)
  have k2 := fun W => signedS_any n2 c2 e2 W d0 (by omega)
  have k3 := fun W => power_any (e1 - e2) W (by omega) (by omega)
  have k4 := fun W => fromSignedS_any (Fd.sc ⟨n1, c1, e1⟩ * Fd.p10 (e1 - e2) + Fd.sc ⟨n2, c2, e2⟩) e2 W (by omega) (by omega) (by omega) (by omega) hfr
  have g1 : IntKind.i64.wrap (e1 - e2) = e1 - e2 := by rw [IntKind.wrap_i64]; omega
  generalize hD : e1 - e2 = D at *
  generalize hP' : Fd.p10 D = P at *
  generalize hsa : Fd.sc ⟨n1, c1, e1⟩ = sa at *
  generalize hsb : Fd.sc ⟨n2, c2, e2⟩ = sb at *
  have g2 : IntKind.i64.wrap (sa * P) = sa * P := by rw [IntKind.wrap_i64]; omega
  generalize hM : sa * P = M at *
  have g3 : IntKind.i64.wrap (M + sb) = M + sb := by rw [IntKind.wrap_i64]; omega
  generalize hT : M + sb = T at *
  generalize hR : Fd.fit2 (Fd.normal2 (Fd.fromS T e2)) = R at *
  obtain ⟨⟨rn, rc, re⟩, rb⟩ := R
  dsimp only at k4
  have HP := Lib.hid hP'; have Hsa := Lib.hid hsa; have Hsb := Lib.hid hsb; have HR := Lib.hid hR
  clear hP' hsa hsb hR
  have K1 := Lib.hid k1; have K2 := Lib.hid k2; have K3 := Lib.hid k3; have K4 := Lib.hid k4
  clear k1 k2 k3 k4 hP hP9 s1 s2 s3 s4
  have hS0 : (∀ b o, b < w.heap.size + 1 + 1 → W.cell? ⟨b, o, none⟩ = W.cell? ⟨b, o, none⟩) ∧ Below (w.heap.size + 1 + 1) W W ∧ w.heap.size + 1 + 1 ≤ W.heap.size := ⟨fun _ _ _ => rfl, Below.refl _ _, by omega⟩
  go_region_held3 (fun w_ => (∀ b o, b < w.heap.size + 1 + 1 → w_.cell? ⟨b, o, none⟩ = W.cell? ⟨b, o, none⟩) ∧ Below (w.heap.size + 1 + 1) W w_ ∧ w.heap.size + 1 + 1 ≤ w_.heap.size) (repeat (first | with_reducible assumption | with_reducible refine kbD ?_ | with_reducible refine kbS ?_ (by first | omega | (simp; done) | (simp <;> omega)) _ | with_reducible exact kbA (by with_reducible assumption) hb)) (first
    | (go_at_call_of 69 (Value.agg #[.bool n1, .int .i64 c1, .int .i64 e1]); (with_reducible refine Calls.mono (K1.out _) ?_); rintro r w1 ⟨rfl, hb⟩; (try have zM := C3.carry (by first | with_reducible assumption | with_reducible exact C3.drew (by with_reducible assumption)) hb); (try have hSw := kbA (by with_reducible assumption) hb); have hzz := hb.size; (try (have zq := zM; obtain ⟨y0, y1, y2, y3, y4, y5, y6⟩ := zq)))
    | (go_at_call_of 69 (Value.agg #[.bool n2, .int .i64 c2, .int .i64 e2]); (with_reducible refine Calls.mono (K2.out _) ?_); rintro r w1 ⟨rfl, hb⟩; (try have zM := C3.carry (by first | with_reducible assumption | with_reducible exact C3.drew (by with_reducible assumption)) hb); (try have hSw := kbA (by with_reducible assumption) hb); have hzz := hb.size; (try (have zq := zM; obtain ⟨y0, y1, y2, y3, y4, y5, y6⟩ := zq)))
    | (go_at_call 70; (with_reducible refine Calls.mono (K3.out _) ?_); rintro r w1 ⟨rfl, rfl⟩)
    | (go_at_call 68; (with_reducible refine Calls.mono (K4.out _) ?_); rintro r w1 ⟨rfl, hb⟩; (try have zM := C3.carry (by first | with_reducible assumption | with_reducible exact C3.drew (by with_reducible assumption)) hb); (try have hSw := kbA (by with_reducible assumption) hb); have hzz := hb.size; (try (have zq := zM; obtain ⟨y0, y1, y2, y3, y4, y5, y6⟩ := zq))))
  go_wp2
  have hBf := hBW.trans (hSw.2.1.mono (show w.heap.size ≤ w.heap.size + 1 + 1 by omega))
  have hp := finP zM (.bool rn) (.int .i64 rc) (.int .i64 re)
  obtain ⟨p0, p1, p2, _, _, _, _⟩ := hp
  exact bodyPost_ret (v := .tuple #[.agg #[.bool rn, .int .i64 rc, .int .i64 re], .bool rb]) (by simp [results, Try.results31, go_sem, p0, p1, p2]) rfl ⟨by rw [hD, HP.out, Hsa.out, Hsb.out, hM, hT, HR.out], (by repeat (first | with_reducible exact Below.refl _ _ | with_reducible assumption | with_reducible refine Below.setCell ?_ (by first | omega | (simp; done) | (simp <;> omega)) _ | with_reducible refine below_drewN ?_ _ | with_reducible refine Below.drew ?_ | with_reducible refine Below.alloc ?_ (by first | omega | (simp; done) | (simp <;> omega)) _))⟩
end Go.Proofs.Ytehocgedlepajaa
