import Derived.Test.YtebheehjhnaklaaGreatDoorG3
import Derived.Test.YtebheehjhnaklaaGreatDoorC7
import Derived.Deep.RegionHeld3
namespace Go.Proofs.YtebheehjhnaklaaGreatDoor
open Go Go.RowKit
theorem PT.onS {w W cur : World} (hT : PT w) (hB : Below w.heap.size w W) (hS : (∀ b o, b < W.heap.size → cur.cell? ⟨b, o, none⟩ = W.cell? ⟨b, o, none⟩) ∧ Below W.heap.size W cur) (hz : w.heap.size ≤ W.heap.size) : PT cur :=
  hT.on (hB.trans (hS.2.mono hz))
theorem kBel {W w0 : World} (hS : (∀ b o, b < W.heap.size → w0.cell? ⟨b, o, none⟩ = W.cell? ⟨b, o, none⟩) ∧ Below W.heap.size W w0) : Below W.heap.size W w0 := hS.2
theorem C3.setAll {w : World} {g : Nat} {x y z : Value} (h : C3 w g x y z) (a b c : Value) : C3 (((w.setCell ⟨g, 0, none⟩ a).setCell ⟨g, 1, none⟩ b).setCell ⟨g, 2, none⟩ c) g a b c := by
  obtain ⟨h0, h1, h2, f0, f1, f2, hl⟩ := h
  have hz := (Below.setCell (p := ⟨g, 2, none⟩) (Below.setCell (p := ⟨g, 1, none⟩) (Below.setCell (p := ⟨g, 0, none⟩) (Below.refl 0 w) (Nat.zero_le _) a) (Nat.zero_le _) b) (Nat.zero_le _) c).size
  refine ⟨?_, ?_, ?_, ?_, ?_, ?_, ?_⟩ <;> first | (simp [go_sem, *]; done) | (rw [set_frozen, set_frozen, set_frozen]; assumption) | omega
set_option maxRecDepth 100000 in
set_option maxHeartbeats 8000000 in
theorem showPercent_any (f : ByteArray) (al si : Int) (alt ze : Bool) (wi gr pr : Int) (t : ByteArray) (n : Bool) (c e : Int) (P : Nat) (w : World) (hT : PT w) (hv : Fd.vld ⟨n, c, e⟩ = true) (hP : prW pr = P) (h9 : P ≤ 9) :
    Calls Tryz.prog 250 #[.agg #[.string f, .int .i64 al, .int .i64 si, .bool alt, .bool ze, .int .i64 wi, .int .i64 gr, .int .i64 pr, .string t], .agg #[.bool n, .int .i64 c, .int .i64 e]] w fun r w' => r = .returned (.agg #[.string ⟨(fxA c (e + 2) P).toArray⟩, .string ⟨(fxB c (e + 2) P).toArray⟩, .string ⟨#[37]⟩]) ∧ Below w.heap.size w w' := by
  obtain ⟨b0, b1, b2, b3⟩ := vld_b hv
  have kp := fun W => precision_any f al si alt ze wi gr pr t W
  rw [hP] at kp
  have wn : IntKind.i64.wrap (e + 2) = e + 2 := IntWalk.i64_in _ (by omega)
  have kf := fun W h => fixed_any n c (e + 2) P W b0 b1 (by omega) (by omega) (by omega) (by omega) h
  generalize fxA c (e + 2) P = A at *
  generalize fxB c (e + 2) P = B at *
  have KP := Lib.hid kp; have KF := Lib.hid kf
  clear kp kf hv hP
  have za := ((C9.new w (.string f) (.int .i64 al) (.int .i64 si) (.bool alt) (.bool ze) (.int .i64 wi) (.int .i64 gr) (.int .i64 pr) (.string t) 38).up (.cells #[.bool n, .int .i64 c, .int .i64 (e + 2)] 24)).up (.cells #[.string ⟨#[]⟩, .string ⟨#[]⟩, .string ⟨#[]⟩] 69)
  have zd : C3 (((w.alloc (.cells #[.string f, .int .i64 al, .int .i64 si, .bool alt, .bool ze, .int .i64 wi, .int .i64 gr, .int .i64 pr, .string t] 38)).alloc (.cells #[.bool n, .int .i64 c, .int .i64 (e + 2)] 24)).alloc (.cells #[.string ⟨#[]⟩, .string ⟨#[]⟩, .string ⟨#[]⟩] 69)) (w.heap.size + 1) (.bool n) (.int .i64 c) (.int .i64 (e + 2)) := by
    have h := C3.new (w.alloc (.cells #[.string f, .int .i64 al, .int .i64 si, .bool alt, .bool ze, .int .i64 wi, .int .i64 gr, .int .i64 pr, .string t] 38)) (.bool n) (.int .i64 c) (.int .i64 (e + 2)) 24
    rw [show (w.alloc (.cells #[.string f, .int .i64 al, .int .i64 si, .bool alt, .bool ze, .int .i64 wi, .int .i64 gr, .int .i64 pr, .string t] 38)).heap.size = w.heap.size + 1 by simp] at h
    exact h.up _
  have zr : C3 (((w.alloc (.cells #[.string f, .int .i64 al, .int .i64 si, .bool alt, .bool ze, .int .i64 wi, .int .i64 gr, .int .i64 pr, .string t] 38)).alloc (.cells #[.bool n, .int .i64 c, .int .i64 (e + 2)] 24)).alloc (.cells #[.string ⟨#[]⟩, .string ⟨#[]⟩, .string ⟨#[]⟩] 69)) (w.heap.size + 1 + 1) (.string ⟨#[]⟩) (.string ⟨#[]⟩) (.string ⟨#[]⟩) := by
    have h := C3.new ((w.alloc (.cells #[.string f, .int .i64 al, .int .i64 si, .bool alt, .bool ze, .int .i64 wi, .int .i64 gr, .int .i64 pr, .string t] 38)).alloc (.cells #[.bool n, .int .i64 c, .int .i64 (e + 2)] 24)) (.string ⟨#[]⟩) (.string ⟨#[]⟩) (.string ⟨#[]⟩) 69
    rw [show ((w.alloc (.cells #[.string f, .int .i64 al, .int .i64 si, .bool alt, .bool ze, .int .i64 wi, .int .i64 gr, .int .i64 pr, .string t] 38)).alloc (.cells #[.bool n, .int .i64 c, .int .i64 (e + 2)] 24)).heap.size = w.heap.size + 1 + 1 by simp] at h
    exact h
  have hB : Below w.heap.size w (((w.alloc (.cells #[.string f, .int .i64 al, .int .i64 si, .bool alt, .bool ze, .int .i64 wi, .int .i64 gr, .int .i64 pr, .string t] 38)).alloc (.cells #[.bool n, .int .i64 c, .int .i64 (e + 2)] 24)).alloc (.cells #[.string ⟨#[]⟩, .string ⟨#[]⟩, .string ⟨#[]⟩] 69)) := (((Below.refl _ _).alloc (Nat.le_refl _) _).alloc (by simp) _).alloc (by simp; omega) _
  go_enter Tryz.func250, Tryz.ntmps250
  go_upto_region 2 with (fail)
  generalize hW : (((w.alloc (.cells #[.string f, .int .i64 al, .int .i64 si, .bool alt, .bool ze, .int .i64 wi, .int .i64 gr, .int .i64 pr, .string t] 38)).alloc (.cells #[.bool n, .int .i64 c, .int .i64 (e + 2)] 24)).alloc (.cells #[.string ⟨#[]⟩, .string ⟨#[]⟩, .string ⟨#[]⟩] 69)) = W at za zd zr hB ⊢
  clear hW
  have hwz := hB.size
  have zaa := za
  obtain ⟨a0, a1, a2, a3, a4, a5, a6, a7, a8, af, az⟩ := zaa
  obtain ⟨e0, e1, e2, e3, e4, e5, e6⟩ := zd
  have zrr := zr
  obtain ⟨t0, t1, t2, t3, t4, t5, t6⟩ := zrr
  have qw0 : w.heap.size < W.heap.size := by omega
  have qw1 : w.heap.size + 1 < W.heap.size := by omega
  have hS0 : (∀ b o, b < W.heap.size → W.cell? ⟨b, o, none⟩ = W.cell? ⟨b, o, none⟩) ∧ Below W.heap.size W W := ⟨fun _ _ _ => rfl, Below.refl _ _⟩
  go_cut [5] (fun s5 wx => ∃ g : Nat, s5 = .pointer (some ⟨g, 0, none⟩) ∧ w.heap.size + 1 + 1 < g ∧ C3 wx g (.string ⟨A.toArray⟩) (.string ⟨B.toArray⟩) (.string ⟨#[]⟩) ∧ C9 wx w.heap.size (.string f) (.int .i64 al) (.int .i64 si) (.bool alt) (.bool ze) (.int .i64 wi) (.int .i64 gr) (.int .i64 pr) (.string t) ∧ C3 wx (w.heap.size + 1 + 1) (.string ⟨#[]⟩) (.string ⟨#[]⟩) (.string ⟨#[]⟩) ∧ Below w.heap.size w wx)
  case first =>
    go_region_held3 (fun w_ => (∀ b o, b < W.heap.size → w_.cell? ⟨b, o, none⟩ = W.cell? ⟨b, o, none⟩) ∧ Below W.heap.size W w_) (repeat (first | with_reducible assumption | with_reducible refine keepD ?_ | with_reducible refine keepL ?_ _ | with_reducible refine keepS ?_ (by first | omega | (simp; done) | (simp <;> omega)) _ | with_reducible exact keepA (by with_reducible assumption) hb)) (first | (go_at_call 278; (with_reducible refine Calls.mono (KP.out _) ?_); rintro r w1 ⟨rfl, hb⟩; (first | (have zN := C3.carry (by first | with_reducible exact zn | with_reducible exact zn.up _ | with_reducible exact C3.drew zn) hb; clear zn; have zn := zN; clear zN; have zz := zn; obtain ⟨n0, n1, n2, n3, n4, n5, n6⟩ := zz) | ((with_reducible have zn := C3.carry (C3.new _ _ _ _ _) hb); have zz := zn; obtain ⟨n0, n1, n2, n3, n4, n5, n6⟩ := zz) | ((with_reducible have zn := C3.carry (C3.drew (C3.new _ _ _ _ _)) hb); have zz := zn; obtain ⟨n0, n1, n2, n3, n4, n5, n6⟩ := zz) | skip); have hS1 := keepA (by repeat (first | with_reducible assumption | with_reducible refine keepD ?_ | with_reducible refine keepL ?_ _ | with_reducible refine keepS ?_ (by first | omega | (simp; omega)) _)) hb; have hzS := hS1.2.size; have hz := hb.size; (try simp at hz)) | (go_at_call 93; (with_reducible refine Calls.mono (KF.out _ (PT.onS hT hB (by repeat (first | with_reducible assumption | with_reducible refine keepD ?_ | with_reducible refine keepL ?_ _ | with_reducible refine keepS ?_ (by first | omega | (simp; omega)) _)) hwz)) ?_); rintro r w1 ⟨rfl, hb⟩; (first | (have zN := C3.carry (by first | with_reducible exact zn | with_reducible exact zn.up _ | with_reducible exact C3.drew zn) hb; clear zn; have zn := zN; clear zN; have zz := zn; obtain ⟨n0, n1, n2, n3, n4, n5, n6⟩ := zz) | ((with_reducible have zn := C3.carry (C3.new _ _ _ _ _) hb); have zz := zn; obtain ⟨n0, n1, n2, n3, n4, n5, n6⟩ := zz) | ((with_reducible have zn := C3.carry (C3.drew (C3.new _ _ _ _ _)) hb); have zz := zn; obtain ⟨n0, n1, n2, n3, n4, n5, n6⟩ := zz) | skip); have hS1 := keepA (by repeat (first | with_reducible assumption | with_reducible refine keepD ?_ | with_reducible refine keepL ?_ _ | with_reducible refine keepS ?_ (by first | omega | (simp; omega)) _)) hb; have hzS := hS1.2.size; have hz := hb.size; (try simp at hz)))
    all_goals (repeat (first | go_values | go_skip | go_guarded | go_step | go_upon))
    all_goals go_meet
    all_goals refine ⟨_, rfl, by omega, ?_, za.carry (kBel (by repeat (first | with_reducible assumption | with_reducible refine keepD ?_ | with_reducible refine keepL ?_ _ | with_reducible refine keepS ?_ (by first | omega | (simp; omega)) _))), zr.carry (kBel (by repeat (first | with_reducible assumption | with_reducible refine keepD ?_ | with_reducible refine keepL ?_ _ | with_reducible refine keepS ?_ (by first | omega | (simp; omega)) _))), hB.trans ((kBel (by repeat (first | with_reducible assumption | with_reducible refine keepD ?_ | with_reducible refine keepL ?_ _ | with_reducible refine keepS ?_ (by first | omega | (simp; omega)) _))).mono hwz)⟩
    all_goals first | exact C3.new _ _ _ _ _ | exact C3.setAll zn _ _ _
  case rest =>
    clear hS0 a0 a1 a2 a3 a4 a5 a6 a7 a8 af az e0 e1 e2 e3 e4 e5 e6 t0 t1 t2 t3 t4 t5 t6 za zr hB
    obtain ⟨g, rfl, hg, zg, za, zr, hB⟩ := hcut
    obtain ⟨a0, a1, a2, a3, a4, a5, a6, a7, a8, af, az⟩ := za
    obtain ⟨t0, t1, t2, t3, t4, t5, t6⟩ := zr
    obtain ⟨g0, g1, g2, g3, g4, g5, g6⟩ := zg
    have hgn : g ≠ w.heap.size + 1 + 1 := by omega
    have hgn2 : w.heap.size + 1 + 1 ≠ g := by omega
    have hgz := hB.size
    (repeat (first | go_values | go_skip | go_guarded | go_step | go_upon))
    all_goals refine bodyPost_ret (v := .agg #[.string ⟨A.toArray⟩, .string ⟨B.toArray⟩, .string ⟨#[37]⟩]) ?_ rfl ⟨rfl, (by repeat (first | with_reducible exact Below.refl _ _ | with_reducible assumption | with_reducible refine Below.setCell ?_ (by first | omega | (simp; done) | (simp <;> omega)) _ | with_reducible refine below_drewN ?_ _ | with_reducible refine Below.drew ?_ | with_reducible refine Below.alloc ?_ (by first | omega | (simp; done) | (simp <;> omega)) _))⟩
    all_goals simp [results, Tryz.results250, go_sem, *]
end Go.Proofs.YtebheehjhnaklaaGreatDoor
namespace Go.Proofs.YtebheehjhnaklaaGreatDoor
open Go Go.RowKit
set_option maxRecDepth 100000 in
set_option maxHeartbeats 8000000 in
theorem showScientific_any (f : ByteArray) (al si : Int) (alt ze : Bool) (wi gr pr : Int) (t : ByteArray) (n : Bool) (c e : Int) (P : Nat) (w : World) (hT : PT w) (hv : Fd.vld ⟨n, c, e⟩ = true) (hP : min (prW pr) 8 = P) (h9 : P ≤ 8) :
    Calls Tryz.prog 251 #[.agg #[.string f, .int .i64 al, .int .i64 si, .bool alt, .bool ze, .int .i64 wi, .int .i64 gr, .int .i64 pr, .string t], .agg #[.bool n, .int .i64 c, .int .i64 e]] w fun r w' => r = .returned (.agg #[.string ⟨(fxA c (e - rlI n c e (P + 1)) P).toArray⟩, .string ⟨(fxB c (e - rlI n c e (P + 1)) P).toArray⟩, .string ⟨(powL 101 (rlI n c e (P + 1))).toArray⟩]) ∧ Below w.heap.size w w' := by
  obtain ⟨b0, b1, b2, b3⟩ := vld_b hv
  have kp := fun W => precision_any f al si alt ze wi gr pr t W
  have ks := fun W h => scientific_any n c e P W hv h9 h
  generalize fxA c (e - rlI n c e (P + 1)) P = A at *
  generalize fxB c (e - rlI n c e (P + 1)) P = B at *
  generalize powL 101 (rlI n c e (P + 1)) = T at *
  generalize prW pr = pp at *
  have KP := Lib.hid kp; have KS := Lib.hid ks
  clear kp ks hv
  have za := ((C9.new w (.string f) (.int .i64 al) (.int .i64 si) (.bool alt) (.bool ze) (.int .i64 wi) (.int .i64 gr) (.int .i64 pr) (.string t) 38).up (.cells #[.bool n, .int .i64 c, .int .i64 e] 24)).up (.cells #[.string ⟨#[]⟩, .string ⟨#[]⟩, .string ⟨#[]⟩] 69)
  have zd : C3 (((w.alloc (.cells #[.string f, .int .i64 al, .int .i64 si, .bool alt, .bool ze, .int .i64 wi, .int .i64 gr, .int .i64 pr, .string t] 38)).alloc (.cells #[.bool n, .int .i64 c, .int .i64 e] 24)).alloc (.cells #[.string ⟨#[]⟩, .string ⟨#[]⟩, .string ⟨#[]⟩] 69)) (w.heap.size + 1) (.bool n) (.int .i64 c) (.int .i64 e) := by
    have h := C3.new (w.alloc (.cells #[.string f, .int .i64 al, .int .i64 si, .bool alt, .bool ze, .int .i64 wi, .int .i64 gr, .int .i64 pr, .string t] 38)) (.bool n) (.int .i64 c) (.int .i64 e) 24
    rw [show (w.alloc (.cells #[.string f, .int .i64 al, .int .i64 si, .bool alt, .bool ze, .int .i64 wi, .int .i64 gr, .int .i64 pr, .string t] 38)).heap.size = w.heap.size + 1 by simp] at h
    exact h.up _
  have zr : C3 (((w.alloc (.cells #[.string f, .int .i64 al, .int .i64 si, .bool alt, .bool ze, .int .i64 wi, .int .i64 gr, .int .i64 pr, .string t] 38)).alloc (.cells #[.bool n, .int .i64 c, .int .i64 e] 24)).alloc (.cells #[.string ⟨#[]⟩, .string ⟨#[]⟩, .string ⟨#[]⟩] 69)) (w.heap.size + 1 + 1) (.string ⟨#[]⟩) (.string ⟨#[]⟩) (.string ⟨#[]⟩) := by
    have h := C3.new ((w.alloc (.cells #[.string f, .int .i64 al, .int .i64 si, .bool alt, .bool ze, .int .i64 wi, .int .i64 gr, .int .i64 pr, .string t] 38)).alloc (.cells #[.bool n, .int .i64 c, .int .i64 e] 24)) (.string ⟨#[]⟩) (.string ⟨#[]⟩) (.string ⟨#[]⟩) 69
    rw [show ((w.alloc (.cells #[.string f, .int .i64 al, .int .i64 si, .bool alt, .bool ze, .int .i64 wi, .int .i64 gr, .int .i64 pr, .string t] 38)).alloc (.cells #[.bool n, .int .i64 c, .int .i64 e] 24)).heap.size = w.heap.size + 1 + 1 by simp] at h
    exact h
  have hB : Below w.heap.size w (((w.alloc (.cells #[.string f, .int .i64 al, .int .i64 si, .bool alt, .bool ze, .int .i64 wi, .int .i64 gr, .int .i64 pr, .string t] 38)).alloc (.cells #[.bool n, .int .i64 c, .int .i64 e] 24)).alloc (.cells #[.string ⟨#[]⟩, .string ⟨#[]⟩, .string ⟨#[]⟩] 69)) := (((Below.refl _ _).alloc (Nat.le_refl _) _).alloc (by simp) _).alloc (by simp; omega) _
  go_enter Tryz.func251, Tryz.ntmps251
  go_upto_region 1 with (fail)
  generalize hW : (((w.alloc (.cells #[.string f, .int .i64 al, .int .i64 si, .bool alt, .bool ze, .int .i64 wi, .int .i64 gr, .int .i64 pr, .string t] 38)).alloc (.cells #[.bool n, .int .i64 c, .int .i64 e] 24)).alloc (.cells #[.string ⟨#[]⟩, .string ⟨#[]⟩, .string ⟨#[]⟩] 69)) = W at za zd zr hB ⊢
  clear hW
  have hwz := hB.size
  obtain ⟨s0, s1, s2, s3, s4, s5, s6, s7, s8⟩ := C9.since za
  obtain ⟨d0, d1, d2⟩ := C3.since zd
  obtain ⟨r0, r1, r2⟩ := C3.since zr
  obtain ⟨a0, a1, a2, a3, a4, a5, a6, a7, a8, af, az⟩ := za
  obtain ⟨e0, e1, e2, e3, e4, e5, e6⟩ := zd
  have zrr := zr
  obtain ⟨t0, t1, t2, t3, t4, t5, t6⟩ := zrr
  have qf0 : ∀ (p : Since W), p.v.frozen? ⟨w.heap.size + 1 + 1, 0, none⟩ = false := fun p => (zr.carry p.h).2.2.2.1
  have qf1 : ∀ (p : Since W), p.v.frozen? ⟨w.heap.size + 1 + 1, 1, none⟩ = false := fun p => (zr.carry p.h).2.2.2.2.1
  have qf2 : ∀ (p : Since W), p.v.frozen? ⟨w.heap.size + 1 + 1, 2, none⟩ = false := fun p => (zr.carry p.h).2.2.2.2.2.1
  have ql : ∀ p : Since W, w.heap.size + 1 + 1 < p.v.heap.size := fun p => Nat.lt_of_lt_of_le t6 p.h.size
  have ql0 : ∀ p : Since W, w.heap.size < p.v.heap.size := fun p => by have := ql p; omega
  have ql1 : ∀ p : Since W, w.heap.size + 1 < p.v.heap.size := fun p => by have := ql p; omega
  have qw0 : w.heap.size < W.heap.size := by omega
  have qw1 : w.heap.size + 1 < W.heap.size := by omega
  go_region_with (first | (go_at_call 278; (with_reducible refine Calls.mono (KP.out _) ?_); rintro r w1 ⟨rfl, hb⟩; (first | (have zN := C3.carry (by first | with_reducible exact zn | with_reducible exact zn.up _ | with_reducible exact C3.drew zn) hb; clear zn; have zn := zN; clear zN; have zz := zn; obtain ⟨n0, n1, n2, n3, n4, n5, n6⟩ := zz) | ((with_reducible have zn := C3.carry (C3.new _ _ _ _ _) hb); have zz := zn; obtain ⟨n0, n1, n2, n3, n4, n5, n6⟩ := zz) | ((with_reducible have zn := C3.carry (C3.drew (C3.new _ _ _ _ _)) hb); have zz := zn; obtain ⟨n0, n1, n2, n3, n4, n5, n6⟩ := zz) | skip); obtain ⟨q, hq⟩ : ∃ q : Since W, w1 = q.v := ⟨⟨w1, Below.trans (by repeat (first | with_reducible exact Since.h _ | with_reducible exact Below.refl _ _ | with_reducible refine Below.drew ?_ | with_reducible refine below_drewN ?_ _ | with_reducible refine Below.alloc ?_ (by first | omega | exact (Since.h _).size | (simp; done)) _)) (hb.mono (by first | exact (Since.h _).size | (simp; done) | (have hs_ := (Since.h ‹Since W›).size; simp; omega) | (have hs_ := (Since.h ‹Since W›).size; omega)))⟩, rfl⟩; subst hq; clear hb) | (go_at_call 45; (with_reducible refine Calls.mono (KS.out _ (hT.on (hB.trans (Below.mono (by repeat (first | with_reducible exact Since.h _ | with_reducible exact Below.refl _ _ | with_reducible refine Below.drew ?_ | with_reducible refine below_drewN ?_ _ | with_reducible refine Below.alloc ?_ (by first | omega | exact (Since.h _).size | (simp; done)) _)) (by omega))))) ?_); rintro r w1 ⟨rfl, hb⟩; (first | (have zN := C3.carry (by first | with_reducible exact zn | with_reducible exact zn.up _ | with_reducible exact C3.drew zn) hb; clear zn; have zn := zN; clear zN; have zz := zn; obtain ⟨n0, n1, n2, n3, n4, n5, n6⟩ := zz) | ((with_reducible have zn := C3.carry (C3.new _ _ _ _ _) hb); have zz := zn; obtain ⟨n0, n1, n2, n3, n4, n5, n6⟩ := zz) | ((with_reducible have zn := C3.carry (C3.drew (C3.new _ _ _ _ _)) hb); have zz := zn; obtain ⟨n0, n1, n2, n3, n4, n5, n6⟩ := zz) | skip); obtain ⟨q, hq⟩ : ∃ q : Since W, w1 = q.v := ⟨⟨w1, Below.trans (by repeat (first | with_reducible exact Since.h _ | with_reducible exact Below.refl _ _ | with_reducible refine Below.drew ?_ | with_reducible refine below_drewN ?_ _ | with_reducible refine Below.alloc ?_ (by first | omega | exact (Since.h _).size | (simp; done)) _)) (hb.mono (by first | exact (Since.h _).size | (simp; done) | (have hs_ := (Since.h ‹Since W›).size; simp; omega) | (have hs_ := (Since.h ‹Since W›).size; omega)))⟩, rfl⟩; subst hq; clear hb))
  all_goals (repeat (first | go_values | go_skip | go_guarded | go_step | go_upon))
  all_goals refine bodyPost_ret (v := .agg #[.string ⟨A.toArray⟩, .string ⟨B.toArray⟩, .string ⟨T.toArray⟩]) ?_ rfl ⟨rfl, ?_⟩
  all_goals first | (simp [results, Tryz.results251, go_sem, *]; done) | (have hq_ := hB.trans (Below.mono (Since.h ‹Since W›) (by omega)); repeat (first | with_reducible exact Below.refl _ _ | with_reducible assumption | with_reducible refine Below.setCell ?_ (by first | omega | (simp; done) | (simp <;> omega)) _ | with_reducible refine below_drewN ?_ _ | with_reducible refine Below.drew ?_ | with_reducible refine Below.alloc ?_ (by first | omega | (simp; done) | (simp <;> omega)) _))
end Go.Proofs.YtebheehjhnaklaaGreatDoor
namespace Go.Proofs.YtebheehjhnaklaaGreatDoor
open Go Go.RowKit
theorem greater_max (a b : Int) (w : World) : Calls Tryz.prog 166 #[.int .i64 a, .int .i64 b] w fun r w' => r = .returned (.int .i64 (max a b)) ∧ w = w' := by
  by_cases h : a < b
  · rw [show max a b = b by omega]
    go_enter Tryz.func166, Tryz.ntmps166
    go_wp2
    go_ret
    exact ⟨rfl, rfl⟩
  · rw [show max a b = a by omega]
    go_enter Tryz.func166, Tryz.ntmps166
    go_wp2
    go_ret
    exact ⟨rfl, rfl⟩
set_option maxRecDepth 100000 in
set_option maxHeartbeats 8000000 in
theorem showGeneral_any (f : ByteArray) (al si : Int) (alt ze : Bool) (wi gr pr : Int) (t : ByteArray) (n : Bool) (c e : Int) (P : Nat) (w : World) (hT : PT w) (hv : Fd.vld ⟨n, c, e⟩ = true) (hP : max (prW pr) 1 = (P : Int) + 1) (h9 : P ≤ 8) :
    Calls Tryz.prog 252 #[.agg #[.string f, .int .i64 al, .int .i64 si, .bool alt, .bool ze, .int .i64 wi, .int .i64 gr, .int .i64 pr, .string t], .agg #[.bool n, .int .i64 c, .int .i64 e]] w fun r w' => r = .returned (.agg #[.string ⟨(gnA n c e P).toArray⟩, .string ⟨(if alt then gnB n c e P else trR 48 (gnB n c e P)).toArray⟩, .string ⟨(gnT n c e P).toArray⟩]) ∧ Below w.heap.size w w' := by
  obtain ⟨b0, b1, b2, b3⟩ := vld_b hv
  have kp := fun W => precision_any f al si alt ze wi gr pr t W
  have kg := fun W => general_any n c e P W hv h9
  have k1 := fun W => greater_max (prW pr) 1 W
  rw [hP] at k1
  have hl := gn_len (n := n) (c := c) (e := e) (p := P) hv h9
  generalize gnA n c e P = A at *
  generalize gnB n c e P = B at *
  generalize gnT n c e P = T at *
  generalize prW pr = pp at *
  have kt := fun W => trimmed_any A B T W (by omega)
  have KP := Lib.hid kp; have KG := Lib.hid kg; have K1 := Lib.hid k1; have KT := Lib.hid kt
  clear kp kg k1 kt hv hl
  have za := ((C9.new w (.string f) (.int .i64 al) (.int .i64 si) (.bool alt) (.bool ze) (.int .i64 wi) (.int .i64 gr) (.int .i64 pr) (.string t) 38).up (.cells #[.bool n, .int .i64 c, .int .i64 e] 24)).up (.cells #[.string ⟨#[]⟩, .string ⟨#[]⟩, .string ⟨#[]⟩] 69)
  have zd : C3 (((w.alloc (.cells #[.string f, .int .i64 al, .int .i64 si, .bool alt, .bool ze, .int .i64 wi, .int .i64 gr, .int .i64 pr, .string t] 38)).alloc (.cells #[.bool n, .int .i64 c, .int .i64 e] 24)).alloc (.cells #[.string ⟨#[]⟩, .string ⟨#[]⟩, .string ⟨#[]⟩] 69)) (w.heap.size + 1) (.bool n) (.int .i64 c) (.int .i64 e) := by
    have h := C3.new (w.alloc (.cells #[.string f, .int .i64 al, .int .i64 si, .bool alt, .bool ze, .int .i64 wi, .int .i64 gr, .int .i64 pr, .string t] 38)) (.bool n) (.int .i64 c) (.int .i64 e) 24
    rw [show (w.alloc (.cells #[.string f, .int .i64 al, .int .i64 si, .bool alt, .bool ze, .int .i64 wi, .int .i64 gr, .int .i64 pr, .string t] 38)).heap.size = w.heap.size + 1 by simp] at h
    exact h.up _
  have zr : C3 (((w.alloc (.cells #[.string f, .int .i64 al, .int .i64 si, .bool alt, .bool ze, .int .i64 wi, .int .i64 gr, .int .i64 pr, .string t] 38)).alloc (.cells #[.bool n, .int .i64 c, .int .i64 e] 24)).alloc (.cells #[.string ⟨#[]⟩, .string ⟨#[]⟩, .string ⟨#[]⟩] 69)) (w.heap.size + 1 + 1) (.string ⟨#[]⟩) (.string ⟨#[]⟩) (.string ⟨#[]⟩) := by
    have h := C3.new ((w.alloc (.cells #[.string f, .int .i64 al, .int .i64 si, .bool alt, .bool ze, .int .i64 wi, .int .i64 gr, .int .i64 pr, .string t] 38)).alloc (.cells #[.bool n, .int .i64 c, .int .i64 e] 24)) (.string ⟨#[]⟩) (.string ⟨#[]⟩) (.string ⟨#[]⟩) 69
    rw [show ((w.alloc (.cells #[.string f, .int .i64 al, .int .i64 si, .bool alt, .bool ze, .int .i64 wi, .int .i64 gr, .int .i64 pr, .string t] 38)).alloc (.cells #[.bool n, .int .i64 c, .int .i64 e] 24)).heap.size = w.heap.size + 1 + 1 by simp] at h
    exact h
  have hB : Below w.heap.size w (((w.alloc (.cells #[.string f, .int .i64 al, .int .i64 si, .bool alt, .bool ze, .int .i64 wi, .int .i64 gr, .int .i64 pr, .string t] 38)).alloc (.cells #[.bool n, .int .i64 c, .int .i64 e] 24)).alloc (.cells #[.string ⟨#[]⟩, .string ⟨#[]⟩, .string ⟨#[]⟩] 69)) := (((Below.refl _ _).alloc (Nat.le_refl _) _).alloc (by simp) _).alloc (by simp; omega) _
  go_enter Tryz.func252, Tryz.ntmps252
  go_upto_region 1 with (fail)
  generalize hW : (((w.alloc (.cells #[.string f, .int .i64 al, .int .i64 si, .bool alt, .bool ze, .int .i64 wi, .int .i64 gr, .int .i64 pr, .string t] 38)).alloc (.cells #[.bool n, .int .i64 c, .int .i64 e] 24)).alloc (.cells #[.string ⟨#[]⟩, .string ⟨#[]⟩, .string ⟨#[]⟩] 69)) = W at za zd zr hB ⊢
  clear hW
  have hwz := hB.size
  have zaa := za
  obtain ⟨a0, a1, a2, a3, a4, a5, a6, a7, a8, af, az⟩ := zaa
  obtain ⟨e0, e1, e2, e3, e4, e5, e6⟩ := zd
  have zrr := zr
  obtain ⟨t0, t1, t2, t3, t4, t5, t6⟩ := zrr
  have qw0 : w.heap.size < W.heap.size := by omega
  have qw1 : w.heap.size + 1 < W.heap.size := by omega
  have hS0 : (∀ b o, b < W.heap.size → W.cell? ⟨b, o, none⟩ = W.cell? ⟨b, o, none⟩) ∧ Below W.heap.size W W := ⟨fun _ _ _ => rfl, Below.refl _ _⟩
  go_cut [5] (fun s5 wx => ∃ g : Nat, s5 = .pointer (some ⟨g, 0, none⟩) ∧ w.heap.size + 1 + 1 < g ∧ C3 wx g (.string ⟨A.toArray⟩) (.string ⟨B.toArray⟩) (.string ⟨T.toArray⟩) ∧ C9 wx w.heap.size (.string f) (.int .i64 al) (.int .i64 si) (.bool alt) (.bool ze) (.int .i64 wi) (.int .i64 gr) (.int .i64 pr) (.string t) ∧ C3 wx (w.heap.size + 1 + 1) (.string ⟨#[]⟩) (.string ⟨#[]⟩) (.string ⟨#[]⟩) ∧ Below w.heap.size w wx)
  case first =>
    go_region_held3 (fun w_ => (∀ b o, b < W.heap.size → w_.cell? ⟨b, o, none⟩ = W.cell? ⟨b, o, none⟩) ∧ Below W.heap.size W w_) (repeat (first | with_reducible assumption | with_reducible refine keepD ?_ | with_reducible refine keepL ?_ _ | with_reducible refine keepS ?_ (by first | omega | (simp; done) | (simp <;> omega)) _ | with_reducible exact keepA (by with_reducible assumption) hb)) (first | (go_at_call 278; (with_reducible refine Calls.mono (KP.out _) ?_); rintro r w1 ⟨rfl, hb⟩; (first | (have zN := C3.carry (by first | with_reducible exact zn | with_reducible exact zn.up _ | with_reducible exact C3.drew zn) hb; clear zn; have zn := zN; clear zN; have zz := zn; obtain ⟨n0, n1, n2, n3, n4, n5, n6⟩ := zz) | ((with_reducible have zn := C3.carry (C3.new _ _ _ _ _) hb); have zz := zn; obtain ⟨n0, n1, n2, n3, n4, n5, n6⟩ := zz) | ((with_reducible have zn := C3.carry (C3.drew (C3.new _ _ _ _ _)) hb); have zz := zn; obtain ⟨n0, n1, n2, n3, n4, n5, n6⟩ := zz) | skip); have hS1 := keepA (by repeat (first | with_reducible assumption | with_reducible refine keepD ?_ | with_reducible refine keepL ?_ _ | with_reducible refine keepS ?_ (by first | omega | (simp; omega)) _)) hb; have hzS := hS1.2.size; have hz := hb.size; (try simp at hz)) | (go_at_call 166; (with_reducible refine Calls.mono (K1.out _) ?_); rintro r w1 ⟨rfl, rfl⟩) | (go_at_call 63; (with_reducible refine Calls.mono (KG.out _ (PT.onS hT hB (by repeat (first | with_reducible assumption | with_reducible refine keepD ?_ | with_reducible refine keepL ?_ _ | with_reducible refine keepS ?_ (by first | omega | (simp; omega)) _)) hwz)) ?_); rintro r w1 ⟨rfl, hb⟩; (first | (have zN := C3.carry (by first | with_reducible exact zn | with_reducible exact zn.up _ | with_reducible exact C3.drew zn) hb; clear zn; have zn := zN; clear zN; have zz := zn; obtain ⟨n0, n1, n2, n3, n4, n5, n6⟩ := zz) | ((with_reducible have zn := C3.carry (C3.new _ _ _ _ _) hb); have zz := zn; obtain ⟨n0, n1, n2, n3, n4, n5, n6⟩ := zz) | ((with_reducible have zn := C3.carry (C3.drew (C3.new _ _ _ _ _)) hb); have zz := zn; obtain ⟨n0, n1, n2, n3, n4, n5, n6⟩ := zz) | skip); have hS1 := keepA (by repeat (first | with_reducible assumption | with_reducible refine keepD ?_ | with_reducible refine keepL ?_ _ | with_reducible refine keepS ?_ (by first | omega | (simp; omega)) _)) hb; have hzS := hS1.2.size; have hz := hb.size; (try simp at hz)))
    all_goals (repeat (first | go_values | go_skip | go_guarded | go_step | go_upon))
    all_goals go_meet
    all_goals refine ⟨_, rfl, by omega, ?_, za.carry (kBel (by repeat (first | with_reducible assumption | with_reducible refine keepD ?_ | with_reducible refine keepL ?_ _ | with_reducible refine keepS ?_ (by first | omega | (simp; omega)) _))), zr.carry (kBel (by repeat (first | with_reducible assumption | with_reducible refine keepD ?_ | with_reducible refine keepL ?_ _ | with_reducible refine keepS ?_ (by first | omega | (simp; omega)) _))), hB.trans ((kBel (by repeat (first | with_reducible assumption | with_reducible refine keepD ?_ | with_reducible refine keepL ?_ _ | with_reducible refine keepS ?_ (by first | omega | (simp; omega)) _))).mono hwz)⟩
    all_goals first | exact C3.new _ _ _ _ _ | exact C3.setAll zn _ _ _
  case rest =>
    clear hS0 a0 a1 a2 a3 a4 a5 a6 a7 a8 af az e0 e1 e2 e3 e4 e5 e6 t0 t1 t2 t3 t4 t5 t6 za zr hB
    obtain ⟨g, rfl, hg, zg, za, zr, hB⟩ := hcut
    obtain ⟨a0, a1, a2, a3, a4, a5, a6, a7, a8, af, az⟩ := za
    obtain ⟨t0, t1, t2, t3, t4, t5, t6⟩ := zr
    obtain ⟨g0, g1, g2, g3, g4, g5, g6⟩ := zg
    have hgn : g ≠ w.heap.size + 1 + 1 := by omega
    have hgn2 : w.heap.size + 1 + 1 ≠ g := by omega
    have hgz := hB.size
    cases alt
    · repeat (first | (go_at_call 64; (with_reducible refine Calls.mono (KT.out _) ?_); rintro r w1 ⟨rfl, hb⟩; (have hB1 := hB.trans (hb.mono hB.size)); (have zrN := C3.carry (show C3 _ (w.heap.size + 1 + 1) (.string ⟨#[]⟩) (.string ⟨#[]⟩) (.string ⟨#[]⟩) from ⟨t0, t1, t2, t3, t4, t5, t6⟩) hb); clear t0 t1 t2 t3 t4 t5 t6 hB; obtain ⟨t0, t1, t2, t3, t4, t5, t6⟩ := zrN; have hB := hB1; (try dsimp only)) | go_values | go_skip | go_guarded | go_step | go_upon)
      all_goals refine bodyPost_ret (v := .agg #[.string ⟨A.toArray⟩, .string ⟨(trR 48 B).toArray⟩, .string ⟨T.toArray⟩]) ?_ rfl ⟨rfl, (by repeat (first | with_reducible exact Below.refl _ _ | with_reducible assumption | with_reducible refine Below.setCell ?_ (by first | omega | (simp; done) | (simp <;> omega)) _ | with_reducible refine below_drewN ?_ _ | with_reducible refine Below.drew ?_ | with_reducible refine Below.alloc ?_ (by first | omega | (simp; done) | (simp <;> omega)) _))⟩
      all_goals simp [results, Tryz.results252, go_sem, *]
    · (repeat (first | go_values | go_skip | go_guarded | go_step | go_upon))
      all_goals refine bodyPost_ret (v := .agg #[.string ⟨A.toArray⟩, .string ⟨B.toArray⟩, .string ⟨T.toArray⟩]) ?_ rfl ⟨rfl, (by repeat (first | with_reducible exact Below.refl _ _ | with_reducible assumption | with_reducible refine Below.setCell ?_ (by first | omega | (simp; done) | (simp <;> omega)) _ | with_reducible refine below_drewN ?_ _ | with_reducible refine Below.drew ?_ | with_reducible refine Below.alloc ?_ (by first | omega | (simp; done) | (simp <;> omega)) _))⟩
      all_goals simp [results, Tryz.results252, go_sem, *]
end Go.Proofs.YtebheehjhnaklaaGreatDoor
