import Derived.Test.YtehocgedlepajaaD3
namespace Go.Proofs.Ytehocgedlepajaa
open Go.RowKit

/-- some decimal and a number -/
def IsDecI (r : Ending) : Prop := ∃ n c e k, r = .returned (.tuple #[.agg #[.bool n, .int .i64 c, .int .i64 e], .int .i64 k])
theorem IsDecI.mk (n : Bool) (c e k : Int) : IsDecI (.returned (.tuple #[.agg #[.bool n, .int .i64 c, .int .i64 e], .int .i64 k])) := ⟨n, c, e, k, rfl⟩
theorem CodeAt.up {s : Option Addr} {len : Nat} {w : World} (h : CodeAt s len w.heap.size w) (x : Obj) : CodeAt s len (w.alloc x).heap.size (w.alloc x) :=
  have hb : Below w.heap.size w (w.alloc x) := (Below.refl _ _).alloc (Nat.le_refl _) _
  (h.keep fun b o hlt => hb.cell (p := ⟨b, o, none⟩) hlt).wide hb.size
theorem below_kp {R : Nat} {w wa wb : World} (h : Below w.heap.size w wa) (hk : Kp R wa.heap.size wa wb) (hR : w.heap.size ≤ R) (hR2 : R ≤ wa.heap.size) : Below w.heap.size w wb :=
  h.trans ((hk.below hR2).mono hR)

set_option maxHeartbeats 1000000 in
theorem DrawValidDec_any (s : Option Addr) (len cap : Nat) (w : World) (h : CodeAt s len w.heap.size w) (hcap : len ≤ cap) :
    Calls Try.prog 16 #[.slice s len cap] w fun r w' => IsDec r ∧ Below w.heap.size w w' := by
  have zA0 := C3.new w (.bool false) (.int .i64 0) (.int .i64 0) 24
  have hB0 : Below w.heap.size w (w.alloc (.cells #[.bool false, .int .i64 0, .int .i64 0] 24)) := (Below.refl _ _).alloc (Nat.le_refl _) _
  go_enter Try.func16, Try.ntmps16
  go_wp2_with (first
    | (go_at_call 55; (with_reducible refine Calls.mono (newReader_any _ _ _ _ (h.up _) hcap) ?_); rintro r wa ⟨R, rfl, hR, hr, hb⟩; (try simp at hR); have zA := zA0.carry hb; have hBa := hB0.trans (hb.mono hB0.size); have hra := hr.1)
    | (go_at_call 54; (with_reducible refine Calls.mono (someDec_any R _ _ hr ?_) ?_); omega; rintro r wb ⟨⟨n, c, e, rfl⟩, hr2, hk⟩; have zB := zA.kp hk (by omega); (obtain ⟨a0, a1, a2, a3, a4, a5, a6⟩ := zB); have hB := below_kp hBa hk (by omega) (by omega)))
  exact bodyPost_ret (v := .agg #[.bool n, .int .i64 c, .int .i64 e]) (by simp [results, Try.results16, go_sem, *]) rfl ⟨IsDec.mk _ _ _, (by repeat (first | with_reducible exact Below.refl _ _ | with_reducible assumption | with_reducible refine Below.setCell ?_ (by first | omega | (simp; done) | (simp <;> omega)) _ | with_reducible refine below_drewN ?_ _ | with_reducible refine Below.drew ?_ | with_reducible refine Below.alloc ?_ (by first | omega | (simp; done) | (simp <;> omega)) _))⟩

set_option maxHeartbeats 1000000 in
theorem DrawNormalDec_any (s : Option Addr) (len cap : Nat) (w : World) (h : CodeAt s len w.heap.size w) (hcap : len ≤ cap) :
    Calls Try.prog 22 #[.slice s len cap] w fun r w' => IsDec r ∧ Below w.heap.size w w' := by
  have zA0 := C3.new w (.bool false) (.int .i64 0) (.int .i64 0) 24
  have hB0 : Below w.heap.size w (w.alloc (.cells #[.bool false, .int .i64 0, .int .i64 0] 24)) := (Below.refl _ _).alloc (Nat.le_refl _) _
  go_enter Try.func22, Try.ntmps22
  go_wp2_with (first
    | (go_at_call 55; (with_reducible refine Calls.mono (newReader_any _ _ _ _ (h.up _) hcap) ?_); rintro r wa ⟨R, rfl, hR, hr, hb⟩; (try simp at hR); have zA := zA0.carry hb; have hBa := hB0.trans (hb.mono hB0.size); have hra := hr.1)
    | (go_at_call 54; (with_reducible refine Calls.mono (someDec_any R _ _ hr ?_) ?_); omega; rintro r wb ⟨⟨n, c, e, rfl⟩, hr2, hk⟩; have zB := zA.kp hk (by omega); (obtain ⟨a0, a1, a2, a3, a4, a5, a6⟩ := zB); have hB := below_kp hBa hk (by omega) (by omega)))
  exact bodyPost_ret (v := .agg #[.bool n, .int .i64 c, .int .i64 e]) (by simp [results, Try.results22, go_sem, *]) rfl ⟨IsDec.mk _ _ _, (by repeat (first | with_reducible exact Below.refl _ _ | with_reducible assumption | with_reducible refine Below.setCell ?_ (by first | omega | (simp; done) | (simp <;> omega)) _ | with_reducible refine below_drewN ?_ _ | with_reducible refine Below.drew ?_ | with_reducible refine Below.alloc ?_ (by first | omega | (simp; done) | (simp <;> omega)) _))⟩

set_option maxHeartbeats 1000000 in
theorem DrawNegateDec_any (s : Option Addr) (len cap : Nat) (w : World) (h : CodeAt s len w.heap.size w) (hcap : len ≤ cap) :
    Calls Try.prog 27 #[.slice s len cap] w fun r w' => IsDec r ∧ Below w.heap.size w w' := by
  have zA0 := C3.new w (.bool false) (.int .i64 0) (.int .i64 0) 24
  have hB0 : Below w.heap.size w (w.alloc (.cells #[.bool false, .int .i64 0, .int .i64 0] 24)) := (Below.refl _ _).alloc (Nat.le_refl _) _
  go_enter Try.func27, Try.ntmps27
  go_wp2_with (first
    | (go_at_call 55; (with_reducible refine Calls.mono (newReader_any _ _ _ _ (h.up _) hcap) ?_); rintro r wa ⟨R, rfl, hR, hr, hb⟩; (try simp at hR); have zA := zA0.carry hb; have hBa := hB0.trans (hb.mono hB0.size); have hra := hr.1)
    | (go_at_call 54; (with_reducible refine Calls.mono (someDec_any R _ _ hr ?_) ?_); omega; rintro r wb ⟨⟨n, c, e, rfl⟩, hr2, hk⟩; have zB := zA.kp hk (by omega); (obtain ⟨a0, a1, a2, a3, a4, a5, a6⟩ := zB); have hB := below_kp hBa hk (by omega) (by omega)))
  exact bodyPost_ret (v := .agg #[.bool n, .int .i64 c, .int .i64 e]) (by simp [results, Try.results27, go_sem, *]) rfl ⟨IsDec.mk _ _ _, (by repeat (first | with_reducible exact Below.refl _ _ | with_reducible assumption | with_reducible refine Below.setCell ?_ (by first | omega | (simp; done) | (simp <;> omega)) _ | with_reducible refine below_drewN ?_ _ | with_reducible refine Below.drew ?_ | with_reducible refine Below.alloc ?_ (by first | omega | (simp; done) | (simp <;> omega)) _))⟩

set_option maxHeartbeats 1000000 in
theorem DrawDigitsOf_any (s : Option Addr) (len cap : Nat) (w : World) (h : CodeAt s len w.heap.size w) (hcap : len ≤ cap) :
    Calls Try.prog 35 #[.slice s len cap] w fun r w' => IsDec r ∧ Below w.heap.size w w' := by
  have zA0 := C3.new w (.bool false) (.int .i64 0) (.int .i64 0) 24
  have hB0 : Below w.heap.size w (w.alloc (.cells #[.bool false, .int .i64 0, .int .i64 0] 24)) := (Below.refl _ _).alloc (Nat.le_refl _) _
  go_enter Try.func35, Try.ntmps35
  go_wp2_with (first
    | (go_at_call 55; (with_reducible refine Calls.mono (newReader_any _ _ _ _ (h.up _) hcap) ?_); rintro r wa ⟨R, rfl, hR, hr, hb⟩; (try simp at hR); have zA := zA0.carry hb; have hBa := hB0.trans (hb.mono hB0.size); have hra := hr.1)
    | (go_at_call 54; (with_reducible refine Calls.mono (someDec_any R _ _ hr ?_) ?_); omega; rintro r wb ⟨⟨n, c, e, rfl⟩, hr2, hk⟩; have zB := zA.kp hk (by omega); (obtain ⟨a0, a1, a2, a3, a4, a5, a6⟩ := zB); have hB := below_kp hBa hk (by omega) (by omega)))
  exact bodyPost_ret (v := .agg #[.bool n, .int .i64 c, .int .i64 e]) (by simp [results, Try.results35, go_sem, *]) rfl ⟨IsDec.mk _ _ _, (by repeat (first | with_reducible exact Below.refl _ _ | with_reducible assumption | with_reducible refine Below.setCell ?_ (by first | omega | (simp; done) | (simp <;> omega)) _ | with_reducible refine below_drewN ?_ _ | with_reducible refine Below.drew ?_ | with_reducible refine Below.alloc ?_ (by first | omega | (simp; done) | (simp <;> omega)) _))⟩

set_option maxHeartbeats 1000000 in
theorem DrawLeadOf_any (s : Option Addr) (len cap : Nat) (w : World) (h : CodeAt s len w.heap.size w) (hcap : len ≤ cap) :
    Calls Try.prog 38 #[.slice s len cap] w fun r w' => IsDec r ∧ Below w.heap.size w w' := by
  have zA0 := C3.new w (.bool false) (.int .i64 0) (.int .i64 0) 24
  have hB0 : Below w.heap.size w (w.alloc (.cells #[.bool false, .int .i64 0, .int .i64 0] 24)) := (Below.refl _ _).alloc (Nat.le_refl _) _
  go_enter Try.func38, Try.ntmps38
  go_wp2_with (first
    | (go_at_call 55; (with_reducible refine Calls.mono (newReader_any _ _ _ _ (h.up _) hcap) ?_); rintro r wa ⟨R, rfl, hR, hr, hb⟩; (try simp at hR); have zA := zA0.carry hb; have hBa := hB0.trans (hb.mono hB0.size); have hra := hr.1)
    | (go_at_call 54; (with_reducible refine Calls.mono (someDec_any R _ _ hr ?_) ?_); omega; rintro r wb ⟨⟨n, c, e, rfl⟩, hr2, hk⟩; have zB := zA.kp hk (by omega); (obtain ⟨a0, a1, a2, a3, a4, a5, a6⟩ := zB); have hB := below_kp hBa hk (by omega) (by omega)))
  exact bodyPost_ret (v := .agg #[.bool n, .int .i64 c, .int .i64 e]) (by simp [results, Try.results38, go_sem, *]) rfl ⟨IsDec.mk _ _ _, (by repeat (first | with_reducible exact Below.refl _ _ | with_reducible assumption | with_reducible refine Below.setCell ?_ (by first | omega | (simp; done) | (simp <;> omega)) _ | with_reducible refine below_drewN ?_ _ | with_reducible refine Below.drew ?_ | with_reducible refine Below.alloc ?_ (by first | omega | (simp; done) | (simp <;> omega)) _))⟩

set_option maxHeartbeats 1000000 in
theorem DrawIsWhole_any (s : Option Addr) (len cap : Nat) (w : World) (h : CodeAt s len w.heap.size w) (hcap : len ≤ cap) :
    Calls Try.prog 49 #[.slice s len cap] w fun r w' => IsDec r ∧ Below w.heap.size w w' := by
  have zA0 := C3.new w (.bool false) (.int .i64 0) (.int .i64 0) 24
  have hB0 : Below w.heap.size w (w.alloc (.cells #[.bool false, .int .i64 0, .int .i64 0] 24)) := (Below.refl _ _).alloc (Nat.le_refl _) _
  go_enter Try.func49, Try.ntmps49
  go_wp2_with (first
    | (go_at_call 55; (with_reducible refine Calls.mono (newReader_any _ _ _ _ (h.up _) hcap) ?_); rintro r wa ⟨R, rfl, hR, hr, hb⟩; (try simp at hR); have zA := zA0.carry hb; have hBa := hB0.trans (hb.mono hB0.size); have hra := hr.1)
    | (go_at_call 54; (with_reducible refine Calls.mono (someDec_any R _ _ hr ?_) ?_); omega; rintro r wb ⟨⟨n, c, e, rfl⟩, hr2, hk⟩; have zB := zA.kp hk (by omega); (obtain ⟨a0, a1, a2, a3, a4, a5, a6⟩ := zB); have hB := below_kp hBa hk (by omega) (by omega)))
  exact bodyPost_ret (v := .agg #[.bool n, .int .i64 c, .int .i64 e]) (by simp [results, Try.results49, go_sem, *]) rfl ⟨IsDec.mk _ _ _, (by repeat (first | with_reducible exact Below.refl _ _ | with_reducible assumption | with_reducible refine Below.setCell ?_ (by first | omega | (simp; done) | (simp <;> omega)) _ | with_reducible refine below_drewN ?_ _ | with_reducible refine Below.drew ?_ | with_reducible refine Below.alloc ?_ (by first | omega | (simp; done) | (simp <;> omega)) _))⟩

set_option maxHeartbeats 1000000 in
theorem DrawPlacesOf_any (s : Option Addr) (len cap : Nat) (w : World) (h : CodeAt s len w.heap.size w) (hcap : len ≤ cap) :
    Calls Try.prog 52 #[.slice s len cap] w fun r w' => IsDec r ∧ Below w.heap.size w w' := by
  have zA0 := C3.new w (.bool false) (.int .i64 0) (.int .i64 0) 24
  have hB0 : Below w.heap.size w (w.alloc (.cells #[.bool false, .int .i64 0, .int .i64 0] 24)) := (Below.refl _ _).alloc (Nat.le_refl _) _
  go_enter Try.func52, Try.ntmps52
  go_wp2_with (first
    | (go_at_call 55; (with_reducible refine Calls.mono (newReader_any _ _ _ _ (h.up _) hcap) ?_); rintro r wa ⟨R, rfl, hR, hr, hb⟩; (try simp at hR); have zA := zA0.carry hb; have hBa := hB0.trans (hb.mono hB0.size); have hra := hr.1)
    | (go_at_call 54; (with_reducible refine Calls.mono (someDec_any R _ _ hr ?_) ?_); omega; rintro r wb ⟨⟨n, c, e, rfl⟩, hr2, hk⟩; have zB := zA.kp hk (by omega); (obtain ⟨a0, a1, a2, a3, a4, a5, a6⟩ := zB); have hB := below_kp hBa hk (by omega) (by omega)))
  exact bodyPost_ret (v := .agg #[.bool n, .int .i64 c, .int .i64 e]) (by simp [results, Try.results52, go_sem, *]) rfl ⟨IsDec.mk _ _ _, (by repeat (first | with_reducible exact Below.refl _ _ | with_reducible assumption | with_reducible refine Below.setCell ?_ (by first | omega | (simp; done) | (simp <;> omega)) _ | with_reducible refine below_drewN ?_ _ | with_reducible refine Below.drew ?_ | with_reducible refine Below.alloc ?_ (by first | omega | (simp; done) | (simp <;> omega)) _))⟩

set_option maxHeartbeats 1000000 in
theorem DrawCompareDec_any (s : Option Addr) (len cap : Nat) (w : World) (h : CodeAt s len w.heap.size w) (hcap : len ≤ cap) :
    Calls Try.prog 25 #[.slice s len cap] w fun r w' => IsDec2 r ∧ Below w.heap.size w w' := by
  have zA0 := (C3.new w (.bool false) (.int .i64 0) (.int .i64 0) 24).up (.cells #[.bool false, .int .i64 0, .int .i64 0] 24)
  have zB0 : C3 ((w.alloc (.cells #[.bool false, .int .i64 0, .int .i64 0] 24)).alloc (.cells #[.bool false, .int .i64 0, .int .i64 0] 24)) (w.heap.size + 1) (.bool false) (.int .i64 0) (.int .i64 0) := by
    have := C3.new (w.alloc (.cells #[.bool false, .int .i64 0, .int .i64 0] 24)) (.bool false) (.int .i64 0) (.int .i64 0) 24
    simpa using this
  have hB0 : Below w.heap.size w ((w.alloc (.cells #[.bool false, .int .i64 0, .int .i64 0] 24)).alloc (.cells #[.bool false, .int .i64 0, .int .i64 0] 24)) := ((Below.refl _ _).alloc (Nat.le_refl _) _).alloc (by simp) _
  go_enter Try.func25, Try.ntmps25
  go_wp2_with (first
    | (go_at_call 55; (with_reducible refine Calls.mono (newReader_any _ _ _ _ ((h.up _).up _) hcap) ?_); rintro r wa ⟨R, rfl, hR, hr, hb⟩; (try simp at hR); have zA := zA0.carry hb; have zB := zB0.carry hb; have hBa := hB0.trans (hb.mono hB0.size); have hra := hr.1)
    | (go_at_call 64; (with_reducible refine Calls.mono (twoDecs_any R _ _ hr ?_) ?_); omega; rintro r wb ⟨⟨n, c, e, n', c', e', rfl⟩, hr2, hk⟩; have zA1 := zA.kp hk (by omega); have zB1 := zB.kp hk (by omega); have hB := below_kp hBa hk (by omega) (by omega); have zC := zA1; have zD := zB1; (obtain ⟨a0, a1, a2, a3, a4, a5, a6⟩ := zC); (obtain ⟨b0, b1, b2, b3, b4, b5, b6⟩ := zD)))
  obtain ⟨p0, p1, p2, p3, p4, p5, _⟩ := finC zA1 zB1 (show w.heap.size + 1 ≠ w.heap.size by omega) (.bool n) (.int .i64 c) (.int .i64 e) (.bool n') (.int .i64 c') (.int .i64 e')
  exact bodyPost_ret (v := .tuple #[.agg #[.bool n, .int .i64 c, .int .i64 e], .agg #[.bool n', .int .i64 c', .int .i64 e']]) (by simp [results, Try.results25, go_sem, p0, p1, p2, p3, p4, p5]) rfl ⟨IsDec2.mk _ _ _ _ _ _, (by repeat (first | with_reducible exact Below.refl _ _ | with_reducible assumption | with_reducible refine Below.setCell ?_ (by first | omega | (simp; done) | (simp <;> omega)) _ | with_reducible refine below_drewN ?_ _ | with_reducible refine Below.drew ?_ | with_reducible refine Below.alloc ?_ (by first | omega | (simp; done) | (simp <;> omega)) _))⟩

set_option maxHeartbeats 1000000 in
theorem DrawAddDec_any (s : Option Addr) (len cap : Nat) (w : World) (h : CodeAt s len w.heap.size w) (hcap : len ≤ cap) :
    Calls Try.prog 30 #[.slice s len cap] w fun r w' => IsDec2 r ∧ Below w.heap.size w w' := by
  have zA0 := (C3.new w (.bool false) (.int .i64 0) (.int .i64 0) 24).up (.cells #[.bool false, .int .i64 0, .int .i64 0] 24)
  have zB0 : C3 ((w.alloc (.cells #[.bool false, .int .i64 0, .int .i64 0] 24)).alloc (.cells #[.bool false, .int .i64 0, .int .i64 0] 24)) (w.heap.size + 1) (.bool false) (.int .i64 0) (.int .i64 0) := by
    have := C3.new (w.alloc (.cells #[.bool false, .int .i64 0, .int .i64 0] 24)) (.bool false) (.int .i64 0) (.int .i64 0) 24
    simpa using this
  have hB0 : Below w.heap.size w ((w.alloc (.cells #[.bool false, .int .i64 0, .int .i64 0] 24)).alloc (.cells #[.bool false, .int .i64 0, .int .i64 0] 24)) := ((Below.refl _ _).alloc (Nat.le_refl _) _).alloc (by simp) _
  go_enter Try.func30, Try.ntmps30
  go_wp2_with (first
    | (go_at_call 55; (with_reducible refine Calls.mono (newReader_any _ _ _ _ ((h.up _).up _) hcap) ?_); rintro r wa ⟨R, rfl, hR, hr, hb⟩; (try simp at hR); have zA := zA0.carry hb; have zB := zB0.carry hb; have hBa := hB0.trans (hb.mono hB0.size); have hra := hr.1)
    | (go_at_call 64; (with_reducible refine Calls.mono (twoDecs_any R _ _ hr ?_) ?_); omega; rintro r wb ⟨⟨n, c, e, n', c', e', rfl⟩, hr2, hk⟩; have zA1 := zA.kp hk (by omega); have zB1 := zB.kp hk (by omega); have hB := below_kp hBa hk (by omega) (by omega); have zC := zA1; have zD := zB1; (obtain ⟨a0, a1, a2, a3, a4, a5, a6⟩ := zC); (obtain ⟨b0, b1, b2, b3, b4, b5, b6⟩ := zD)))
  obtain ⟨p0, p1, p2, p3, p4, p5, _⟩ := finC zA1 zB1 (show w.heap.size + 1 ≠ w.heap.size by omega) (.bool n) (.int .i64 c) (.int .i64 e) (.bool n') (.int .i64 c') (.int .i64 e')
  exact bodyPost_ret (v := .tuple #[.agg #[.bool n, .int .i64 c, .int .i64 e], .agg #[.bool n', .int .i64 c', .int .i64 e']]) (by simp [results, Try.results30, go_sem, p0, p1, p2, p3, p4, p5]) rfl ⟨IsDec2.mk _ _ _ _ _ _, (by repeat (first | with_reducible exact Below.refl _ _ | with_reducible assumption | with_reducible refine Below.setCell ?_ (by first | omega | (simp; done) | (simp <;> omega)) _ | with_reducible refine below_drewN ?_ _ | with_reducible refine Below.drew ?_ | with_reducible refine Below.alloc ?_ (by first | omega | (simp; done) | (simp <;> omega)) _))⟩

set_option maxHeartbeats 1000000 in
theorem DrawShiftDec_any (s : Option Addr) (len cap : Nat) (w : World) (h : CodeAt s len w.heap.size w) (hcap : len ≤ cap) :
    Calls Try.prog 32 #[.slice s len cap] w fun r w' => IsDecI r ∧ Below w.heap.size w w' := by
  have zA0 := C3.new w (.bool false) (.int .i64 0) (.int .i64 0) 24
  have hB0 : Below w.heap.size w (w.alloc (.cells #[.bool false, .int .i64 0, .int .i64 0] 24)) := (Below.refl _ _).alloc (Nat.le_refl _) _
  go_enter Try.func32, Try.ntmps32
  go_wp2_with (first
    | (go_at_call 55; (with_reducible refine Calls.mono (newReader_any _ _ _ _ (h.up _) hcap) ?_); rintro r wa ⟨R, rfl, hR, hr, hb⟩; (try simp at hR); have zA := zA0.carry hb; have hBa := hB0.trans (hb.mono hB0.size); have hra := hr.1)
    | (go_at_call 54; (with_reducible refine Calls.mono (someDec_any R _ _ hr ?_) ?_); omega; rintro r wb ⟨⟨n, c, e, rfl⟩, hr2, hk⟩; have zB := zA.kp hk (by omega); (obtain ⟨a0, a1, a2, a3, a4, a5, a6⟩ := zB); have hB := below_kp hBa hk (by omega) (by omega); have hrb := hr2.1; have hzb := hk.size)
    | (go_at_call 71; (with_reducible refine Calls.mono (one_any R _ _ _ _ _ (hr2.up _) ?_ ?_ ?_ ?_) ?_); omega; omega; exact Nums.new _ _ _ 8 (by simp) rfl; omega; rintro r wc ⟨⟨k, rfl⟩, hr3, hk3⟩; have zE := ((zA.kp hk (by omega)).up _).kp hk3 (by omega); (obtain ⟨e0, e1, e2, e3, e4, e5, e6⟩ := zE); have hB2 := below_kp (hB.alloc (by omega) _) hk3 (by omega) (by simp; omega)))
  exact bodyPost_ret (v := .tuple #[.agg #[.bool n, .int .i64 c, .int .i64 e], .int .i64 k]) (by simp [results, Try.results32, go_sem, *]) rfl ⟨IsDecI.mk _ _ _ _, (by repeat (first | with_reducible exact Below.refl _ _ | with_reducible assumption | with_reducible refine Below.setCell ?_ (by first | omega | (simp; done) | (simp <;> omega)) _ | with_reducible refine below_drewN ?_ _ | with_reducible refine Below.drew ?_ | with_reducible refine Below.alloc ?_ (by first | omega | (simp; done) | (simp <;> omega)) _))⟩

set_option maxHeartbeats 1000000 in
theorem DrawRoundDec_any (s : Option Addr) (len cap : Nat) (w : World) (h : CodeAt s len w.heap.size w) (hcap : len ≤ cap) :
    Calls Try.prog 41 #[.slice s len cap] w fun r w' => IsDecI r ∧ Below w.heap.size w w' := by
  have zA0 := C3.new w (.bool false) (.int .i64 0) (.int .i64 0) 24
  have hB0 : Below w.heap.size w (w.alloc (.cells #[.bool false, .int .i64 0, .int .i64 0] 24)) := (Below.refl _ _).alloc (Nat.le_refl _) _
  go_enter Try.func41, Try.ntmps41
  go_wp2_with (first
    | (go_at_call 55; (with_reducible refine Calls.mono (newReader_any _ _ _ _ (h.up _) hcap) ?_); rintro r wa ⟨R, rfl, hR, hr, hb⟩; (try simp at hR); have zA := zA0.carry hb; have hBa := hB0.trans (hb.mono hB0.size); have hra := hr.1)
    | (go_at_call 54; (with_reducible refine Calls.mono (someDec_any R _ _ hr ?_) ?_); omega; rintro r wb ⟨⟨n, c, e, rfl⟩, hr2, hk⟩; have zB := zA.kp hk (by omega); (obtain ⟨a0, a1, a2, a3, a4, a5, a6⟩ := zB); have hB := below_kp hBa hk (by omega) (by omega); have hrb := hr2.1; have hzb := hk.size)
    | (go_at_call 71; (with_reducible refine Calls.mono (one_any R _ _ _ _ _ (hr2.up _) ?_ ?_ ?_ ?_) ?_); omega; omega; exact Nums.new _ _ _ 9 (by simp) rfl; omega; rintro r wc ⟨⟨k, rfl⟩, hr3, hk3⟩; have zE := ((zA.kp hk (by omega)).up _).kp hk3 (by omega); (obtain ⟨e0, e1, e2, e3, e4, e5, e6⟩ := zE); have hB2 := below_kp (hB.alloc (by omega) _) hk3 (by omega) (by simp; omega)))
  exact bodyPost_ret (v := .tuple #[.agg #[.bool n, .int .i64 c, .int .i64 e], .int .i64 k]) (by simp [results, Try.results41, go_sem, *]) rfl ⟨IsDecI.mk _ _ _ _, (by repeat (first | with_reducible exact Below.refl _ _ | with_reducible assumption | with_reducible refine Below.setCell ?_ (by first | omega | (simp; done) | (simp <;> omega)) _ | with_reducible refine below_drewN ?_ _ | with_reducible refine Below.drew ?_ | with_reducible refine Below.alloc ?_ (by first | omega | (simp; done) | (simp <;> omega)) _))⟩

set_option maxHeartbeats 1000000 in
theorem DrawRoundDigits_any (s : Option Addr) (len cap : Nat) (w : World) (h : CodeAt s len w.heap.size w) (hcap : len ≤ cap) :
    Calls Try.prog 46 #[.slice s len cap] w fun r w' => IsDecI r ∧ Below w.heap.size w w' := by
  have zA0 := C3.new w (.bool false) (.int .i64 0) (.int .i64 0) 24
  have hB0 : Below w.heap.size w (w.alloc (.cells #[.bool false, .int .i64 0, .int .i64 0] 24)) := (Below.refl _ _).alloc (Nat.le_refl _) _
  go_enter Try.func46, Try.ntmps46
  go_wp2_with (first
    | (go_at_call 55; (with_reducible refine Calls.mono (newReader_any _ _ _ _ (h.up _) hcap) ?_); rintro r wa ⟨R, rfl, hR, hr, hb⟩; (try simp at hR); have zA := zA0.carry hb; have hBa := hB0.trans (hb.mono hB0.size); have hra := hr.1)
    | (go_at_call 54; (with_reducible refine Calls.mono (someDec_any R _ _ hr ?_) ?_); omega; rintro r wb ⟨⟨n, c, e, rfl⟩, hr2, hk⟩; have zB := zA.kp hk (by omega); (obtain ⟨a0, a1, a2, a3, a4, a5, a6⟩ := zB); have hB := below_kp hBa hk (by omega) (by omega); have hrb := hr2.1; have hzb := hk.size)
    | (go_at_call 71; (with_reducible refine Calls.mono (one_any R _ _ _ _ _ (hr2.up _) ?_ ?_ ?_ ?_) ?_); omega; omega; exact Nums.new _ _ _ 7 (by simp) rfl; omega; rintro r wc ⟨⟨k, rfl⟩, hr3, hk3⟩; have zE := ((zA.kp hk (by omega)).up _).kp hk3 (by omega); (obtain ⟨e0, e1, e2, e3, e4, e5, e6⟩ := zE); have hB2 := below_kp (hB.alloc (by omega) _) hk3 (by omega) (by simp; omega)))
  exact bodyPost_ret (v := .tuple #[.agg #[.bool n, .int .i64 c, .int .i64 e], .int .i64 k]) (by simp [results, Try.results46, go_sem, *]) rfl ⟨IsDecI.mk _ _ _ _, (by repeat (first | with_reducible exact Below.refl _ _ | with_reducible assumption | with_reducible refine Below.setCell ?_ (by first | omega | (simp; done) | (simp <;> omega)) _ | with_reducible refine below_drewN ?_ _ | with_reducible refine Below.drew ?_ | with_reducible refine Below.alloc ?_ (by first | omega | (simp; done) | (simp <;> omega)) _))⟩
end Go.Proofs.Ytehocgedlepajaa
