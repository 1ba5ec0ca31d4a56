/- Promise 10: proved for every input. No condition. -/
import Derived.Test.YtehocgedlepajaaQ3
namespace Go.Proofs.Ytehocgedlepajaa
open Go.ChangeShapes Go.WideShapes Go.ChangeAt Go.RowKit Go.Joins

set_option maxHeartbeats 4000000 in
theorem FnRoundDecNear_law (s : Option Addr) (len cap : Nat) (w : World) (hcode : CodeAt s len w.heap.size w) (hcap : len ≤ cap) :
    Calls Try.prog 12 #[.slice s len cap] w fun r w' => r = .returned (.bool true) ∧ Below w.heap.size w w' := by
  by_cases hl : 1048576 < len
  · go_enter Try.func12, Try.ntmps12
    go_wp2
    go_ret
    exact ⟨rfl, (by repeat (first | with_reducible exact Below.refl _ _ | with_reducible assumption | with_reducible refine Below.setCell ?_ (by first | omega | (simp; done) | (simp <;> omega)) _ | with_reducible refine below_drewN ?_ _ | with_reducible refine Below.drew ?_ | with_reducible refine Below.alloc ?_ (by first | omega | (simp; done) | (simp <;> omega)) _))⟩
  go_enter Try.func12, Try.ntmps12
  go_wp2_with (go_at_call 41; (with_reducible refine Calls.mono (DrawRoundDec_any _ _ _ _ hcode hcap) ?_); rintro r w1 ⟨⟨n, c, e, k, rfl⟩, hB⟩; have hz := hB.size)
  have k1 := fun W => RoundDec_any n c e k W
  have k2 := fun W => RoundDecS_any n c e k W
  rw [Fd.round_eq] at k2
  have k3 := fun W => ValidDec_any n c e W
  have za := C3.new w1 (.bool n) (.int .i64 c) (.int .i64 e) 24
  cases hv : Fd.vld ⟨n, c, e⟩
  · rw [hv] at k3
    generalize Fd.roundI ⟨n, c, e⟩ k = O at *
    obtain ⟨n1, c1, e1⟩ := O
    dsimp only at k1 k2
    have K1 := Lib.hid k1; have K2 := Lib.hid k2; have K3 := Lib.hid k3
    clear k1 k2 k3
    go_wp2_with (first | (go_at_call 42; (with_reducible refine Calls.mono (K1.out _) ?_); rintro r w1 ⟨rfl, hb⟩; have hB : Below w.heap.size w w1 := (by refine Below.trans ?_ (hb.mono (by first | omega | (simp; done) | (simp <;> omega))); repeat (first | with_reducible exact Below.refl _ _ | with_reducible assumption | with_reducible refine Below.setCell ?_ (by first | omega | (simp; done) | (simp <;> omega)) _ | with_reducible refine below_drewN ?_ _ | with_reducible refine Below.drew ?_ | with_reducible refine Below.alloc ?_ (by first | omega | (simp; done) | (simp <;> omega)) _)); have hz := hb.size; (try simp at hz); (try (have zN := C3.carry (by first | with_reducible exact za | with_reducible exact za.up _ | with_reducible exact (za.up _).up _ | with_reducible exact C3.drew za | with_reducible exact (C3.drew za).up _) hb; clear za; have za := zN; clear zN; have zz := za; obtain ⟨x0, x1, x2, x3, x4, x5, x6⟩ := zz)); (try (have zN := C3.carry (by first | with_reducible exact zb | with_reducible exact zb.up _ | with_reducible exact (zb.up _).up _ | with_reducible exact C3.drew zb | with_reducible exact (C3.drew zb).up _) hb; clear zb; have zb := zN; clear zN; have zz := zb; obtain ⟨x0, x1, x2, x3, x4, x5, x6⟩ := zz)); (try (have zN := C3.carry (by first | with_reducible exact zc | with_reducible exact zc.up _ | with_reducible exact (zc.up _).up _ | with_reducible exact C3.drew zc | with_reducible exact (C3.drew zc).up _) hb; clear zc; have zc := zN; clear zN; have zz := zc; obtain ⟨x0, x1, x2, x3, x4, x5, x6⟩ := zz)); (try (have zN := C3.carry (by first | with_reducible exact zd | with_reducible exact zd.up _ | with_reducible exact (zd.up _).up _ | with_reducible exact C3.drew zd | with_reducible exact (C3.drew zd).up _) hb; clear zd; have zd := zN; clear zN; have zz := zd; obtain ⟨x0, x1, x2, x3, x4, x5, x6⟩ := zz)); (try (have zN := C3.carry (by first | with_reducible exact ze | with_reducible exact ze.up _ | with_reducible exact (ze.up _).up _ | with_reducible exact C3.drew ze | with_reducible exact (C3.drew ze).up _) hb; clear ze; have ze := zN; clear zN; have zz := ze; obtain ⟨x0, x1, x2, x3, x4, x5, x6⟩ := zz)); (try (have zN := C3.carry (by first | with_reducible exact zf | with_reducible exact zf.up _ | with_reducible exact (zf.up _).up _ | with_reducible exact C3.drew zf | with_reducible exact (C3.drew zf).up _) hb; clear zf; have zf := zN; clear zN; have zz := zf; obtain ⟨x0, x1, x2, x3, x4, x5, x6⟩ := zz)); (try (first | (have zT := za; clear zT; (first | (have zT := zb; clear zT; (first | (have zT := zc; clear zT; (first | (have zT := zd; clear zT; (first | (have zT := ze; clear zT; (first | (have zT := zf; clear zT; (skip)) | (have zf := C3.carry (C3.new _ _ _ _ _) hb; have zz := zf; obtain ⟨x0, x1, x2, x3, x4, x5, x6⟩ := zz))) | (have ze := C3.carry (C3.new _ _ _ _ _) hb; have zz := ze; obtain ⟨x0, x1, x2, x3, x4, x5, x6⟩ := zz))) | (have zd := C3.carry (C3.new _ _ _ _ _) hb; have zz := zd; obtain ⟨x0, x1, x2, x3, x4, x5, x6⟩ := zz))) | (have zc := C3.carry (C3.new _ _ _ _ _) hb; have zz := zc; obtain ⟨x0, x1, x2, x3, x4, x5, x6⟩ := zz))) | (have zb := C3.carry (C3.new _ _ _ _ _) hb; have zz := zb; obtain ⟨x0, x1, x2, x3, x4, x5, x6⟩ := zz))) | (have za := C3.carry (C3.new _ _ _ _ _) hb; have zz := za; obtain ⟨x0, x1, x2, x3, x4, x5, x6⟩ := zz)))))
    have zb := C3.new w1 (.bool n1) (.int .i64 c1) (.int .i64 e1) 24
    replace za := za.up (.cells #[.bool n1, .int .i64 c1, .int .i64 e1] 24)
    replace hB := hB.alloc hB.size (.cells #[.bool n1, .int .i64 c1, .int .i64 e1] 24)
    obtain ⟨sza0, sza1, sza2⟩ := C3.since za
    obtain ⟨szb0, szb1, szb2⟩ := C3.since zb
    refine wp_region_since (by kernel_rfl) (by kernel_rfl) ?_
    repeat (quiet_step (first | (go_at_call 42; with_reducible exact Calls.since_of (K1.out _)) | (go_at_call 43; with_reducible exact Calls.since_of (K2.out _)) | (go_at_call 23; with_reducible exact Calls.since_of (equalDec_self _ _ _ _)) | (go_at_call 17; with_reducible exact Calls.since_of (K3.out _))))
    refine wpQuiet_nil ?_
    intro w_ hw_
    obtain ⟨⟨w1, hb⟩, hw2⟩ := hw_
    have hw3 : w1 = w_ := hw2.symm
    clear hw2
    subst hw3
    clear sza0 sza1 sza2 szb0 szb1 szb2
    replace hB := hB.trans (hb.mono hB.size)
    have hz := hb.size
    replace za := C3.carry za hb
    have zz := za
    obtain ⟨x0, x1, x2, x3, x4, x5, x6⟩ := zz
    replace zb := C3.carry zb hb
    have zz := zb
    obtain ⟨x0, x1, x2, x3, x4, x5, x6⟩ := zz
    go_wp2
    obtain ⟨sza0, sza1, sza2⟩ := C3.since za
    obtain ⟨szb0, szb1, szb2⟩ := C3.since zb
    refine wp_region_since (by kernel_rfl) (by kernel_rfl) ?_
    repeat (quiet_step (first | (go_at_call 42; with_reducible exact Calls.since_of (K1.out _)) | (go_at_call 43; with_reducible exact Calls.since_of (K2.out _)) | (go_at_call 23; with_reducible exact Calls.since_of (equalDec_self _ _ _ _)) | (go_at_call 17; with_reducible exact Calls.since_of (K3.out _))))
    refine wpQuiet_nil ?_
    intro w_ hw_
    obtain ⟨⟨w1, hb⟩, hw2⟩ := hw_
    have hw3 : w1 = w_ := hw2.symm
    clear hw2
    subst hw3
    clear sza0 sza1 sza2 szb0 szb1 szb2
    replace hB := hB.trans (hb.mono hB.size)
    have hz := hb.size
    replace za := C3.carry za hb
    have zz := za
    obtain ⟨x0, x1, x2, x3, x4, x5, x6⟩ := zz
    replace zb := C3.carry zb hb
    have zz := zb
    obtain ⟨x0, x1, x2, x3, x4, x5, x6⟩ := zz
    go_wp2
    go_ret
    exact ⟨rfl, (by repeat (first | with_reducible exact Below.refl _ _ | with_reducible assumption | with_reducible refine Below.setCell ?_ (by first | omega | (simp; done) | (simp <;> omega)) _ | with_reducible refine below_drewN ?_ _ | with_reducible refine Below.drew ?_ | with_reducible refine Below.alloc ?_ (by first | omega | (simp; done) | (simp <;> omega)) _))⟩
  rw [hv] at k3
  by_cases hr : k < -12
  · generalize Fd.roundI ⟨n, c, e⟩ k = O at *
    obtain ⟨n1, c1, e1⟩ := O
    dsimp only at k1 k2
    clear hv
    have K1 := Lib.hid k1; have K2 := Lib.hid k2; have K3 := Lib.hid k3
    clear k1 k2 k3
    go_wp2_with (first | (go_at_call 42; (with_reducible refine Calls.mono (K1.out _) ?_); rintro r w1 ⟨rfl, hb⟩; have hB : Below w.heap.size w w1 := (by refine Below.trans ?_ (hb.mono (by first | omega | (simp; done) | (simp <;> omega))); repeat (first | with_reducible exact Below.refl _ _ | with_reducible assumption | with_reducible refine Below.setCell ?_ (by first | omega | (simp; done) | (simp <;> omega)) _ | with_reducible refine below_drewN ?_ _ | with_reducible refine Below.drew ?_ | with_reducible refine Below.alloc ?_ (by first | omega | (simp; done) | (simp <;> omega)) _)); have hz := hb.size; (try simp at hz); (try (have zN := C3.carry (by first | with_reducible exact za | with_reducible exact za.up _ | with_reducible exact (za.up _).up _ | with_reducible exact C3.drew za | with_reducible exact (C3.drew za).up _) hb; clear za; have za := zN; clear zN; have zz := za; obtain ⟨x0, x1, x2, x3, x4, x5, x6⟩ := zz)); (try (have zN := C3.carry (by first | with_reducible exact zb | with_reducible exact zb.up _ | with_reducible exact (zb.up _).up _ | with_reducible exact C3.drew zb | with_reducible exact (C3.drew zb).up _) hb; clear zb; have zb := zN; clear zN; have zz := zb; obtain ⟨x0, x1, x2, x3, x4, x5, x6⟩ := zz)); (try (have zN := C3.carry (by first | with_reducible exact zc | with_reducible exact zc.up _ | with_reducible exact (zc.up _).up _ | with_reducible exact C3.drew zc | with_reducible exact (C3.drew zc).up _) hb; clear zc; have zc := zN; clear zN; have zz := zc; obtain ⟨x0, x1, x2, x3, x4, x5, x6⟩ := zz)); (try (have zN := C3.carry (by first | with_reducible exact zd | with_reducible exact zd.up _ | with_reducible exact (zd.up _).up _ | with_reducible exact C3.drew zd | with_reducible exact (C3.drew zd).up _) hb; clear zd; have zd := zN; clear zN; have zz := zd; obtain ⟨x0, x1, x2, x3, x4, x5, x6⟩ := zz)); (try (have zN := C3.carry (by first | with_reducible exact ze | with_reducible exact ze.up _ | with_reducible exact (ze.up _).up _ | with_reducible exact C3.drew ze | with_reducible exact (C3.drew ze).up _) hb; clear ze; have ze := zN; clear zN; have zz := ze; obtain ⟨x0, x1, x2, x3, x4, x5, x6⟩ := zz)); (try (have zN := C3.carry (by first | with_reducible exact zf | with_reducible exact zf.up _ | with_reducible exact (zf.up _).up _ | with_reducible exact C3.drew zf | with_reducible exact (C3.drew zf).up _) hb; clear zf; have zf := zN; clear zN; have zz := zf; obtain ⟨x0, x1, x2, x3, x4, x5, x6⟩ := zz)); (try (first | (have zT := za; clear zT; (first | (have zT := zb; clear zT; (first | (have zT := zc; clear zT; (first | (have zT := zd; clear zT; (first | (have zT := ze; clear zT; (first | (have zT := zf; clear zT; (skip)) | (have zf := C3.carry (C3.new _ _ _ _ _) hb; have zz := zf; obtain ⟨x0, x1, x2, x3, x4, x5, x6⟩ := zz))) | (have ze := C3.carry (C3.new _ _ _ _ _) hb; have zz := ze; obtain ⟨x0, x1, x2, x3, x4, x5, x6⟩ := zz))) | (have zd := C3.carry (C3.new _ _ _ _ _) hb; have zz := zd; obtain ⟨x0, x1, x2, x3, x4, x5, x6⟩ := zz))) | (have zc := C3.carry (C3.new _ _ _ _ _) hb; have zz := zc; obtain ⟨x0, x1, x2, x3, x4, x5, x6⟩ := zz))) | (have zb := C3.carry (C3.new _ _ _ _ _) hb; have zz := zb; obtain ⟨x0, x1, x2, x3, x4, x5, x6⟩ := zz))) | (have za := C3.carry (C3.new _ _ _ _ _) hb; have zz := za; obtain ⟨x0, x1, x2, x3, x4, x5, x6⟩ := zz)))))
    have zb := C3.new w1 (.bool n1) (.int .i64 c1) (.int .i64 e1) 24
    replace za := za.up (.cells #[.bool n1, .int .i64 c1, .int .i64 e1] 24)
    replace hB := hB.alloc hB.size (.cells #[.bool n1, .int .i64 c1, .int .i64 e1] 24)
    obtain ⟨sza0, sza1, sza2⟩ := C3.since za
    obtain ⟨szb0, szb1, szb2⟩ := C3.since zb
    refine wp_region_since (by kernel_rfl) (by kernel_rfl) ?_
    repeat (quiet_step (first | (go_at_call 42; with_reducible exact Calls.since_of (K1.out _)) | (go_at_call 43; with_reducible exact Calls.since_of (K2.out _)) | (go_at_call 23; with_reducible exact Calls.since_of (equalDec_self _ _ _ _)) | (go_at_call 17; with_reducible exact Calls.since_of (K3.out _))))
    refine wpQuiet_nil ?_
    intro w_ hw_
    obtain ⟨⟨w1, hb⟩, hw2⟩ := hw_
    have hw3 : w1 = w_ := hw2.symm
    clear hw2
    subst hw3
    clear sza0 sza1 sza2 szb0 szb1 szb2
    replace hB := hB.trans (hb.mono hB.size)
    have hz := hb.size
    replace za := C3.carry za hb
    have zz := za
    obtain ⟨x0, x1, x2, x3, x4, x5, x6⟩ := zz
    replace zb := C3.carry zb hb
    have zz := zb
    obtain ⟨x0, x1, x2, x3, x4, x5, x6⟩ := zz
    go_wp2
    obtain ⟨sza0, sza1, sza2⟩ := C3.since za
    obtain ⟨szb0, szb1, szb2⟩ := C3.since zb
    refine wp_region_since (by kernel_rfl) (by kernel_rfl) ?_
    repeat (quiet_step (first | (go_at_call 42; with_reducible exact Calls.since_of (K1.out _)) | (go_at_call 43; with_reducible exact Calls.since_of (K2.out _)) | (go_at_call 23; with_reducible exact Calls.since_of (equalDec_self _ _ _ _)) | (go_at_call 17; with_reducible exact Calls.since_of (K3.out _))))
    refine wpQuiet_nil ?_
    intro w_ hw_
    obtain ⟨⟨w1, hb⟩, hw2⟩ := hw_
    have hw3 : w1 = w_ := hw2.symm
    clear hw2
    subst hw3
    clear sza0 sza1 sza2 szb0 szb1 szb2
    replace hB := hB.trans (hb.mono hB.size)
    have hz := hb.size
    replace za := C3.carry za hb
    have zz := za
    obtain ⟨x0, x1, x2, x3, x4, x5, x6⟩ := zz
    replace zb := C3.carry zb hb
    have zz := zb
    obtain ⟨x0, x1, x2, x3, x4, x5, x6⟩ := zz
    go_wp2
    go_ret
    exact ⟨rfl, (by repeat (first | with_reducible exact Below.refl _ _ | with_reducible assumption | with_reducible refine Below.setCell ?_ (by first | omega | (simp; done) | (simp <;> omega)) _ | with_reducible refine below_drewN ?_ _ | with_reducible refine Below.drew ?_ | with_reducible refine Below.alloc ?_ (by first | omega | (simp; done) | (simp <;> omega)) _))⟩
  have hlo := Int.not_lt.1 hr
  clear hr
  by_cases hr : 12 < k
  · generalize Fd.roundI ⟨n, c, e⟩ k = O at *
    obtain ⟨n1, c1, e1⟩ := O
    dsimp only at k1 k2
    clear hv
    have K1 := Lib.hid k1; have K2 := Lib.hid k2; have K3 := Lib.hid k3
    clear k1 k2 k3
    go_wp2_with (first | (go_at_call 42; (with_reducible refine Calls.mono (K1.out _) ?_); rintro r w1 ⟨rfl, hb⟩; have hB : Below w.heap.size w w1 := (by refine Below.trans ?_ (hb.mono (by first | omega | (simp; done) | (simp <;> omega))); repeat (first | with_reducible exact Below.refl _ _ | with_reducible assumption | with_reducible refine Below.setCell ?_ (by first | omega | (simp; done) | (simp <;> omega)) _ | with_reducible refine below_drewN ?_ _ | with_reducible refine Below.drew ?_ | with_reducible refine Below.alloc ?_ (by first | omega | (simp; done) | (simp <;> omega)) _)); have hz := hb.size; (try simp at hz); (try (have zN := C3.carry (by first | with_reducible exact za | with_reducible exact za.up _ | with_reducible exact (za.up _).up _ | with_reducible exact C3.drew za | with_reducible exact (C3.drew za).up _) hb; clear za; have za := zN; clear zN; have zz := za; obtain ⟨x0, x1, x2, x3, x4, x5, x6⟩ := zz)); (try (have zN := C3.carry (by first | with_reducible exact zb | with_reducible exact zb.up _ | with_reducible exact (zb.up _).up _ | with_reducible exact C3.drew zb | with_reducible exact (C3.drew zb).up _) hb; clear zb; have zb := zN; clear zN; have zz := zb; obtain ⟨x0, x1, x2, x3, x4, x5, x6⟩ := zz)); (try (have zN := C3.carry (by first | with_reducible exact zc | with_reducible exact zc.up _ | with_reducible exact (zc.up _).up _ | with_reducible exact C3.drew zc | with_reducible exact (C3.drew zc).up _) hb; clear zc; have zc := zN; clear zN; have zz := zc; obtain ⟨x0, x1, x2, x3, x4, x5, x6⟩ := zz)); (try (have zN := C3.carry (by first | with_reducible exact zd | with_reducible exact zd.up _ | with_reducible exact (zd.up _).up _ | with_reducible exact C3.drew zd | with_reducible exact (C3.drew zd).up _) hb; clear zd; have zd := zN; clear zN; have zz := zd; obtain ⟨x0, x1, x2, x3, x4, x5, x6⟩ := zz)); (try (have zN := C3.carry (by first | with_reducible exact ze | with_reducible exact ze.up _ | with_reducible exact (ze.up _).up _ | with_reducible exact C3.drew ze | with_reducible exact (C3.drew ze).up _) hb; clear ze; have ze := zN; clear zN; have zz := ze; obtain ⟨x0, x1, x2, x3, x4, x5, x6⟩ := zz)); (try (have zN := C3.carry (by first | with_reducible exact zf | with_reducible exact zf.up _ | with_reducible exact (zf.up _).up _ | with_reducible exact C3.drew zf | with_reducible exact (C3.drew zf).up _) hb; clear zf; have zf := zN; clear zN; have zz := zf; obtain ⟨x0, x1, x2, x3, x4, x5, x6⟩ := zz)); (try (first | (have zT := za; clear zT; (first | (have zT := zb; clear zT; (first | (have zT := zc; clear zT; (first | (have zT := zd; clear zT; (first | (have zT := ze; clear zT; (first | (have zT := zf; clear zT; (skip)) | (have zf := C3.carry (C3.new _ _ _ _ _) hb; have zz := zf; obtain ⟨x0, x1, x2, x3, x4, x5, x6⟩ := zz))) | (have ze := C3.carry (C3.new _ _ _ _ _) hb; have zz := ze; obtain ⟨x0, x1, x2, x3, x4, x5, x6⟩ := zz))) | (have zd := C3.carry (C3.new _ _ _ _ _) hb; have zz := zd; obtain ⟨x0, x1, x2, x3, x4, x5, x6⟩ := zz))) | (have zc := C3.carry (C3.new _ _ _ _ _) hb; have zz := zc; obtain ⟨x0, x1, x2, x3, x4, x5, x6⟩ := zz))) | (have zb := C3.carry (C3.new _ _ _ _ _) hb; have zz := zb; obtain ⟨x0, x1, x2, x3, x4, x5, x6⟩ := zz))) | (have za := C3.carry (C3.new _ _ _ _ _) hb; have zz := za; obtain ⟨x0, x1, x2, x3, x4, x5, x6⟩ := zz)))))
    have zb := C3.new w1 (.bool n1) (.int .i64 c1) (.int .i64 e1) 24
    replace za := za.up (.cells #[.bool n1, .int .i64 c1, .int .i64 e1] 24)
    replace hB := hB.alloc hB.size (.cells #[.bool n1, .int .i64 c1, .int .i64 e1] 24)
    obtain ⟨sza0, sza1, sza2⟩ := C3.since za
    obtain ⟨szb0, szb1, szb2⟩ := C3.since zb
    refine wp_region_since (by kernel_rfl) (by kernel_rfl) ?_
    repeat (quiet_step (first | (go_at_call 42; with_reducible exact Calls.since_of (K1.out _)) | (go_at_call 43; with_reducible exact Calls.since_of (K2.out _)) | (go_at_call 23; with_reducible exact Calls.since_of (equalDec_self _ _ _ _)) | (go_at_call 17; with_reducible exact Calls.since_of (K3.out _))))
    refine wpQuiet_nil ?_
    intro w_ hw_
    obtain ⟨⟨w1, hb⟩, hw2⟩ := hw_
    have hw3 : w1 = w_ := hw2.symm
    clear hw2
    subst hw3
    clear sza0 sza1 sza2 szb0 szb1 szb2
    replace hB := hB.trans (hb.mono hB.size)
    have hz := hb.size
    replace za := C3.carry za hb
    have zz := za
    obtain ⟨x0, x1, x2, x3, x4, x5, x6⟩ := zz
    replace zb := C3.carry zb hb
    have zz := zb
    obtain ⟨x0, x1, x2, x3, x4, x5, x6⟩ := zz
    go_wp2
    obtain ⟨sza0, sza1, sza2⟩ := C3.since za
    obtain ⟨szb0, szb1, szb2⟩ := C3.since zb
    refine wp_region_since (by kernel_rfl) (by kernel_rfl) ?_
    repeat (quiet_step (first | (go_at_call 42; with_reducible exact Calls.since_of (K1.out _)) | (go_at_call 43; with_reducible exact Calls.since_of (K2.out _)) | (go_at_call 23; with_reducible exact Calls.since_of (equalDec_self _ _ _ _)) | (go_at_call 17; with_reducible exact Calls.since_of (K3.out _))))
    refine wpQuiet_nil ?_
    intro w_ hw_
    obtain ⟨⟨w1, hb⟩, hw2⟩ := hw_
    have hw3 : w1 = w_ := hw2.symm
    clear hw2
    subst hw3
    clear sza0 sza1 sza2 szb0 szb1 szb2
    replace hB := hB.trans (hb.mono hB.size)
    have hz := hb.size
    replace za := C3.carry za hb
    have zz := za
    obtain ⟨x0, x1, x2, x3, x4, x5, x6⟩ := zz
    replace zb := C3.carry zb hb
    have zz := zb
    obtain ⟨x0, x1, x2, x3, x4, x5, x6⟩ := zz
    go_wp2
    go_ret
    exact ⟨rfl, (by repeat (first | with_reducible exact Below.refl _ _ | with_reducible assumption | with_reducible refine Below.setCell ?_ (by first | omega | (simp; done) | (simp <;> omega)) _ | with_reducible refine below_drewN ?_ _ | with_reducible refine Below.drew ?_ | with_reducible refine Below.alloc ?_ (by first | omega | (simp; done) | (simp <;> omega)) _))⟩
  have hhi := Int.not_lt.1 hr
  clear hr
  have f := @Fd.P10_ok ⟨n, c, e⟩ k (Fd.vld_iff.1 hv) hlo hhi
  have hval := @addI_valid
  have k4 := fun W => NegateDec_any (Fd.roundI ⟨n, c, e⟩ k).n (Fd.roundI ⟨n, c, e⟩ k).c (Fd.roundI ⟨n, c, e⟩ k).e W
  rw [show Fd.neg ⟨(Fd.roundI ⟨n, c, e⟩ k).n, (Fd.roundI ⟨n, c, e⟩ k).c, (Fd.roundI ⟨n, c, e⟩ k).e⟩ = Fd.neg (Fd.roundI ⟨n, c, e⟩ k) from rfl] at k4
  have k5 := fun W => AddDec_any n c e (Fd.neg (Fd.roundI ⟨n, c, e⟩ k)).n (Fd.neg (Fd.roundI ⟨n, c, e⟩ k)).c (Fd.neg (Fd.roundI ⟨n, c, e⟩ k)).e W
  rw [show Fd.addI ⟨n, c, e⟩ ⟨(Fd.neg (Fd.roundI ⟨n, c, e⟩ k)).n, (Fd.neg (Fd.roundI ⟨n, c, e⟩ k)).c, (Fd.neg (Fd.roundI ⟨n, c, e⟩ k)).e⟩ = Fd.addI ⟨n, c, e⟩ (Fd.neg (Fd.roundI ⟨n, c, e⟩ k)) from rfl] at k5
  generalize Fd.neg (Fd.roundI ⟨n, c, e⟩ k) = G at *
  generalize Fd.roundI ⟨n, c, e⟩ k = O at *
  generalize Fd.addI ⟨n, c, e⟩ G = A at *
  obtain ⟨⟨n3, c3, e3⟩, p⟩ := A
  obtain ⟨n1, c1, e1⟩ := O
  obtain ⟨n2, c2, e2⟩ := G
  dsimp only at f
  have k6 := fun W => AddDec_any n3 c3 e3 n3 c3 e3 W
  have hT := @addI_valid ⟨n3, c3, e3⟩ ⟨n3, c3, e3⟩
  generalize Fd.addI ⟨n3, c3, e3⟩ ⟨n3, c3, e3⟩ = B at *
  obtain ⟨⟨n4, c4, e4⟩, q⟩ := B
  dsimp only at f hT k1 k2 k4 k5 k6
  have k8 := fun W => CompareDec_any false c4 e4 false 1 (-k) W
  have k7 := fun W (h : q = true) => amount_any n4 c4 e4 W (Fd.vld_iff.2 (hT h))
  have f' : p = true → q = true → Fd.cmpI ⟨false, c4, e4⟩ ⟨false, 1, -k⟩ ≤ 0 := f
  clear f hT hval hv
  generalize Fd.cmpI ⟨false, c4, e4⟩ ⟨false, 1, -k⟩ = X at *
  cases p
  · clear f'
    have K1 := Lib.hid k1; have K2 := Lib.hid k2; have K3 := Lib.hid k3; have K4 := Lib.hid k4; have K5 := Lib.hid k5; have K6 := Lib.hid k6; have K7 := Lib.hid k7; have K8 := Lib.hid k8
    clear k1 k2 k3 k4 k5 k6 k7 k8
    go_wp2_with (first | (go_at_call 42; (with_reducible refine Calls.mono (K1.out _) ?_); rintro r w1 ⟨rfl, hb⟩; have hB : Below w.heap.size w w1 := (by refine Below.trans ?_ (hb.mono (by first | omega | (simp; done) | (simp <;> omega))); repeat (first | with_reducible exact Below.refl _ _ | with_reducible assumption | with_reducible refine Below.setCell ?_ (by first | omega | (simp; done) | (simp <;> omega)) _ | with_reducible refine below_drewN ?_ _ | with_reducible refine Below.drew ?_ | with_reducible refine Below.alloc ?_ (by first | omega | (simp; done) | (simp <;> omega)) _)); have hz := hb.size; (try simp at hz); (try (have zN := C3.carry (by first | with_reducible exact za | with_reducible exact za.up _ | with_reducible exact (za.up _).up _ | with_reducible exact C3.drew za | with_reducible exact (C3.drew za).up _) hb; clear za; have za := zN; clear zN; have zz := za; obtain ⟨x0, x1, x2, x3, x4, x5, x6⟩ := zz)); (try (have zN := C3.carry (by first | with_reducible exact zb | with_reducible exact zb.up _ | with_reducible exact (zb.up _).up _ | with_reducible exact C3.drew zb | with_reducible exact (C3.drew zb).up _) hb; clear zb; have zb := zN; clear zN; have zz := zb; obtain ⟨x0, x1, x2, x3, x4, x5, x6⟩ := zz)); (try (have zN := C3.carry (by first | with_reducible exact zc | with_reducible exact zc.up _ | with_reducible exact (zc.up _).up _ | with_reducible exact C3.drew zc | with_reducible exact (C3.drew zc).up _) hb; clear zc; have zc := zN; clear zN; have zz := zc; obtain ⟨x0, x1, x2, x3, x4, x5, x6⟩ := zz)); (try (have zN := C3.carry (by first | with_reducible exact zd | with_reducible exact zd.up _ | with_reducible exact (zd.up _).up _ | with_reducible exact C3.drew zd | with_reducible exact (C3.drew zd).up _) hb; clear zd; have zd := zN; clear zN; have zz := zd; obtain ⟨x0, x1, x2, x3, x4, x5, x6⟩ := zz)); (try (have zN := C3.carry (by first | with_reducible exact ze | with_reducible exact ze.up _ | with_reducible exact (ze.up _).up _ | with_reducible exact C3.drew ze | with_reducible exact (C3.drew ze).up _) hb; clear ze; have ze := zN; clear zN; have zz := ze; obtain ⟨x0, x1, x2, x3, x4, x5, x6⟩ := zz)); (try (have zN := C3.carry (by first | with_reducible exact zf | with_reducible exact zf.up _ | with_reducible exact (zf.up _).up _ | with_reducible exact C3.drew zf | with_reducible exact (C3.drew zf).up _) hb; clear zf; have zf := zN; clear zN; have zz := zf; obtain ⟨x0, x1, x2, x3, x4, x5, x6⟩ := zz)); (try (first | (have zT := za; clear zT; (first | (have zT := zb; clear zT; (first | (have zT := zc; clear zT; (first | (have zT := zd; clear zT; (first | (have zT := ze; clear zT; (first | (have zT := zf; clear zT; (skip)) | (have zf := C3.carry (C3.new _ _ _ _ _) hb; have zz := zf; obtain ⟨x0, x1, x2, x3, x4, x5, x6⟩ := zz))) | (have ze := C3.carry (C3.new _ _ _ _ _) hb; have zz := ze; obtain ⟨x0, x1, x2, x3, x4, x5, x6⟩ := zz))) | (have zd := C3.carry (C3.new _ _ _ _ _) hb; have zz := zd; obtain ⟨x0, x1, x2, x3, x4, x5, x6⟩ := zz))) | (have zc := C3.carry (C3.new _ _ _ _ _) hb; have zz := zc; obtain ⟨x0, x1, x2, x3, x4, x5, x6⟩ := zz))) | (have zb := C3.carry (C3.new _ _ _ _ _) hb; have zz := zb; obtain ⟨x0, x1, x2, x3, x4, x5, x6⟩ := zz))) | (have za := C3.carry (C3.new _ _ _ _ _) hb; have zz := za; obtain ⟨x0, x1, x2, x3, x4, x5, x6⟩ := zz)))))
    have zb := C3.new w1 (.bool n1) (.int .i64 c1) (.int .i64 e1) 24
    replace za := za.up (.cells #[.bool n1, .int .i64 c1, .int .i64 e1] 24)
    replace hB := hB.alloc hB.size (.cells #[.bool n1, .int .i64 c1, .int .i64 e1] 24)
    obtain ⟨sza0, sza1, sza2⟩ := C3.since za
    obtain ⟨szb0, szb1, szb2⟩ := C3.since zb
    refine wp_region_since (by kernel_rfl) (by kernel_rfl) ?_
    repeat (quiet_step (first | (go_at_call 42; with_reducible exact Calls.since_of (K1.out _)) | (go_at_call 43; with_reducible exact Calls.since_of (K2.out _)) | (go_at_call 23; with_reducible exact Calls.since_of (equalDec_self _ _ _ _)) | (go_at_call 17; with_reducible exact Calls.since_of (K3.out _))))
    refine wpQuiet_nil ?_
    intro w_ hw_
    obtain ⟨⟨w1, hb⟩, hw2⟩ := hw_
    have hw3 : w1 = w_ := hw2.symm
    clear hw2
    subst hw3
    clear sza0 sza1 sza2 szb0 szb1 szb2
    replace hB := hB.trans (hb.mono hB.size)
    have hz := hb.size
    replace za := C3.carry za hb
    have zz := za
    obtain ⟨x0, x1, x2, x3, x4, x5, x6⟩ := zz
    replace zb := C3.carry zb hb
    have zz := zb
    obtain ⟨x0, x1, x2, x3, x4, x5, x6⟩ := zz
    go_wp2
    generalize w1 = W at *
    go_cut [6, 7] from 41 (fun s6 s7 wx => ∃ g : Nat, s6 = .pointer (some ⟨g, 0, none⟩) ∧ s7 = .bool false ∧ W.heap.size ≤ g ∧ C3 wx g (.bool n3) (.int .i64 c3) (.int .i64 e3) ∧ Below W.heap.size W wx)
    case first =>
      have hS0 : (∀ b o, b < W.heap.size → W.cell? ⟨b, o, none⟩ = W.cell? ⟨b, o, none⟩) ∧ Below W.heap.size W W := ⟨fun _ _ _ => rfl, Below.refl _ _⟩; go_region_held3 (fun w_ => (∀ b o, b < W.heap.size → w_.cell? ⟨b, o, none⟩ = W.cell? ⟨b, o, none⟩) ∧ Below W.heap.size W w_) (repeat (first | with_reducible assumption | with_reducible refine keepD ?_ | with_reducible refine keepL ?_ _ | with_reducible refine keepS ?_ (by first | omega | (simp; done) | (simp <;> omega)) _ | with_reducible exact keepA (by with_reducible assumption) hb)) (first | ((go_at_call 20; (with_reducible refine Calls.mono (K4.out _) ?_); rintro r w1 ⟨rfl, hb⟩; obtain ⟨hc, hf⟩ := bcell hb; have hz := hb.size; have hm := bmono hb; (try simp at hz); (try simp at hm); (try have hm2 := bmono2 (by with_reducible assumption) hb); have hS1 := keepA (by with_reducible assumption) hb; have hzS := hS1.2.size; (try have hq0 : W.heap.size < w1.heap.size := by omega); (try have hq1 : W.heap.size + 1 < w1.heap.size := by omega); (try have hq2 := Nat.lt_of_succ_le hz)); (try have zN := C3.carry (by first | with_reducible exact C3.new _ _ _ _ _ | with_reducible exact C3.drew (C3.new _ _ _ _ _)) hb); (try have zM := C3.carry (by with_reducible assumption) hb); (try simp only [World.size_alloc] at zN)) | ((go_at_call 29; (with_reducible refine Calls.mono (K5.out _) ?_); rintro r w1 ⟨rfl, hb⟩; obtain ⟨hc, hf⟩ := bcell hb; have hz := hb.size; have hm := bmono hb; (try simp at hz); (try simp at hm); (try have hm2 := bmono2 (by with_reducible assumption) hb); have hS1 := keepA (by with_reducible assumption) hb; have hzS := hS1.2.size; (try have hq0 : W.heap.size < w1.heap.size := by omega); (try have hq1 : W.heap.size + 1 < w1.heap.size := by omega); (try have hq2 := Nat.lt_of_succ_le hz)); (try have zN := C3.carry (by first | with_reducible exact C3.new _ _ _ _ _ | with_reducible exact C3.drew (C3.new _ _ _ _ _)) hb); (try have zM := C3.carry (by with_reducible assumption) hb); (try simp only [World.size_alloc] at zN)))
      all_goals go_wp2_with fail
      all_goals go_meet
      all_goals go_light
      all_goals have hq := hS1.2
      all_goals refine ⟨_, rfl, rfl, by omega, ?_, (by repeat (first | with_reducible exact Below.refl _ _ | with_reducible assumption | with_reducible refine Below.setCell ?_ (by first | omega | (simp; done) | (simp <;> omega)) _ | with_reducible refine below_drewN ?_ _ | with_reducible refine Below.drew ?_ | with_reducible refine Below.alloc ?_ (by first | omega | (simp; done) | (simp <;> omega)) _))⟩
      all_goals first
        | with_reducible exact C3.new _ _ _ _ _
        | with_reducible exact C3.set3 (by with_reducible assumption) _ _ _
    case rest =>
      obtain ⟨g, rfl, rfl, hg, zc, hbc⟩ := hcut
      replace hB := hB.trans (hbc.mono hB.size)
      have zz := zc
      obtain ⟨x0, x1, x2, x3, x4, x5, x6⟩ := zz
      go_wp2_with (first | (go_at_call 29; (with_reducible refine Calls.mono (K6.out _) ?_); rintro r w1 ⟨rfl, hb⟩; have hB : Below w.heap.size w w1 := (by refine Below.trans ?_ (hb.mono (by first | omega | (simp; done) | (simp <;> omega))); repeat (first | with_reducible exact Below.refl _ _ | with_reducible assumption | with_reducible refine Below.setCell ?_ (by first | omega | (simp; done) | (simp <;> omega)) _ | with_reducible refine below_drewN ?_ _ | with_reducible refine Below.drew ?_ | with_reducible refine Below.alloc ?_ (by first | omega | (simp; done) | (simp <;> omega)) _)); have hz := hb.size; (try simp at hz); (try (have zN := C3.carry (by first | with_reducible exact za | with_reducible exact za.up _ | with_reducible exact (za.up _).up _ | with_reducible exact C3.drew za | with_reducible exact (C3.drew za).up _) hb; clear za; have za := zN; clear zN; have zz := za; obtain ⟨x0, x1, x2, x3, x4, x5, x6⟩ := zz)); (try (have zN := C3.carry (by first | with_reducible exact zb | with_reducible exact zb.up _ | with_reducible exact (zb.up _).up _ | with_reducible exact C3.drew zb | with_reducible exact (C3.drew zb).up _) hb; clear zb; have zb := zN; clear zN; have zz := zb; obtain ⟨x0, x1, x2, x3, x4, x5, x6⟩ := zz)); (try (have zN := C3.carry (by first | with_reducible exact zc | with_reducible exact zc.up _ | with_reducible exact (zc.up _).up _ | with_reducible exact C3.drew zc | with_reducible exact (C3.drew zc).up _) hb; clear zc; have zc := zN; clear zN; have zz := zc; obtain ⟨x0, x1, x2, x3, x4, x5, x6⟩ := zz)); (try (have zN := C3.carry (by first | with_reducible exact zd | with_reducible exact zd.up _ | with_reducible exact (zd.up _).up _ | with_reducible exact C3.drew zd | with_reducible exact (C3.drew zd).up _) hb; clear zd; have zd := zN; clear zN; have zz := zd; obtain ⟨x0, x1, x2, x3, x4, x5, x6⟩ := zz)); (try (have zN := C3.carry (by first | with_reducible exact ze | with_reducible exact ze.up _ | with_reducible exact (ze.up _).up _ | with_reducible exact C3.drew ze | with_reducible exact (C3.drew ze).up _) hb; clear ze; have ze := zN; clear zN; have zz := ze; obtain ⟨x0, x1, x2, x3, x4, x5, x6⟩ := zz)); (try (have zN := C3.carry (by first | with_reducible exact zf | with_reducible exact zf.up _ | with_reducible exact (zf.up _).up _ | with_reducible exact C3.drew zf | with_reducible exact (C3.drew zf).up _) hb; clear zf; have zf := zN; clear zN; have zz := zf; obtain ⟨x0, x1, x2, x3, x4, x5, x6⟩ := zz)); (try (first | (have zT := za; clear zT; (first | (have zT := zb; clear zT; (first | (have zT := zc; clear zT; (first | (have zT := zd; clear zT; (first | (have zT := ze; clear zT; (first | (have zT := zf; clear zT; (skip)) | (have zf := C3.carry (C3.new _ _ _ _ _) hb; have zz := zf; obtain ⟨x0, x1, x2, x3, x4, x5, x6⟩ := zz))) | (have ze := C3.carry (C3.new _ _ _ _ _) hb; have zz := ze; obtain ⟨x0, x1, x2, x3, x4, x5, x6⟩ := zz))) | (have zd := C3.carry (C3.new _ _ _ _ _) hb; have zz := zd; obtain ⟨x0, x1, x2, x3, x4, x5, x6⟩ := zz))) | (have zc := C3.carry (C3.new _ _ _ _ _) hb; have zz := zc; obtain ⟨x0, x1, x2, x3, x4, x5, x6⟩ := zz))) | (have zb := C3.carry (C3.new _ _ _ _ _) hb; have zz := zb; obtain ⟨x0, x1, x2, x3, x4, x5, x6⟩ := zz))) | (have za := C3.carry (C3.new _ _ _ _ _) hb; have zz := za; obtain ⟨x0, x1, x2, x3, x4, x5, x6⟩ := zz)))) | (go_at_call 21; (with_reducible refine Calls.mono (K8.out _) ?_); rintro r w1 ⟨rfl, hb⟩; have hB : Below w.heap.size w w1 := (by refine Below.trans ?_ (hb.mono (by first | omega | (simp; done) | (simp <;> omega))); repeat (first | with_reducible exact Below.refl _ _ | with_reducible assumption | with_reducible refine Below.setCell ?_ (by first | omega | (simp; done) | (simp <;> omega)) _ | with_reducible refine below_drewN ?_ _ | with_reducible refine Below.drew ?_ | with_reducible refine Below.alloc ?_ (by first | omega | (simp; done) | (simp <;> omega)) _)); have hz := hb.size; (try simp at hz); (try (have zN := C3.carry (by first | with_reducible exact za | with_reducible exact za.up _ | with_reducible exact (za.up _).up _ | with_reducible exact C3.drew za | with_reducible exact (C3.drew za).up _) hb; clear za; have za := zN; clear zN; have zz := za; obtain ⟨x0, x1, x2, x3, x4, x5, x6⟩ := zz)); (try (have zN := C3.carry (by first | with_reducible exact zb | with_reducible exact zb.up _ | with_reducible exact (zb.up _).up _ | with_reducible exact C3.drew zb | with_reducible exact (C3.drew zb).up _) hb; clear zb; have zb := zN; clear zN; have zz := zb; obtain ⟨x0, x1, x2, x3, x4, x5, x6⟩ := zz)); (try (have zN := C3.carry (by first | with_reducible exact zc | with_reducible exact zc.up _ | with_reducible exact (zc.up _).up _ | with_reducible exact C3.drew zc | with_reducible exact (C3.drew zc).up _) hb; clear zc; have zc := zN; clear zN; have zz := zc; obtain ⟨x0, x1, x2, x3, x4, x5, x6⟩ := zz)); (try (have zN := C3.carry (by first | with_reducible exact zd | with_reducible exact zd.up _ | with_reducible exact (zd.up _).up _ | with_reducible exact C3.drew zd | with_reducible exact (C3.drew zd).up _) hb; clear zd; have zd := zN; clear zN; have zz := zd; obtain ⟨x0, x1, x2, x3, x4, x5, x6⟩ := zz)); (try (have zN := C3.carry (by first | with_reducible exact ze | with_reducible exact ze.up _ | with_reducible exact (ze.up _).up _ | with_reducible exact C3.drew ze | with_reducible exact (C3.drew ze).up _) hb; clear ze; have ze := zN; clear zN; have zz := ze; obtain ⟨x0, x1, x2, x3, x4, x5, x6⟩ := zz)); (try (have zN := C3.carry (by first | with_reducible exact zf | with_reducible exact zf.up _ | with_reducible exact (zf.up _).up _ | with_reducible exact C3.drew zf | with_reducible exact (C3.drew zf).up _) hb; clear zf; have zf := zN; clear zN; have zz := zf; obtain ⟨x0, x1, x2, x3, x4, x5, x6⟩ := zz)); (try (first | (have zT := za; clear zT; (first | (have zT := zb; clear zT; (first | (have zT := zc; clear zT; (first | (have zT := zd; clear zT; (first | (have zT := ze; clear zT; (first | (have zT := zf; clear zT; (skip)) | (have zf := C3.carry (C3.new _ _ _ _ _) hb; have zz := zf; obtain ⟨x0, x1, x2, x3, x4, x5, x6⟩ := zz))) | (have ze := C3.carry (C3.new _ _ _ _ _) hb; have zz := ze; obtain ⟨x0, x1, x2, x3, x4, x5, x6⟩ := zz))) | (have zd := C3.carry (C3.new _ _ _ _ _) hb; have zz := zd; obtain ⟨x0, x1, x2, x3, x4, x5, x6⟩ := zz))) | (have zc := C3.carry (C3.new _ _ _ _ _) hb; have zz := zc; obtain ⟨x0, x1, x2, x3, x4, x5, x6⟩ := zz))) | (have zb := C3.carry (C3.new _ _ _ _ _) hb; have zz := zb; obtain ⟨x0, x1, x2, x3, x4, x5, x6⟩ := zz))) | (have za := C3.carry (C3.new _ _ _ _ _) hb; have zz := za; obtain ⟨x0, x1, x2, x3, x4, x5, x6⟩ := zz)))))
      all_goals go_ret
      all_goals exact ⟨rfl, (by repeat (first | with_reducible exact Below.refl _ _ | with_reducible assumption | with_reducible refine Below.setCell ?_ (by first | omega | (simp; done) | (simp <;> omega)) _ | with_reducible refine below_drewN ?_ _ | with_reducible refine Below.drew ?_ | with_reducible refine Below.alloc ?_ (by first | omega | (simp; done) | (simp <;> omega)) _))⟩
  cases q
  · clear f' k7
    have K1 := Lib.hid k1; have K2 := Lib.hid k2; have K3 := Lib.hid k3; have K4 := Lib.hid k4; have K5 := Lib.hid k5; have K6 := Lib.hid k6; have K8 := Lib.hid k8
    clear k1 k2 k3 k4 k5 k6 k8
    go_wp2_with (first | (go_at_call 42; (with_reducible refine Calls.mono (K1.out _) ?_); rintro r w1 ⟨rfl, hb⟩; have hB : Below w.heap.size w w1 := (by refine Below.trans ?_ (hb.mono (by first | omega | (simp; done) | (simp <;> omega))); repeat (first | with_reducible exact Below.refl _ _ | with_reducible assumption | with_reducible refine Below.setCell ?_ (by first | omega | (simp; done) | (simp <;> omega)) _ | with_reducible refine below_drewN ?_ _ | with_reducible refine Below.drew ?_ | with_reducible refine Below.alloc ?_ (by first | omega | (simp; done) | (simp <;> omega)) _)); have hz := hb.size; (try simp at hz); (try (have zN := C3.carry (by first | with_reducible exact za | with_reducible exact za.up _ | with_reducible exact (za.up _).up _ | with_reducible exact C3.drew za | with_reducible exact (C3.drew za).up _) hb; clear za; have za := zN; clear zN; have zz := za; obtain ⟨x0, x1, x2, x3, x4, x5, x6⟩ := zz)); (try (have zN := C3.carry (by first | with_reducible exact zb | with_reducible exact zb.up _ | with_reducible exact (zb.up _).up _ | with_reducible exact C3.drew zb | with_reducible exact (C3.drew zb).up _) hb; clear zb; have zb := zN; clear zN; have zz := zb; obtain ⟨x0, x1, x2, x3, x4, x5, x6⟩ := zz)); (try (have zN := C3.carry (by first | with_reducible exact zc | with_reducible exact zc.up _ | with_reducible exact (zc.up _).up _ | with_reducible exact C3.drew zc | with_reducible exact (C3.drew zc).up _) hb; clear zc; have zc := zN; clear zN; have zz := zc; obtain ⟨x0, x1, x2, x3, x4, x5, x6⟩ := zz)); (try (have zN := C3.carry (by first | with_reducible exact zd | with_reducible exact zd.up _ | with_reducible exact (zd.up _).up _ | with_reducible exact C3.drew zd | with_reducible exact (C3.drew zd).up _) hb; clear zd; have zd := zN; clear zN; have zz := zd; obtain ⟨x0, x1, x2, x3, x4, x5, x6⟩ := zz)); (try (have zN := C3.carry (by first | with_reducible exact ze | with_reducible exact ze.up _ | with_reducible exact (ze.up _).up _ | with_reducible exact C3.drew ze | with_reducible exact (C3.drew ze).up _) hb; clear ze; have ze := zN; clear zN; have zz := ze; obtain ⟨x0, x1, x2, x3, x4, x5, x6⟩ := zz)); (try (have zN := C3.carry (by first | with_reducible exact zf | with_reducible exact zf.up _ | with_reducible exact (zf.up _).up _ | with_reducible exact C3.drew zf | with_reducible exact (C3.drew zf).up _) hb; clear zf; have zf := zN; clear zN; have zz := zf; obtain ⟨x0, x1, x2, x3, x4, x5, x6⟩ := zz)); (try (first | (have zT := za; clear zT; (first | (have zT := zb; clear zT; (first | (have zT := zc; clear zT; (first | (have zT := zd; clear zT; (first | (have zT := ze; clear zT; (first | (have zT := zf; clear zT; (skip)) | (have zf := C3.carry (C3.new _ _ _ _ _) hb; have zz := zf; obtain ⟨x0, x1, x2, x3, x4, x5, x6⟩ := zz))) | (have ze := C3.carry (C3.new _ _ _ _ _) hb; have zz := ze; obtain ⟨x0, x1, x2, x3, x4, x5, x6⟩ := zz))) | (have zd := C3.carry (C3.new _ _ _ _ _) hb; have zz := zd; obtain ⟨x0, x1, x2, x3, x4, x5, x6⟩ := zz))) | (have zc := C3.carry (C3.new _ _ _ _ _) hb; have zz := zc; obtain ⟨x0, x1, x2, x3, x4, x5, x6⟩ := zz))) | (have zb := C3.carry (C3.new _ _ _ _ _) hb; have zz := zb; obtain ⟨x0, x1, x2, x3, x4, x5, x6⟩ := zz))) | (have za := C3.carry (C3.new _ _ _ _ _) hb; have zz := za; obtain ⟨x0, x1, x2, x3, x4, x5, x6⟩ := zz)))))
    have zb := C3.new w1 (.bool n1) (.int .i64 c1) (.int .i64 e1) 24
    replace za := za.up (.cells #[.bool n1, .int .i64 c1, .int .i64 e1] 24)
    replace hB := hB.alloc hB.size (.cells #[.bool n1, .int .i64 c1, .int .i64 e1] 24)
    obtain ⟨sza0, sza1, sza2⟩ := C3.since za
    obtain ⟨szb0, szb1, szb2⟩ := C3.since zb
    refine wp_region_since (by kernel_rfl) (by kernel_rfl) ?_
    repeat (quiet_step (first | (go_at_call 42; with_reducible exact Calls.since_of (K1.out _)) | (go_at_call 43; with_reducible exact Calls.since_of (K2.out _)) | (go_at_call 23; with_reducible exact Calls.since_of (equalDec_self _ _ _ _)) | (go_at_call 17; with_reducible exact Calls.since_of (K3.out _))))
    refine wpQuiet_nil ?_
    intro w_ hw_
    obtain ⟨⟨w1, hb⟩, hw2⟩ := hw_
    have hw3 : w1 = w_ := hw2.symm
    clear hw2
    subst hw3
    clear sza0 sza1 sza2 szb0 szb1 szb2
    replace hB := hB.trans (hb.mono hB.size)
    have hz := hb.size
    replace za := C3.carry za hb
    have zz := za
    obtain ⟨x0, x1, x2, x3, x4, x5, x6⟩ := zz
    replace zb := C3.carry zb hb
    have zz := zb
    obtain ⟨x0, x1, x2, x3, x4, x5, x6⟩ := zz
    go_wp2
    generalize w1 = W at *
    go_cut [6, 7] from 41 (fun s6 s7 wx => ∃ g : Nat, s6 = .pointer (some ⟨g, 0, none⟩) ∧ s7 = .bool true ∧ W.heap.size ≤ g ∧ C3 wx g (.bool n3) (.int .i64 c3) (.int .i64 e3) ∧ Below W.heap.size W wx)
    case first =>
      have hS0 : (∀ b o, b < W.heap.size → W.cell? ⟨b, o, none⟩ = W.cell? ⟨b, o, none⟩) ∧ Below W.heap.size W W := ⟨fun _ _ _ => rfl, Below.refl _ _⟩; go_region_held3 (fun w_ => (∀ b o, b < W.heap.size → w_.cell? ⟨b, o, none⟩ = W.cell? ⟨b, o, none⟩) ∧ Below W.heap.size W w_) (repeat (first | with_reducible assumption | with_reducible refine keepD ?_ | with_reducible refine keepL ?_ _ | with_reducible refine keepS ?_ (by first | omega | (simp; done) | (simp <;> omega)) _ | with_reducible exact keepA (by with_reducible assumption) hb)) (first | ((go_at_call 20; (with_reducible refine Calls.mono (K4.out _) ?_); rintro r w1 ⟨rfl, hb⟩; obtain ⟨hc, hf⟩ := bcell hb; have hz := hb.size; have hm := bmono hb; (try simp at hz); (try simp at hm); (try have hm2 := bmono2 (by with_reducible assumption) hb); have hS1 := keepA (by with_reducible assumption) hb; have hzS := hS1.2.size; (try have hq0 : W.heap.size < w1.heap.size := by omega); (try have hq1 : W.heap.size + 1 < w1.heap.size := by omega); (try have hq2 := Nat.lt_of_succ_le hz)); (try have zN := C3.carry (by first | with_reducible exact C3.new _ _ _ _ _ | with_reducible exact C3.drew (C3.new _ _ _ _ _)) hb); (try have zM := C3.carry (by with_reducible assumption) hb); (try simp only [World.size_alloc] at zN)) | ((go_at_call 29; (with_reducible refine Calls.mono (K5.out _) ?_); rintro r w1 ⟨rfl, hb⟩; obtain ⟨hc, hf⟩ := bcell hb; have hz := hb.size; have hm := bmono hb; (try simp at hz); (try simp at hm); (try have hm2 := bmono2 (by with_reducible assumption) hb); have hS1 := keepA (by with_reducible assumption) hb; have hzS := hS1.2.size; (try have hq0 : W.heap.size < w1.heap.size := by omega); (try have hq1 : W.heap.size + 1 < w1.heap.size := by omega); (try have hq2 := Nat.lt_of_succ_le hz)); (try have zN := C3.carry (by first | with_reducible exact C3.new _ _ _ _ _ | with_reducible exact C3.drew (C3.new _ _ _ _ _)) hb); (try have zM := C3.carry (by with_reducible assumption) hb); (try simp only [World.size_alloc] at zN)))
      all_goals go_wp2_with fail
      all_goals go_meet
      all_goals go_light
      all_goals have hq := hS1.2
      all_goals refine ⟨_, rfl, rfl, by omega, ?_, (by repeat (first | with_reducible exact Below.refl _ _ | with_reducible assumption | with_reducible refine Below.setCell ?_ (by first | omega | (simp; done) | (simp <;> omega)) _ | with_reducible refine below_drewN ?_ _ | with_reducible refine Below.drew ?_ | with_reducible refine Below.alloc ?_ (by first | omega | (simp; done) | (simp <;> omega)) _))⟩
      all_goals first
        | with_reducible exact C3.new _ _ _ _ _
        | with_reducible exact C3.set3 (by with_reducible assumption) _ _ _
    case rest =>
      obtain ⟨g, rfl, rfl, hg, zc, hbc⟩ := hcut
      replace hB := hB.trans (hbc.mono hB.size)
      have zz := zc
      obtain ⟨x0, x1, x2, x3, x4, x5, x6⟩ := zz
      go_wp2_with (first | (go_at_call 29; (with_reducible refine Calls.mono (K6.out _) ?_); rintro r w1 ⟨rfl, hb⟩; have hB : Below w.heap.size w w1 := (by refine Below.trans ?_ (hb.mono (by first | omega | (simp; done) | (simp <;> omega))); repeat (first | with_reducible exact Below.refl _ _ | with_reducible assumption | with_reducible refine Below.setCell ?_ (by first | omega | (simp; done) | (simp <;> omega)) _ | with_reducible refine below_drewN ?_ _ | with_reducible refine Below.drew ?_ | with_reducible refine Below.alloc ?_ (by first | omega | (simp; done) | (simp <;> omega)) _)); have hz := hb.size; (try simp at hz); (try (have zN := C3.carry (by first | with_reducible exact za | with_reducible exact za.up _ | with_reducible exact (za.up _).up _ | with_reducible exact C3.drew za | with_reducible exact (C3.drew za).up _) hb; clear za; have za := zN; clear zN; have zz := za; obtain ⟨x0, x1, x2, x3, x4, x5, x6⟩ := zz)); (try (have zN := C3.carry (by first | with_reducible exact zb | with_reducible exact zb.up _ | with_reducible exact (zb.up _).up _ | with_reducible exact C3.drew zb | with_reducible exact (C3.drew zb).up _) hb; clear zb; have zb := zN; clear zN; have zz := zb; obtain ⟨x0, x1, x2, x3, x4, x5, x6⟩ := zz)); (try (have zN := C3.carry (by first | with_reducible exact zc | with_reducible exact zc.up _ | with_reducible exact (zc.up _).up _ | with_reducible exact C3.drew zc | with_reducible exact (C3.drew zc).up _) hb; clear zc; have zc := zN; clear zN; have zz := zc; obtain ⟨x0, x1, x2, x3, x4, x5, x6⟩ := zz)); (try (have zN := C3.carry (by first | with_reducible exact zd | with_reducible exact zd.up _ | with_reducible exact (zd.up _).up _ | with_reducible exact C3.drew zd | with_reducible exact (C3.drew zd).up _) hb; clear zd; have zd := zN; clear zN; have zz := zd; obtain ⟨x0, x1, x2, x3, x4, x5, x6⟩ := zz)); (try (have zN := C3.carry (by first | with_reducible exact ze | with_reducible exact ze.up _ | with_reducible exact (ze.up _).up _ | with_reducible exact C3.drew ze | with_reducible exact (C3.drew ze).up _) hb; clear ze; have ze := zN; clear zN; have zz := ze; obtain ⟨x0, x1, x2, x3, x4, x5, x6⟩ := zz)); (try (have zN := C3.carry (by first | with_reducible exact zf | with_reducible exact zf.up _ | with_reducible exact (zf.up _).up _ | with_reducible exact C3.drew zf | with_reducible exact (C3.drew zf).up _) hb; clear zf; have zf := zN; clear zN; have zz := zf; obtain ⟨x0, x1, x2, x3, x4, x5, x6⟩ := zz)); (try (first | (have zT := za; clear zT; (first | (have zT := zb; clear zT; (first | (have zT := zc; clear zT; (first | (have zT := zd; clear zT; (first | (have zT := ze; clear zT; (first | (have zT := zf; clear zT; (skip)) | (have zf := C3.carry (C3.new _ _ _ _ _) hb; have zz := zf; obtain ⟨x0, x1, x2, x3, x4, x5, x6⟩ := zz))) | (have ze := C3.carry (C3.new _ _ _ _ _) hb; have zz := ze; obtain ⟨x0, x1, x2, x3, x4, x5, x6⟩ := zz))) | (have zd := C3.carry (C3.new _ _ _ _ _) hb; have zz := zd; obtain ⟨x0, x1, x2, x3, x4, x5, x6⟩ := zz))) | (have zc := C3.carry (C3.new _ _ _ _ _) hb; have zz := zc; obtain ⟨x0, x1, x2, x3, x4, x5, x6⟩ := zz))) | (have zb := C3.carry (C3.new _ _ _ _ _) hb; have zz := zb; obtain ⟨x0, x1, x2, x3, x4, x5, x6⟩ := zz))) | (have za := C3.carry (C3.new _ _ _ _ _) hb; have zz := za; obtain ⟨x0, x1, x2, x3, x4, x5, x6⟩ := zz)))) | (go_at_call 21; (with_reducible refine Calls.mono (K8.out _) ?_); rintro r w1 ⟨rfl, hb⟩; have hB : Below w.heap.size w w1 := (by refine Below.trans ?_ (hb.mono (by first | omega | (simp; done) | (simp <;> omega))); repeat (first | with_reducible exact Below.refl _ _ | with_reducible assumption | with_reducible refine Below.setCell ?_ (by first | omega | (simp; done) | (simp <;> omega)) _ | with_reducible refine below_drewN ?_ _ | with_reducible refine Below.drew ?_ | with_reducible refine Below.alloc ?_ (by first | omega | (simp; done) | (simp <;> omega)) _)); have hz := hb.size; (try simp at hz); (try (have zN := C3.carry (by first | with_reducible exact za | with_reducible exact za.up _ | with_reducible exact (za.up _).up _ | with_reducible exact C3.drew za | with_reducible exact (C3.drew za).up _) hb; clear za; have za := zN; clear zN; have zz := za; obtain ⟨x0, x1, x2, x3, x4, x5, x6⟩ := zz)); (try (have zN := C3.carry (by first | with_reducible exact zb | with_reducible exact zb.up _ | with_reducible exact (zb.up _).up _ | with_reducible exact C3.drew zb | with_reducible exact (C3.drew zb).up _) hb; clear zb; have zb := zN; clear zN; have zz := zb; obtain ⟨x0, x1, x2, x3, x4, x5, x6⟩ := zz)); (try (have zN := C3.carry (by first | with_reducible exact zc | with_reducible exact zc.up _ | with_reducible exact (zc.up _).up _ | with_reducible exact C3.drew zc | with_reducible exact (C3.drew zc).up _) hb; clear zc; have zc := zN; clear zN; have zz := zc; obtain ⟨x0, x1, x2, x3, x4, x5, x6⟩ := zz)); (try (have zN := C3.carry (by first | with_reducible exact zd | with_reducible exact zd.up _ | with_reducible exact (zd.up _).up _ | with_reducible exact C3.drew zd | with_reducible exact (C3.drew zd).up _) hb; clear zd; have zd := zN; clear zN; have zz := zd; obtain ⟨x0, x1, x2, x3, x4, x5, x6⟩ := zz)); (try (have zN := C3.carry (by first | with_reducible exact ze | with_reducible exact ze.up _ | with_reducible exact (ze.up _).up _ | with_reducible exact C3.drew ze | with_reducible exact (C3.drew ze).up _) hb; clear ze; have ze := zN; clear zN; have zz := ze; obtain ⟨x0, x1, x2, x3, x4, x5, x6⟩ := zz)); (try (have zN := C3.carry (by first | with_reducible exact zf | with_reducible exact zf.up _ | with_reducible exact (zf.up _).up _ | with_reducible exact C3.drew zf | with_reducible exact (C3.drew zf).up _) hb; clear zf; have zf := zN; clear zN; have zz := zf; obtain ⟨x0, x1, x2, x3, x4, x5, x6⟩ := zz)); (try (first | (have zT := za; clear zT; (first | (have zT := zb; clear zT; (first | (have zT := zc; clear zT; (first | (have zT := zd; clear zT; (first | (have zT := ze; clear zT; (first | (have zT := zf; clear zT; (skip)) | (have zf := C3.carry (C3.new _ _ _ _ _) hb; have zz := zf; obtain ⟨x0, x1, x2, x3, x4, x5, x6⟩ := zz))) | (have ze := C3.carry (C3.new _ _ _ _ _) hb; have zz := ze; obtain ⟨x0, x1, x2, x3, x4, x5, x6⟩ := zz))) | (have zd := C3.carry (C3.new _ _ _ _ _) hb; have zz := zd; obtain ⟨x0, x1, x2, x3, x4, x5, x6⟩ := zz))) | (have zc := C3.carry (C3.new _ _ _ _ _) hb; have zz := zc; obtain ⟨x0, x1, x2, x3, x4, x5, x6⟩ := zz))) | (have zb := C3.carry (C3.new _ _ _ _ _) hb; have zz := zb; obtain ⟨x0, x1, x2, x3, x4, x5, x6⟩ := zz))) | (have za := C3.carry (C3.new _ _ _ _ _) hb; have zz := za; obtain ⟨x0, x1, x2, x3, x4, x5, x6⟩ := zz)))))
      all_goals go_ret
      all_goals exact ⟨rfl, (by repeat (first | with_reducible exact Below.refl _ _ | with_reducible assumption | with_reducible refine Below.setCell ?_ (by first | omega | (simp; done) | (simp <;> omega)) _ | with_reducible refine below_drewN ?_ _ | with_reducible refine Below.drew ?_ | with_reducible refine Below.alloc ?_ (by first | omega | (simp; done) | (simp <;> omega)) _))⟩
  · have hX := f' rfl rfl
    clear f'
    replace k7 := fun W => k7 W rfl
    have K1 := Lib.hid k1; have K2 := Lib.hid k2; have K3 := Lib.hid k3; have K4 := Lib.hid k4; have K5 := Lib.hid k5; have K6 := Lib.hid k6; have K7 := Lib.hid k7; have K8 := Lib.hid k8
    clear k1 k2 k3 k4 k5 k6 k7 k8
    go_wp2_with (first | (go_at_call 42; (with_reducible refine Calls.mono (K1.out _) ?_); rintro r w1 ⟨rfl, hb⟩; have hB : Below w.heap.size w w1 := (by refine Below.trans ?_ (hb.mono (by first | omega | (simp; done) | (simp <;> omega))); repeat (first | with_reducible exact Below.refl _ _ | with_reducible assumption | with_reducible refine Below.setCell ?_ (by first | omega | (simp; done) | (simp <;> omega)) _ | with_reducible refine below_drewN ?_ _ | with_reducible refine Below.drew ?_ | with_reducible refine Below.alloc ?_ (by first | omega | (simp; done) | (simp <;> omega)) _)); have hz := hb.size; (try simp at hz); (try (have zN := C3.carry (by first | with_reducible exact za | with_reducible exact za.up _ | with_reducible exact (za.up _).up _ | with_reducible exact C3.drew za | with_reducible exact (C3.drew za).up _) hb; clear za; have za := zN; clear zN; have zz := za; obtain ⟨x0, x1, x2, x3, x4, x5, x6⟩ := zz)); (try (have zN := C3.carry (by first | with_reducible exact zb | with_reducible exact zb.up _ | with_reducible exact (zb.up _).up _ | with_reducible exact C3.drew zb | with_reducible exact (C3.drew zb).up _) hb; clear zb; have zb := zN; clear zN; have zz := zb; obtain ⟨x0, x1, x2, x3, x4, x5, x6⟩ := zz)); (try (have zN := C3.carry (by first | with_reducible exact zc | with_reducible exact zc.up _ | with_reducible exact (zc.up _).up _ | with_reducible exact C3.drew zc | with_reducible exact (C3.drew zc).up _) hb; clear zc; have zc := zN; clear zN; have zz := zc; obtain ⟨x0, x1, x2, x3, x4, x5, x6⟩ := zz)); (try (have zN := C3.carry (by first | with_reducible exact zd | with_reducible exact zd.up _ | with_reducible exact (zd.up _).up _ | with_reducible exact C3.drew zd | with_reducible exact (C3.drew zd).up _) hb; clear zd; have zd := zN; clear zN; have zz := zd; obtain ⟨x0, x1, x2, x3, x4, x5, x6⟩ := zz)); (try (have zN := C3.carry (by first | with_reducible exact ze | with_reducible exact ze.up _ | with_reducible exact (ze.up _).up _ | with_reducible exact C3.drew ze | with_reducible exact (C3.drew ze).up _) hb; clear ze; have ze := zN; clear zN; have zz := ze; obtain ⟨x0, x1, x2, x3, x4, x5, x6⟩ := zz)); (try (have zN := C3.carry (by first | with_reducible exact zf | with_reducible exact zf.up _ | with_reducible exact (zf.up _).up _ | with_reducible exact C3.drew zf | with_reducible exact (C3.drew zf).up _) hb; clear zf; have zf := zN; clear zN; have zz := zf; obtain ⟨x0, x1, x2, x3, x4, x5, x6⟩ := zz)); (try (first | (have zT := za; clear zT; (first | (have zT := zb; clear zT; (first | (have zT := zc; clear zT; (first | (have zT := zd; clear zT; (first | (have zT := ze; clear zT; (first | (have zT := zf; clear zT; (skip)) | (have zf := C3.carry (C3.new _ _ _ _ _) hb; have zz := zf; obtain ⟨x0, x1, x2, x3, x4, x5, x6⟩ := zz))) | (have ze := C3.carry (C3.new _ _ _ _ _) hb; have zz := ze; obtain ⟨x0, x1, x2, x3, x4, x5, x6⟩ := zz))) | (have zd := C3.carry (C3.new _ _ _ _ _) hb; have zz := zd; obtain ⟨x0, x1, x2, x3, x4, x5, x6⟩ := zz))) | (have zc := C3.carry (C3.new _ _ _ _ _) hb; have zz := zc; obtain ⟨x0, x1, x2, x3, x4, x5, x6⟩ := zz))) | (have zb := C3.carry (C3.new _ _ _ _ _) hb; have zz := zb; obtain ⟨x0, x1, x2, x3, x4, x5, x6⟩ := zz))) | (have za := C3.carry (C3.new _ _ _ _ _) hb; have zz := za; obtain ⟨x0, x1, x2, x3, x4, x5, x6⟩ := zz)))))
    have zb := C3.new w1 (.bool n1) (.int .i64 c1) (.int .i64 e1) 24
    replace za := za.up (.cells #[.bool n1, .int .i64 c1, .int .i64 e1] 24)
    replace hB := hB.alloc hB.size (.cells #[.bool n1, .int .i64 c1, .int .i64 e1] 24)
    obtain ⟨sza0, sza1, sza2⟩ := C3.since za
    obtain ⟨szb0, szb1, szb2⟩ := C3.since zb
    refine wp_region_since (by kernel_rfl) (by kernel_rfl) ?_
    repeat (quiet_step (first | (go_at_call 42; with_reducible exact Calls.since_of (K1.out _)) | (go_at_call 43; with_reducible exact Calls.since_of (K2.out _)) | (go_at_call 23; with_reducible exact Calls.since_of (equalDec_self _ _ _ _)) | (go_at_call 17; with_reducible exact Calls.since_of (K3.out _))))
    refine wpQuiet_nil ?_
    intro w_ hw_
    obtain ⟨⟨w1, hb⟩, hw2⟩ := hw_
    have hw3 : w1 = w_ := hw2.symm
    clear hw2
    subst hw3
    clear sza0 sza1 sza2 szb0 szb1 szb2
    replace hB := hB.trans (hb.mono hB.size)
    have hz := hb.size
    replace za := C3.carry za hb
    have zz := za
    obtain ⟨x0, x1, x2, x3, x4, x5, x6⟩ := zz
    replace zb := C3.carry zb hb
    have zz := zb
    obtain ⟨x0, x1, x2, x3, x4, x5, x6⟩ := zz
    go_wp2
    generalize w1 = W at *
    go_cut [6, 7] from 41 (fun s6 s7 wx => ∃ g : Nat, s6 = .pointer (some ⟨g, 0, none⟩) ∧ s7 = .bool true ∧ W.heap.size ≤ g ∧ C3 wx g (.bool n3) (.int .i64 c3) (.int .i64 e3) ∧ Below W.heap.size W wx)
    case first =>
      have hS0 : (∀ b o, b < W.heap.size → W.cell? ⟨b, o, none⟩ = W.cell? ⟨b, o, none⟩) ∧ Below W.heap.size W W := ⟨fun _ _ _ => rfl, Below.refl _ _⟩; go_region_held3 (fun w_ => (∀ b o, b < W.heap.size → w_.cell? ⟨b, o, none⟩ = W.cell? ⟨b, o, none⟩) ∧ Below W.heap.size W w_) (repeat (first | with_reducible assumption | with_reducible refine keepD ?_ | with_reducible refine keepL ?_ _ | with_reducible refine keepS ?_ (by first | omega | (simp; done) | (simp <;> omega)) _ | with_reducible exact keepA (by with_reducible assumption) hb)) (first | ((go_at_call 20; (with_reducible refine Calls.mono (K4.out _) ?_); rintro r w1 ⟨rfl, hb⟩; obtain ⟨hc, hf⟩ := bcell hb; have hz := hb.size; have hm := bmono hb; (try simp at hz); (try simp at hm); (try have hm2 := bmono2 (by with_reducible assumption) hb); have hS1 := keepA (by with_reducible assumption) hb; have hzS := hS1.2.size; (try have hq0 : W.heap.size < w1.heap.size := by omega); (try have hq1 : W.heap.size + 1 < w1.heap.size := by omega); (try have hq2 := Nat.lt_of_succ_le hz)); (try have zN := C3.carry (by first | with_reducible exact C3.new _ _ _ _ _ | with_reducible exact C3.drew (C3.new _ _ _ _ _)) hb); (try have zM := C3.carry (by with_reducible assumption) hb); (try simp only [World.size_alloc] at zN)) | ((go_at_call 29; (with_reducible refine Calls.mono (K5.out _) ?_); rintro r w1 ⟨rfl, hb⟩; obtain ⟨hc, hf⟩ := bcell hb; have hz := hb.size; have hm := bmono hb; (try simp at hz); (try simp at hm); (try have hm2 := bmono2 (by with_reducible assumption) hb); have hS1 := keepA (by with_reducible assumption) hb; have hzS := hS1.2.size; (try have hq0 : W.heap.size < w1.heap.size := by omega); (try have hq1 : W.heap.size + 1 < w1.heap.size := by omega); (try have hq2 := Nat.lt_of_succ_le hz)); (try have zN := C3.carry (by first | with_reducible exact C3.new _ _ _ _ _ | with_reducible exact C3.drew (C3.new _ _ _ _ _)) hb); (try have zM := C3.carry (by with_reducible assumption) hb); (try simp only [World.size_alloc] at zN)))
      all_goals go_wp2_with fail
      all_goals go_meet
      all_goals go_light
      all_goals have hq := hS1.2
      all_goals refine ⟨_, rfl, rfl, by omega, ?_, (by repeat (first | with_reducible exact Below.refl _ _ | with_reducible assumption | with_reducible refine Below.setCell ?_ (by first | omega | (simp; done) | (simp <;> omega)) _ | with_reducible refine below_drewN ?_ _ | with_reducible refine Below.drew ?_ | with_reducible refine Below.alloc ?_ (by first | omega | (simp; done) | (simp <;> omega)) _))⟩
      all_goals first
        | with_reducible exact C3.new _ _ _ _ _
        | with_reducible exact C3.set3 (by with_reducible assumption) _ _ _
    case rest =>
      obtain ⟨g, rfl, rfl, hg, zc, hbc⟩ := hcut
      replace hB := hB.trans (hbc.mono hB.size)
      have zz := zc
      obtain ⟨x0, x1, x2, x3, x4, x5, x6⟩ := zz
      go_wp2_with (first | (go_at_call 29; (with_reducible refine Calls.mono (K6.out _) ?_); rintro r w1 ⟨rfl, hb⟩; have hB : Below w.heap.size w w1 := (by refine Below.trans ?_ (hb.mono (by first | omega | (simp; done) | (simp <;> omega))); repeat (first | with_reducible exact Below.refl _ _ | with_reducible assumption | with_reducible refine Below.setCell ?_ (by first | omega | (simp; done) | (simp <;> omega)) _ | with_reducible refine below_drewN ?_ _ | with_reducible refine Below.drew ?_ | with_reducible refine Below.alloc ?_ (by first | omega | (simp; done) | (simp <;> omega)) _)); have hz := hb.size; (try simp at hz); (try (have zN := C3.carry (by first | with_reducible exact za | with_reducible exact za.up _ | with_reducible exact (za.up _).up _ | with_reducible exact C3.drew za | with_reducible exact (C3.drew za).up _) hb; clear za; have za := zN; clear zN; have zz := za; obtain ⟨x0, x1, x2, x3, x4, x5, x6⟩ := zz)); (try (have zN := C3.carry (by first | with_reducible exact zb | with_reducible exact zb.up _ | with_reducible exact (zb.up _).up _ | with_reducible exact C3.drew zb | with_reducible exact (C3.drew zb).up _) hb; clear zb; have zb := zN; clear zN; have zz := zb; obtain ⟨x0, x1, x2, x3, x4, x5, x6⟩ := zz)); (try (have zN := C3.carry (by first | with_reducible exact zc | with_reducible exact zc.up _ | with_reducible exact (zc.up _).up _ | with_reducible exact C3.drew zc | with_reducible exact (C3.drew zc).up _) hb; clear zc; have zc := zN; clear zN; have zz := zc; obtain ⟨x0, x1, x2, x3, x4, x5, x6⟩ := zz)); (try (have zN := C3.carry (by first | with_reducible exact zd | with_reducible exact zd.up _ | with_reducible exact (zd.up _).up _ | with_reducible exact C3.drew zd | with_reducible exact (C3.drew zd).up _) hb; clear zd; have zd := zN; clear zN; have zz := zd; obtain ⟨x0, x1, x2, x3, x4, x5, x6⟩ := zz)); (try (have zN := C3.carry (by first | with_reducible exact ze | with_reducible exact ze.up _ | with_reducible exact (ze.up _).up _ | with_reducible exact C3.drew ze | with_reducible exact (C3.drew ze).up _) hb; clear ze; have ze := zN; clear zN; have zz := ze; obtain ⟨x0, x1, x2, x3, x4, x5, x6⟩ := zz)); (try (have zN := C3.carry (by first | with_reducible exact zf | with_reducible exact zf.up _ | with_reducible exact (zf.up _).up _ | with_reducible exact C3.drew zf | with_reducible exact (C3.drew zf).up _) hb; clear zf; have zf := zN; clear zN; have zz := zf; obtain ⟨x0, x1, x2, x3, x4, x5, x6⟩ := zz)); (try (first | (have zT := za; clear zT; (first | (have zT := zb; clear zT; (first | (have zT := zc; clear zT; (first | (have zT := zd; clear zT; (first | (have zT := ze; clear zT; (first | (have zT := zf; clear zT; (skip)) | (have zf := C3.carry (C3.new _ _ _ _ _) hb; have zz := zf; obtain ⟨x0, x1, x2, x3, x4, x5, x6⟩ := zz))) | (have ze := C3.carry (C3.new _ _ _ _ _) hb; have zz := ze; obtain ⟨x0, x1, x2, x3, x4, x5, x6⟩ := zz))) | (have zd := C3.carry (C3.new _ _ _ _ _) hb; have zz := zd; obtain ⟨x0, x1, x2, x3, x4, x5, x6⟩ := zz))) | (have zc := C3.carry (C3.new _ _ _ _ _) hb; have zz := zc; obtain ⟨x0, x1, x2, x3, x4, x5, x6⟩ := zz))) | (have zb := C3.carry (C3.new _ _ _ _ _) hb; have zz := zb; obtain ⟨x0, x1, x2, x3, x4, x5, x6⟩ := zz))) | (have za := C3.carry (C3.new _ _ _ _ _) hb; have zz := za; obtain ⟨x0, x1, x2, x3, x4, x5, x6⟩ := zz)))) | (go_at_call 45; (with_reducible refine Calls.mono (K7.out _) ?_); rintro r w1 ⟨rfl, hb⟩; have hB : Below w.heap.size w w1 := (by refine Below.trans ?_ (hb.mono (by first | omega | (simp; done) | (simp <;> omega))); repeat (first | with_reducible exact Below.refl _ _ | with_reducible assumption | with_reducible refine Below.setCell ?_ (by first | omega | (simp; done) | (simp <;> omega)) _ | with_reducible refine below_drewN ?_ _ | with_reducible refine Below.drew ?_ | with_reducible refine Below.alloc ?_ (by first | omega | (simp; done) | (simp <;> omega)) _)); have hz := hb.size; (try simp at hz); (try (have zN := C3.carry (by first | with_reducible exact za | with_reducible exact za.up _ | with_reducible exact (za.up _).up _ | with_reducible exact C3.drew za | with_reducible exact (C3.drew za).up _) hb; clear za; have za := zN; clear zN; have zz := za; obtain ⟨x0, x1, x2, x3, x4, x5, x6⟩ := zz)); (try (have zN := C3.carry (by first | with_reducible exact zb | with_reducible exact zb.up _ | with_reducible exact (zb.up _).up _ | with_reducible exact C3.drew zb | with_reducible exact (C3.drew zb).up _) hb; clear zb; have zb := zN; clear zN; have zz := zb; obtain ⟨x0, x1, x2, x3, x4, x5, x6⟩ := zz)); (try (have zN := C3.carry (by first | with_reducible exact zc | with_reducible exact zc.up _ | with_reducible exact (zc.up _).up _ | with_reducible exact C3.drew zc | with_reducible exact (C3.drew zc).up _) hb; clear zc; have zc := zN; clear zN; have zz := zc; obtain ⟨x0, x1, x2, x3, x4, x5, x6⟩ := zz)); (try (have zN := C3.carry (by first | with_reducible exact zd | with_reducible exact zd.up _ | with_reducible exact (zd.up _).up _ | with_reducible exact C3.drew zd | with_reducible exact (C3.drew zd).up _) hb; clear zd; have zd := zN; clear zN; have zz := zd; obtain ⟨x0, x1, x2, x3, x4, x5, x6⟩ := zz)); (try (have zN := C3.carry (by first | with_reducible exact ze | with_reducible exact ze.up _ | with_reducible exact (ze.up _).up _ | with_reducible exact C3.drew ze | with_reducible exact (C3.drew ze).up _) hb; clear ze; have ze := zN; clear zN; have zz := ze; obtain ⟨x0, x1, x2, x3, x4, x5, x6⟩ := zz)); (try (have zN := C3.carry (by first | with_reducible exact zf | with_reducible exact zf.up _ | with_reducible exact (zf.up _).up _ | with_reducible exact C3.drew zf | with_reducible exact (C3.drew zf).up _) hb; clear zf; have zf := zN; clear zN; have zz := zf; obtain ⟨x0, x1, x2, x3, x4, x5, x6⟩ := zz)); (try (first | (have zT := za; clear zT; (first | (have zT := zb; clear zT; (first | (have zT := zc; clear zT; (first | (have zT := zd; clear zT; (first | (have zT := ze; clear zT; (first | (have zT := zf; clear zT; (skip)) | (have zf := C3.carry (C3.new _ _ _ _ _) hb; have zz := zf; obtain ⟨x0, x1, x2, x3, x4, x5, x6⟩ := zz))) | (have ze := C3.carry (C3.new _ _ _ _ _) hb; have zz := ze; obtain ⟨x0, x1, x2, x3, x4, x5, x6⟩ := zz))) | (have zd := C3.carry (C3.new _ _ _ _ _) hb; have zz := zd; obtain ⟨x0, x1, x2, x3, x4, x5, x6⟩ := zz))) | (have zc := C3.carry (C3.new _ _ _ _ _) hb; have zz := zc; obtain ⟨x0, x1, x2, x3, x4, x5, x6⟩ := zz))) | (have zb := C3.carry (C3.new _ _ _ _ _) hb; have zz := zb; obtain ⟨x0, x1, x2, x3, x4, x5, x6⟩ := zz))) | (have za := C3.carry (C3.new _ _ _ _ _) hb; have zz := za; obtain ⟨x0, x1, x2, x3, x4, x5, x6⟩ := zz)))) | (go_at_call 21; (with_reducible refine Calls.mono (K8.out _) ?_); rintro r w1 ⟨rfl, hb⟩; have hB : Below w.heap.size w w1 := (by refine Below.trans ?_ (hb.mono (by first | omega | (simp; done) | (simp <;> omega))); repeat (first | with_reducible exact Below.refl _ _ | with_reducible assumption | with_reducible refine Below.setCell ?_ (by first | omega | (simp; done) | (simp <;> omega)) _ | with_reducible refine below_drewN ?_ _ | with_reducible refine Below.drew ?_ | with_reducible refine Below.alloc ?_ (by first | omega | (simp; done) | (simp <;> omega)) _)); have hz := hb.size; (try simp at hz); (try (have zN := C3.carry (by first | with_reducible exact za | with_reducible exact za.up _ | with_reducible exact (za.up _).up _ | with_reducible exact C3.drew za | with_reducible exact (C3.drew za).up _) hb; clear za; have za := zN; clear zN; have zz := za; obtain ⟨x0, x1, x2, x3, x4, x5, x6⟩ := zz)); (try (have zN := C3.carry (by first | with_reducible exact zb | with_reducible exact zb.up _ | with_reducible exact (zb.up _).up _ | with_reducible exact C3.drew zb | with_reducible exact (C3.drew zb).up _) hb; clear zb; have zb := zN; clear zN; have zz := zb; obtain ⟨x0, x1, x2, x3, x4, x5, x6⟩ := zz)); (try (have zN := C3.carry (by first | with_reducible exact zc | with_reducible exact zc.up _ | with_reducible exact (zc.up _).up _ | with_reducible exact C3.drew zc | with_reducible exact (C3.drew zc).up _) hb; clear zc; have zc := zN; clear zN; have zz := zc; obtain ⟨x0, x1, x2, x3, x4, x5, x6⟩ := zz)); (try (have zN := C3.carry (by first | with_reducible exact zd | with_reducible exact zd.up _ | with_reducible exact (zd.up _).up _ | with_reducible exact C3.drew zd | with_reducible exact (C3.drew zd).up _) hb; clear zd; have zd := zN; clear zN; have zz := zd; obtain ⟨x0, x1, x2, x3, x4, x5, x6⟩ := zz)); (try (have zN := C3.carry (by first | with_reducible exact ze | with_reducible exact ze.up _ | with_reducible exact (ze.up _).up _ | with_reducible exact C3.drew ze | with_reducible exact (C3.drew ze).up _) hb; clear ze; have ze := zN; clear zN; have zz := ze; obtain ⟨x0, x1, x2, x3, x4, x5, x6⟩ := zz)); (try (have zN := C3.carry (by first | with_reducible exact zf | with_reducible exact zf.up _ | with_reducible exact (zf.up _).up _ | with_reducible exact C3.drew zf | with_reducible exact (C3.drew zf).up _) hb; clear zf; have zf := zN; clear zN; have zz := zf; obtain ⟨x0, x1, x2, x3, x4, x5, x6⟩ := zz)); (try (first | (have zT := za; clear zT; (first | (have zT := zb; clear zT; (first | (have zT := zc; clear zT; (first | (have zT := zd; clear zT; (first | (have zT := ze; clear zT; (first | (have zT := zf; clear zT; (skip)) | (have zf := C3.carry (C3.new _ _ _ _ _) hb; have zz := zf; obtain ⟨x0, x1, x2, x3, x4, x5, x6⟩ := zz))) | (have ze := C3.carry (C3.new _ _ _ _ _) hb; have zz := ze; obtain ⟨x0, x1, x2, x3, x4, x5, x6⟩ := zz))) | (have zd := C3.carry (C3.new _ _ _ _ _) hb; have zz := zd; obtain ⟨x0, x1, x2, x3, x4, x5, x6⟩ := zz))) | (have zc := C3.carry (C3.new _ _ _ _ _) hb; have zz := zc; obtain ⟨x0, x1, x2, x3, x4, x5, x6⟩ := zz))) | (have zb := C3.carry (C3.new _ _ _ _ _) hb; have zz := zb; obtain ⟨x0, x1, x2, x3, x4, x5, x6⟩ := zz))) | (have za := C3.carry (C3.new _ _ _ _ _) hb; have zz := za; obtain ⟨x0, x1, x2, x3, x4, x5, x6⟩ := zz)))))
      all_goals go_ret
      all_goals exact ⟨rfl, (by repeat (first | with_reducible exact Below.refl _ _ | with_reducible assumption | with_reducible refine Below.setCell ?_ (by first | omega | (simp; done) | (simp <;> omega)) _ | with_reducible refine below_drewN ?_ _ | with_reducible refine Below.drew ?_ | with_reducible refine Below.alloc ?_ (by first | omega | (simp; done) | (simp <;> omega)) _))⟩

set_option maxRecDepth 100000 in
theorem FnRoundDecNear_lifted (os : Os) (started : os.Started) (H : Type) (enc : TypeId × Value → H) :
    ReturnsInHanded {} Try.checked os 12 .any (Rows.fnRoundDecNearSpec.pre6 enc Try.prog Try.f12 Rows.fnRoundDecNearRow.domain false) (Rows.fnRoundDecNearSpec.post enc Try.prog Try.f12 false true false false) := by
  refine returnsInHanded_of_change (C := Try.checked) Try.own started (by kernel_rfl) Try.func12
    (ChangeSpec.witness6 (enc := enc) (C := Try.checked) false ⟨#[], #[.slice none 0 0], []⟩ 8 (by kernel_rfl) (by kernel_rfl) (by kernel_rfl) (by kernel_rfl)) ?_
  intro W base args ds gs before hval0 hW hcnd _
  have hval : ∀ (j : Nat) t v, Try.f12.params[j]? = some t → args[j]? = some v → Value.okWide Try.prog W .any base t v := hval0
  have hW' := hW
  obtain ⟨p, q, hA0, hV, rfl, hfz, hnd⟩ := hW
  have hA : DataW.TrodAll enc Try.prog W 0 (fun _ => true) true Try.f12.params.toList args.toList ds p := hA0
  rw [Try.params12] at hA hval
  obtain ⟨v0, d0, rfl, rfl, h0⟩ := trodAll_one hA
  obtain ⟨rfl, rfl⟩ := trodVars_none hV
  obtain ⟨s, len, cap, rfl, hcap, hcode⟩ := open_code (hval 0 22 v0 rfl rfl) h0
  clear hA0 hval0
  have hlt : ∀ x ∈ p ++ [], x.block < W.heap.size := fun x hx => hW'.lt x hx
  refine (FnRoundDecNear_law s len cap W hcode hcap).mono fun e_ W' ⟨he, hb⟩ => ?_
  subst he
  exact ⟨_, rfl, post_of_below (pa := p) (pv := []) hW' (fun _ _ _ => trodAll_mk1 (shut_bool Try.underlying4 true)) (fun sp hsp => trodAll_mk1 (code_back h0 hb (fun x hx => hlt x (by simpa using hx)) (fun x hx => hsp x (by simpa using hx)))) (fun _ _ => rfl) rfl hb (ok_one (by kernel_rfl) rfl (okWide_bool_mk Try.underlying4 true))⟩

theorem FnRoundDecNear_holds : Rows.FnRoundDecNearSaid :=
  OpenClaim.holds_of_wide 12 Try.f12 rfl rfl rfl rfl rfl rfl rfl ⟨rfl, rfl, rfl, rfl, rfl⟩ rfl rfl rfl rfl rfl (by kernel_rfl) Try.func12 (by kernel_rfl)
    (of_decide_eq_true (by kernel_rfl)) (by unfold Func.isWrapper; first | (rw [if_pos (by decide +kernel)]; kernel_rfl) | (rw [if_neg (by decide +kernel)]; exact ⟨rfl, rfl⟩))
    (fun os started H enc _ => FnRoundDecNear_lifted os started H enc)
end Go.Proofs.Ytehocgedlepajaa
