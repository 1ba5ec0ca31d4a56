/- Promise 4: proved for every input. No condition. -/
import Derived.Test.YtehocgedlepajaaQ1
namespace Go.Proofs.Ytehocgedlepajaa
open Go.ChangeShapes Go.WideShapes Go.ChangeAt Go.RowKit Go.Joins

set_option maxHeartbeats 4000000 in
theorem FnNegateDec_law (s : Option Addr) (len cap : Nat) (w : World) (hcode : CodeAt s len w.heap.size w) (hcap : len ≤ cap) :
    Calls Try.prog 6 #[.slice s len cap] w fun r w' => r = .returned (.bool true) ∧ Below w.heap.size w w' := by
  by_cases hl : 1048576 < len
  · go_enter Try.func6, Try.ntmps6
    go_wp2
    go_ret
    exact ⟨rfl, (by repeat (first | with_reducible exact Below.refl _ _ | with_reducible assumption | with_reducible refine Below.setCell ?_ (by first | omega | (simp; done) | (simp <;> omega)) _ | with_reducible refine below_drewN ?_ _ | with_reducible refine Below.drew ?_ | with_reducible refine Below.alloc ?_ (by first | omega | (simp; done) | (simp <;> omega)) _))⟩
  go_enter Try.func6, Try.ntmps6
  go_wp2_with (go_at_call 27; (with_reducible refine Calls.mono (DrawNegateDec_any _ _ _ _ hcode hcap) ?_); rintro r w1 ⟨⟨n, c, e, rfl⟩, hB⟩; have hz := hB.size)
  have k1 := fun W => NegateDec_any n c e W
  have k2 := fun W => NegateDecS_any n c e W
  have k3 := fun W => ValidDec_any n c e W
  cases hv : Fd.vld ⟨n, c, e⟩
  · rw [hv] at k3
    generalize Fd.neg ⟨n, c, e⟩ = N at *
    obtain ⟨n1, c1, e1⟩ := N
    dsimp only at k1 k2
    have K1 := Lib.hid k1; have K2 := Lib.hid k2; have K3 := Lib.hid k3
    clear k1 k2 k3
    have za := C3.new w1 (.bool n) (.int .i64 c) (.int .i64 e) 24
    go_wp2_with (go_at_call 20; (with_reducible refine Calls.mono (K1.out _) ?_); rintro r w1 ⟨rfl, hb⟩; have hB : Below w.heap.size w w1 := (by refine Below.trans ?_ (hb.mono (by first | omega | (simp; done) | (simp <;> omega))); repeat (first | with_reducible exact Below.refl _ _ | with_reducible assumption | with_reducible refine Below.setCell ?_ (by first | omega | (simp; done) | (simp <;> omega)) _ | with_reducible refine below_drewN ?_ _ | with_reducible refine Below.drew ?_ | with_reducible refine Below.alloc ?_ (by first | omega | (simp; done) | (simp <;> omega)) _)); have hz := hb.size; (try simp at hz); (try (have zN := C3.carry (by first | with_reducible exact za | with_reducible exact za.up _ | with_reducible exact (za.up _).up _ | with_reducible exact C3.drew za | with_reducible exact (C3.drew za).up _) hb; clear za; have za := zN; clear zN; have zz := za; obtain ⟨x0, x1, x2, x3, x4, x5, x6⟩ := zz)); (try (have zN := C3.carry (by first | with_reducible exact zb | with_reducible exact zb.up _ | with_reducible exact (zb.up _).up _ | with_reducible exact C3.drew zb | with_reducible exact (C3.drew zb).up _) hb; clear zb; have zb := zN; clear zN; have zz := zb; obtain ⟨x0, x1, x2, x3, x4, x5, x6⟩ := zz)); (try (have zN := C3.carry (by first | with_reducible exact zc | with_reducible exact zc.up _ | with_reducible exact (zc.up _).up _ | with_reducible exact C3.drew zc | with_reducible exact (C3.drew zc).up _) hb; clear zc; have zc := zN; clear zN; have zz := zc; obtain ⟨x0, x1, x2, x3, x4, x5, x6⟩ := zz)); (try (have zN := C3.carry (by first | with_reducible exact zd | with_reducible exact zd.up _ | with_reducible exact (zd.up _).up _ | with_reducible exact C3.drew zd | with_reducible exact (C3.drew zd).up _) hb; clear zd; have zd := zN; clear zN; have zz := zd; obtain ⟨x0, x1, x2, x3, x4, x5, x6⟩ := zz)); (try (have zN := C3.carry (by first | with_reducible exact ze | with_reducible exact ze.up _ | with_reducible exact (ze.up _).up _ | with_reducible exact C3.drew ze | with_reducible exact (C3.drew ze).up _) hb; clear ze; have ze := zN; clear zN; have zz := ze; obtain ⟨x0, x1, x2, x3, x4, x5, x6⟩ := zz)); (try (have zN := C3.carry (by first | with_reducible exact zf | with_reducible exact zf.up _ | with_reducible exact (zf.up _).up _ | with_reducible exact C3.drew zf | with_reducible exact (C3.drew zf).up _) hb; clear zf; have zf := zN; clear zN; have zz := zf; obtain ⟨x0, x1, x2, x3, x4, x5, x6⟩ := zz)); (try (first | (have zT := za; clear zT; (first | (have zT := zb; clear zT; (first | (have zT := zc; clear zT; (first | (have zT := zd; clear zT; (first | (have zT := ze; clear zT; (first | (have zT := zf; clear zT; (skip)) | (have zf := C3.carry (C3.new _ _ _ _ _) hb; have zz := zf; obtain ⟨x0, x1, x2, x3, x4, x5, x6⟩ := zz))) | (have ze := C3.carry (C3.new _ _ _ _ _) hb; have zz := ze; obtain ⟨x0, x1, x2, x3, x4, x5, x6⟩ := zz))) | (have zd := C3.carry (C3.new _ _ _ _ _) hb; have zz := zd; obtain ⟨x0, x1, x2, x3, x4, x5, x6⟩ := zz))) | (have zc := C3.carry (C3.new _ _ _ _ _) hb; have zz := zc; obtain ⟨x0, x1, x2, x3, x4, x5, x6⟩ := zz))) | (have zb := C3.carry (C3.new _ _ _ _ _) hb; have zz := zb; obtain ⟨x0, x1, x2, x3, x4, x5, x6⟩ := zz))) | (have za := C3.carry (C3.new _ _ _ _ _) hb; have zz := za; obtain ⟨x0, x1, x2, x3, x4, x5, x6⟩ := zz))))
    have zb := C3.new w1 (.bool n1) (.int .i64 c1) (.int .i64 e1) 24
    replace za := za.up (.cells #[.bool n1, .int .i64 c1, .int .i64 e1] 24)
    replace hB := hB.alloc hB.size (.cells #[.bool n1, .int .i64 c1, .int .i64 e1] 24)
    obtain ⟨sza0, sza1, sza2⟩ := C3.since za
    obtain ⟨szb0, szb1, szb2⟩ := C3.since zb
    refine wp_region_since (by kernel_rfl) (by kernel_rfl) ?_
    repeat (quiet_step (first | (go_at_call 28; with_reducible exact Calls.since_of (K2.out _)) | (go_at_call 23; with_reducible exact Calls.since_of (equalDec_self _ _ _ _)) | (go_at_call 17; with_reducible exact Calls.since_of (K3.out _))))
    refine wpQuiet_nil ?_
    intro _ hw_
    obtain ⟨⟨w1, hb⟩, rfl⟩ := hw_
    try dsimp only
    clear sza0 sza1 sza2 szb0 szb1 szb2
    replace hB := hB.trans (hb.mono hB.size)
    have hz := hb.size
    replace za := C3.carry za hb
    have zz := za
    obtain ⟨x0, x1, x2, x3, x4, x5, x6⟩ := zz
    replace zb := C3.carry zb hb
    have zz := zb
    obtain ⟨x0, x1, x2, x3, x4, x5, x6⟩ := zz
    go_wp2
    obtain ⟨sza0, sza1, sza2⟩ := C3.since za
    obtain ⟨szb0, szb1, szb2⟩ := C3.since zb
    refine wp_region_since (by kernel_rfl) (by kernel_rfl) ?_
    repeat (quiet_step (first | (go_at_call 28; with_reducible exact Calls.since_of (K2.out _)) | (go_at_call 23; with_reducible exact Calls.since_of (equalDec_self _ _ _ _)) | (go_at_call 17; with_reducible exact Calls.since_of (K3.out _))))
    refine wpQuiet_nil ?_
    intro _ hw_
    obtain ⟨⟨w1, hb⟩, rfl⟩ := hw_
    try dsimp only
    clear sza0 sza1 sza2 szb0 szb1 szb2
    replace hB := hB.trans (hb.mono hB.size)
    have hz := hb.size
    replace za := C3.carry za hb
    have zz := za
    obtain ⟨x0, x1, x2, x3, x4, x5, x6⟩ := zz
    replace zb := C3.carry zb hb
    have zz := zb
    obtain ⟨x0, x1, x2, x3, x4, x5, x6⟩ := zz
    go_wp2
    go_ret
    exact ⟨rfl, by assumption⟩
  · rw [hv] at k3
    obtain ⟨f1, f2⟩ := Fd.P4_ok (Fd.vld_iff.1 hv)
    have k4 := fun W => NegateDec_any (Fd.neg ⟨n, c, e⟩).n (Fd.neg ⟨n, c, e⟩).c (Fd.neg ⟨n, c, e⟩).e W
    rw [show Fd.neg ⟨(Fd.neg ⟨n, c, e⟩).n, (Fd.neg ⟨n, c, e⟩).c, (Fd.neg ⟨n, c, e⟩).e⟩ = ⟨n, c, e⟩ from f1] at k4
    have k5 := fun W => AddDec_any n c e (Fd.neg ⟨n, c, e⟩).n (Fd.neg ⟨n, c, e⟩).c (Fd.neg ⟨n, c, e⟩).e W
    rw [show Fd.addI ⟨n, c, e⟩ ⟨(Fd.neg ⟨n, c, e⟩).n, (Fd.neg ⟨n, c, e⟩).c, (Fd.neg ⟨n, c, e⟩).e⟩ = (Fd.D.z, true) from f2] at k5
    clear f1 f2 hv
    generalize Fd.neg ⟨n, c, e⟩ = N at *
    obtain ⟨n1, c1, e1⟩ := N
    dsimp only [Fd.D.z] at k1 k2 k4 k5
    have K1 := Lib.hid k1; have K2 := Lib.hid k2; have K3 := Lib.hid k3; have K4 := Lib.hid k4; have K5 := Lib.hid k5
    clear k1 k2 k3 k4 k5
    have za := C3.new w1 (.bool n) (.int .i64 c) (.int .i64 e) 24
    go_wp2_with (go_at_call 20; (with_reducible refine Calls.mono (K1.out _) ?_); rintro r w1 ⟨rfl, hb⟩; have hB : Below w.heap.size w w1 := (by refine Below.trans ?_ (hb.mono (by first | omega | (simp; done) | (simp <;> omega))); repeat (first | with_reducible exact Below.refl _ _ | with_reducible assumption | with_reducible refine Below.setCell ?_ (by first | omega | (simp; done) | (simp <;> omega)) _ | with_reducible refine below_drewN ?_ _ | with_reducible refine Below.drew ?_ | with_reducible refine Below.alloc ?_ (by first | omega | (simp; done) | (simp <;> omega)) _)); have hz := hb.size; (try simp at hz); (try (have zN := C3.carry (by first | with_reducible exact za | with_reducible exact za.up _ | with_reducible exact (za.up _).up _ | with_reducible exact C3.drew za | with_reducible exact (C3.drew za).up _) hb; clear za; have za := zN; clear zN; have zz := za; obtain ⟨x0, x1, x2, x3, x4, x5, x6⟩ := zz)); (try (have zN := C3.carry (by first | with_reducible exact zb | with_reducible exact zb.up _ | with_reducible exact (zb.up _).up _ | with_reducible exact C3.drew zb | with_reducible exact (C3.drew zb).up _) hb; clear zb; have zb := zN; clear zN; have zz := zb; obtain ⟨x0, x1, x2, x3, x4, x5, x6⟩ := zz)); (try (have zN := C3.carry (by first | with_reducible exact zc | with_reducible exact zc.up _ | with_reducible exact (zc.up _).up _ | with_reducible exact C3.drew zc | with_reducible exact (C3.drew zc).up _) hb; clear zc; have zc := zN; clear zN; have zz := zc; obtain ⟨x0, x1, x2, x3, x4, x5, x6⟩ := zz)); (try (have zN := C3.carry (by first | with_reducible exact zd | with_reducible exact zd.up _ | with_reducible exact (zd.up _).up _ | with_reducible exact C3.drew zd | with_reducible exact (C3.drew zd).up _) hb; clear zd; have zd := zN; clear zN; have zz := zd; obtain ⟨x0, x1, x2, x3, x4, x5, x6⟩ := zz)); (try (have zN := C3.carry (by first | with_reducible exact ze | with_reducible exact ze.up _ | with_reducible exact (ze.up _).up _ | with_reducible exact C3.drew ze | with_reducible exact (C3.drew ze).up _) hb; clear ze; have ze := zN; clear zN; have zz := ze; obtain ⟨x0, x1, x2, x3, x4, x5, x6⟩ := zz)); (try (have zN := C3.carry (by first | with_reducible exact zf | with_reducible exact zf.up _ | with_reducible exact (zf.up _).up _ | with_reducible exact C3.drew zf | with_reducible exact (C3.drew zf).up _) hb; clear zf; have zf := zN; clear zN; have zz := zf; obtain ⟨x0, x1, x2, x3, x4, x5, x6⟩ := zz)); (try (first | (have zT := za; clear zT; (first | (have zT := zb; clear zT; (first | (have zT := zc; clear zT; (first | (have zT := zd; clear zT; (first | (have zT := ze; clear zT; (first | (have zT := zf; clear zT; (skip)) | (have zf := C3.carry (C3.new _ _ _ _ _) hb; have zz := zf; obtain ⟨x0, x1, x2, x3, x4, x5, x6⟩ := zz))) | (have ze := C3.carry (C3.new _ _ _ _ _) hb; have zz := ze; obtain ⟨x0, x1, x2, x3, x4, x5, x6⟩ := zz))) | (have zd := C3.carry (C3.new _ _ _ _ _) hb; have zz := zd; obtain ⟨x0, x1, x2, x3, x4, x5, x6⟩ := zz))) | (have zc := C3.carry (C3.new _ _ _ _ _) hb; have zz := zc; obtain ⟨x0, x1, x2, x3, x4, x5, x6⟩ := zz))) | (have zb := C3.carry (C3.new _ _ _ _ _) hb; have zz := zb; obtain ⟨x0, x1, x2, x3, x4, x5, x6⟩ := zz))) | (have za := C3.carry (C3.new _ _ _ _ _) hb; have zz := za; obtain ⟨x0, x1, x2, x3, x4, x5, x6⟩ := zz))))
    have zb := C3.new w1 (.bool n1) (.int .i64 c1) (.int .i64 e1) 24
    replace za := za.up (.cells #[.bool n1, .int .i64 c1, .int .i64 e1] 24)
    replace hB := hB.alloc hB.size (.cells #[.bool n1, .int .i64 c1, .int .i64 e1] 24)
    obtain ⟨sza0, sza1, sza2⟩ := C3.since za
    obtain ⟨szb0, szb1, szb2⟩ := C3.since zb
    refine wp_region_since (by kernel_rfl) (by kernel_rfl) ?_
    repeat (quiet_step (first | (go_at_call 28; with_reducible exact Calls.since_of (K2.out _)) | (go_at_call 23; with_reducible exact Calls.since_of (equalDec_self _ _ _ _)) | (go_at_call 17; with_reducible exact Calls.since_of (K3.out _))))
    refine wpQuiet_nil ?_
    intro _ hw_
    obtain ⟨⟨w1, hb⟩, rfl⟩ := hw_
    try dsimp only
    clear sza0 sza1 sza2 szb0 szb1 szb2
    replace hB := hB.trans (hb.mono hB.size)
    have hz := hb.size
    replace za := C3.carry za hb
    have zz := za
    obtain ⟨x0, x1, x2, x3, x4, x5, x6⟩ := zz
    replace zb := C3.carry zb hb
    have zz := zb
    obtain ⟨x0, x1, x2, x3, x4, x5, x6⟩ := zz
    go_wp2_with (go_at_call 29; (with_reducible refine Calls.mono (K5.out _) ?_); rintro r w1 ⟨rfl, hb⟩; have hB : Below w.heap.size w w1 := (by refine Below.trans ?_ (hb.mono (by first | omega | (simp; done) | (simp <;> omega))); repeat (first | with_reducible exact Below.refl _ _ | with_reducible assumption | with_reducible refine Below.setCell ?_ (by first | omega | (simp; done) | (simp <;> omega)) _ | with_reducible refine below_drewN ?_ _ | with_reducible refine Below.drew ?_ | with_reducible refine Below.alloc ?_ (by first | omega | (simp; done) | (simp <;> omega)) _)); have hz := hb.size; (try simp at hz); (try (have zN := C3.carry (by first | with_reducible exact za | with_reducible exact za.up _ | with_reducible exact (za.up _).up _ | with_reducible exact C3.drew za | with_reducible exact (C3.drew za).up _) hb; clear za; have za := zN; clear zN; have zz := za; obtain ⟨x0, x1, x2, x3, x4, x5, x6⟩ := zz)); (try (have zN := C3.carry (by first | with_reducible exact zb | with_reducible exact zb.up _ | with_reducible exact (zb.up _).up _ | with_reducible exact C3.drew zb | with_reducible exact (C3.drew zb).up _) hb; clear zb; have zb := zN; clear zN; have zz := zb; obtain ⟨x0, x1, x2, x3, x4, x5, x6⟩ := zz)); (try (have zN := C3.carry (by first | with_reducible exact zc | with_reducible exact zc.up _ | with_reducible exact (zc.up _).up _ | with_reducible exact C3.drew zc | with_reducible exact (C3.drew zc).up _) hb; clear zc; have zc := zN; clear zN; have zz := zc; obtain ⟨x0, x1, x2, x3, x4, x5, x6⟩ := zz)); (try (have zN := C3.carry (by first | with_reducible exact zd | with_reducible exact zd.up _ | with_reducible exact (zd.up _).up _ | with_reducible exact C3.drew zd | with_reducible exact (C3.drew zd).up _) hb; clear zd; have zd := zN; clear zN; have zz := zd; obtain ⟨x0, x1, x2, x3, x4, x5, x6⟩ := zz)); (try (have zN := C3.carry (by first | with_reducible exact ze | with_reducible exact ze.up _ | with_reducible exact (ze.up _).up _ | with_reducible exact C3.drew ze | with_reducible exact (C3.drew ze).up _) hb; clear ze; have ze := zN; clear zN; have zz := ze; obtain ⟨x0, x1, x2, x3, x4, x5, x6⟩ := zz)); (try (have zN := C3.carry (by first | with_reducible exact zf | with_reducible exact zf.up _ | with_reducible exact (zf.up _).up _ | with_reducible exact C3.drew zf | with_reducible exact (C3.drew zf).up _) hb; clear zf; have zf := zN; clear zN; have zz := zf; obtain ⟨x0, x1, x2, x3, x4, x5, x6⟩ := zz)); (try (first | (have zT := za; clear zT; (first | (have zT := zb; clear zT; (first | (have zT := zc; clear zT; (first | (have zT := zd; clear zT; (first | (have zT := ze; clear zT; (first | (have zT := zf; clear zT; (skip)) | (have zf := C3.carry (C3.new _ _ _ _ _) hb; have zz := zf; obtain ⟨x0, x1, x2, x3, x4, x5, x6⟩ := zz))) | (have ze := C3.carry (C3.new _ _ _ _ _) hb; have zz := ze; obtain ⟨x0, x1, x2, x3, x4, x5, x6⟩ := zz))) | (have zd := C3.carry (C3.new _ _ _ _ _) hb; have zz := zd; obtain ⟨x0, x1, x2, x3, x4, x5, x6⟩ := zz))) | (have zc := C3.carry (C3.new _ _ _ _ _) hb; have zz := zc; obtain ⟨x0, x1, x2, x3, x4, x5, x6⟩ := zz))) | (have zb := C3.carry (C3.new _ _ _ _ _) hb; have zz := zb; obtain ⟨x0, x1, x2, x3, x4, x5, x6⟩ := zz))) | (have za := C3.carry (C3.new _ _ _ _ _) hb; have zz := za; obtain ⟨x0, x1, x2, x3, x4, x5, x6⟩ := zz))))
    have zc := C3.new w1 (.bool false) (.int .i64 0) (.int .i64 0) 24
    replace za := za.up (.cells #[.bool false, .int .i64 0, .int .i64 0] 24)
    replace zb := zb.up (.cells #[.bool false, .int .i64 0, .int .i64 0] 24)
    replace hB := hB.alloc hB.size (.cells #[.bool false, .int .i64 0, .int .i64 0] 24)
    obtain ⟨sza0, sza1, sza2⟩ := C3.since za
    obtain ⟨szb0, szb1, szb2⟩ := C3.since zb
    obtain ⟨szc0, szc1, szc2⟩ := C3.since zc
    refine wp_region_since (by kernel_rfl) (by kernel_rfl) ?_
    repeat (quiet_step (first | (go_at_call 20; with_reducible exact Calls.since_of (K4.out _))))
    refine wpQuiet_nil ?_
    intro _ hw_
    obtain ⟨⟨w1, hb⟩, rfl⟩ := hw_
    try dsimp only
    clear sza0 sza1 sza2 szb0 szb1 szb2 szc0 szc1 szc2
    replace hB := hB.trans (hb.mono hB.size)
    have hz := hb.size
    replace za := C3.carry za hb
    have zz := za
    obtain ⟨x0, x1, x2, x3, x4, x5, x6⟩ := zz
    replace zb := C3.carry zb hb
    have zz := zb
    obtain ⟨x0, x1, x2, x3, x4, x5, x6⟩ := zz
    replace zc := C3.carry zc hb
    have zz := zc
    obtain ⟨x0, x1, x2, x3, x4, x5, x6⟩ := zz
    go_wp2
    go_ret
    exact ⟨rfl, (by repeat (first | with_reducible exact Below.refl _ _ | with_reducible assumption | with_reducible refine Below.setCell ?_ (by first | omega | (simp; done) | (simp <;> omega)) _ | with_reducible refine below_drewN ?_ _ | with_reducible refine Below.drew ?_ | with_reducible refine Below.alloc ?_ (by first | omega | (simp; done) | (simp <;> omega)) _))⟩

set_option maxRecDepth 100000 in
theorem FnNegateDec_lifted (os : Os) (started : os.Started) (H : Type) (enc : TypeId × Value → H) :
    ReturnsInHanded {} Try.checked os 6 .any (Rows.fnNegateDecSpec.pre6 enc Try.prog Try.f6 Rows.fnNegateDecRow.domain false) (Rows.fnNegateDecSpec.post enc Try.prog Try.f6 false true false false) := by
  refine returnsInHanded_of_change (C := Try.checked) Try.own started (by kernel_rfl) Try.func6
    (ChangeSpec.witness6 (enc := enc) (C := Try.checked) false ⟨#[], #[.slice none 0 0], []⟩ 8 (by kernel_rfl) (by kernel_rfl) (by kernel_rfl) (by kernel_rfl)) ?_
  intro W base args ds gs before hval0 hW hcnd _
  have hval : ∀ (j : Nat) t v, Try.f6.params[j]? = some t → args[j]? = some v → Value.okWide Try.prog W .any base t v := hval0
  have hW' := hW
  obtain ⟨p, q, hA0, hV, rfl, hfz, hnd⟩ := hW
  have hA : DataW.TrodAll enc Try.prog W 0 (fun _ => true) true Try.f6.params.toList args.toList ds p := hA0
  rw [Try.params6] at hA hval
  obtain ⟨v0, d0, rfl, rfl, h0⟩ := trodAll_one hA
  obtain ⟨rfl, rfl⟩ := trodVars_none hV
  obtain ⟨s, len, cap, rfl, hcap, hcode⟩ := open_code (hval 0 22 v0 rfl rfl) h0
  clear hA0 hval0
  have hlt : ∀ x ∈ p ++ [], x.block < W.heap.size := fun x hx => hW'.lt x hx
  refine (FnNegateDec_law s len cap W hcode hcap).mono fun e_ W' ⟨he, hb⟩ => ?_
  subst he
  exact ⟨_, rfl, post_of_below (pa := p) (pv := []) hW' (fun _ _ _ => trodAll_mk1 (shut_bool Try.underlying4 true)) (fun sp hsp => trodAll_mk1 (code_back h0 hb (fun x hx => hlt x (by simpa using hx)) (fun x hx => hsp x (by simpa using hx)))) (fun _ _ => rfl) rfl hb (ok_one (by kernel_rfl) rfl (okWide_bool_mk Try.underlying4 true))⟩

theorem FnNegateDec_holds : Rows.FnNegateDecSaid :=
  OpenClaim.holds_of_wide 6 Try.f6 rfl rfl rfl rfl rfl rfl rfl ⟨rfl, rfl, rfl, rfl, rfl⟩ rfl rfl rfl rfl rfl (by kernel_rfl) Try.func6 (by kernel_rfl)
    (of_decide_eq_true (by kernel_rfl)) (by unfold Func.isWrapper; first | (rw [if_pos (by decide +kernel)]; kernel_rfl) | (rw [if_neg (by decide +kernel)]; exact ⟨rfl, rfl⟩))
    (fun os started H enc _ => FnNegateDec_lifted os started H enc)
end Go.Proofs.Ytehocgedlepajaa
