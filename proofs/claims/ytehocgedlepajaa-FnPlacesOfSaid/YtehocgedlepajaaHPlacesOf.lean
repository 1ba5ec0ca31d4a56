/- Promise 13: proved for every input. No condition. -/
import Derived.Test.YtehocgedlepajaaQ1
namespace Go.Proofs.Ytehocgedlepajaa
open Go.ChangeShapes Go.WideShapes Go.ChangeAt Go.RowKit Go.Joins

set_option maxHeartbeats 4000000 in
theorem FnPlacesOf_law (s : Option Addr) (len cap : Nat) (w : World) (hcode : CodeAt s len w.heap.size w) (hcap : len ≤ cap) :
    Calls Try.prog 15 #[.slice s len cap] w fun r w' => r = .returned (.bool true) ∧ Below w.heap.size w w' := by
  by_cases hl : 1048576 < len
  · go_enter Try.func15, Try.ntmps15
    go_wp2
    go_ret
    exact ⟨rfl, (by repeat (first | with_reducible exact Below.refl _ _ | with_reducible assumption | with_reducible refine Below.setCell ?_ (by first | omega | (simp; done) | (simp <;> omega)) _ | with_reducible refine below_drewN ?_ _ | with_reducible refine Below.drew ?_ | with_reducible refine Below.alloc ?_ (by first | omega | (simp; done) | (simp <;> omega)) _))⟩
  go_enter Try.func15, Try.ntmps15
  go_wp2_with (go_at_call 52; (with_reducible refine Calls.mono (DrawPlacesOf_any _ _ _ _ hcode hcap) ?_); rintro r w1 ⟨⟨n, c, e, rfl⟩, hB⟩; have hz := hB.size)
  have k1 := fun W => PlacesOf_any n c e W
  have k2 := fun W => PlacesOfS_any n c e W
  rw [Fd.places_eq] at k2
  have za := C3.new w1 (.bool n) (.int .i64 c) (.int .i64 e) 24
  by_cases hp : Fd.placesI ⟨n, c, e⟩ < 0
  · generalize Fd.placesI ⟨n, c, e⟩ = L at *
    have K1 := Lib.hid k1; have K2 := Lib.hid k2
    clear k1 k2
    go_wp2_with (first | (go_at_call 44; (with_reducible refine Calls.mono (K1.out _) ?_); rintro r w1 ⟨rfl, hb⟩; have hB : Below w.heap.size w w1 := (by refine Below.trans ?_ (hb.mono (by first | omega | (simp; done) | (simp <;> omega))); repeat (first | with_reducible exact Below.refl _ _ | with_reducible assumption | with_reducible refine Below.setCell ?_ (by first | omega | (simp; done) | (simp <;> omega)) _ | with_reducible refine below_drewN ?_ _ | with_reducible refine Below.drew ?_ | with_reducible refine Below.alloc ?_ (by first | omega | (simp; done) | (simp <;> omega)) _)); have hz := hb.size; (try simp at hz); (try (have zN := C3.carry (by first | with_reducible exact za | with_reducible exact za.up _ | with_reducible exact (za.up _).up _ | with_reducible exact C3.drew za | with_reducible exact (C3.drew za).up _) hb; clear za; have za := zN; clear zN; have zz := za; obtain ⟨x0, x1, x2, x3, x4, x5, x6⟩ := zz)); (try (have zN := C3.carry (by first | with_reducible exact zb | with_reducible exact zb.up _ | with_reducible exact (zb.up _).up _ | with_reducible exact C3.drew zb | with_reducible exact (C3.drew zb).up _) hb; clear zb; have zb := zN; clear zN; have zz := zb; obtain ⟨x0, x1, x2, x3, x4, x5, x6⟩ := zz)); (try (have zN := C3.carry (by first | with_reducible exact zc | with_reducible exact zc.up _ | with_reducible exact (zc.up _).up _ | with_reducible exact C3.drew zc | with_reducible exact (C3.drew zc).up _) hb; clear zc; have zc := zN; clear zN; have zz := zc; obtain ⟨x0, x1, x2, x3, x4, x5, x6⟩ := zz)); (try (have zN := C3.carry (by first | with_reducible exact zd | with_reducible exact zd.up _ | with_reducible exact (zd.up _).up _ | with_reducible exact C3.drew zd | with_reducible exact (C3.drew zd).up _) hb; clear zd; have zd := zN; clear zN; have zz := zd; obtain ⟨x0, x1, x2, x3, x4, x5, x6⟩ := zz)); (try (have zN := C3.carry (by first | with_reducible exact ze | with_reducible exact ze.up _ | with_reducible exact (ze.up _).up _ | with_reducible exact C3.drew ze | with_reducible exact (C3.drew ze).up _) hb; clear ze; have ze := zN; clear zN; have zz := ze; obtain ⟨x0, x1, x2, x3, x4, x5, x6⟩ := zz)); (try (have zN := C3.carry (by first | with_reducible exact zf | with_reducible exact zf.up _ | with_reducible exact (zf.up _).up _ | with_reducible exact C3.drew zf | with_reducible exact (C3.drew zf).up _) hb; clear zf; have zf := zN; clear zN; have zz := zf; obtain ⟨x0, x1, x2, x3, x4, x5, x6⟩ := zz)); (try (first | (have zT := za; clear zT; (first | (have zT := zb; clear zT; (first | (have zT := zc; clear zT; (first | (have zT := zd; clear zT; (first | (have zT := ze; clear zT; (first | (have zT := zf; clear zT; (skip)) | (have zf := C3.carry (C3.new _ _ _ _ _) hb; have zz := zf; obtain ⟨x0, x1, x2, x3, x4, x5, x6⟩ := zz))) | (have ze := C3.carry (C3.new _ _ _ _ _) hb; have zz := ze; obtain ⟨x0, x1, x2, x3, x4, x5, x6⟩ := zz))) | (have zd := C3.carry (C3.new _ _ _ _ _) hb; have zz := zd; obtain ⟨x0, x1, x2, x3, x4, x5, x6⟩ := zz))) | (have zc := C3.carry (C3.new _ _ _ _ _) hb; have zz := zc; obtain ⟨x0, x1, x2, x3, x4, x5, x6⟩ := zz))) | (have zb := C3.carry (C3.new _ _ _ _ _) hb; have zz := zb; obtain ⟨x0, x1, x2, x3, x4, x5, x6⟩ := zz))) | (have za := C3.carry (C3.new _ _ _ _ _) hb; have zz := za; obtain ⟨x0, x1, x2, x3, x4, x5, x6⟩ := zz)))) | (go_at_call 53; (with_reducible refine Calls.mono (K2.out _) ?_); rintro r w1 ⟨rfl, hb⟩; have hB : Below w.heap.size w w1 := (by refine Below.trans ?_ (hb.mono (by first | omega | (simp; done) | (simp <;> omega))); repeat (first | with_reducible exact Below.refl _ _ | with_reducible assumption | with_reducible refine Below.setCell ?_ (by first | omega | (simp; done) | (simp <;> omega)) _ | with_reducible refine below_drewN ?_ _ | with_reducible refine Below.drew ?_ | with_reducible refine Below.alloc ?_ (by first | omega | (simp; done) | (simp <;> omega)) _)); have hz := hb.size; (try simp at hz); (try (have zN := C3.carry (by first | with_reducible exact za | with_reducible exact za.up _ | with_reducible exact (za.up _).up _ | with_reducible exact C3.drew za | with_reducible exact (C3.drew za).up _) hb; clear za; have za := zN; clear zN; have zz := za; obtain ⟨x0, x1, x2, x3, x4, x5, x6⟩ := zz)); (try (have zN := C3.carry (by first | with_reducible exact zb | with_reducible exact zb.up _ | with_reducible exact (zb.up _).up _ | with_reducible exact C3.drew zb | with_reducible exact (C3.drew zb).up _) hb; clear zb; have zb := zN; clear zN; have zz := zb; obtain ⟨x0, x1, x2, x3, x4, x5, x6⟩ := zz)); (try (have zN := C3.carry (by first | with_reducible exact zc | with_reducible exact zc.up _ | with_reducible exact (zc.up _).up _ | with_reducible exact C3.drew zc | with_reducible exact (C3.drew zc).up _) hb; clear zc; have zc := zN; clear zN; have zz := zc; obtain ⟨x0, x1, x2, x3, x4, x5, x6⟩ := zz)); (try (have zN := C3.carry (by first | with_reducible exact zd | with_reducible exact zd.up _ | with_reducible exact (zd.up _).up _ | with_reducible exact C3.drew zd | with_reducible exact (C3.drew zd).up _) hb; clear zd; have zd := zN; clear zN; have zz := zd; obtain ⟨x0, x1, x2, x3, x4, x5, x6⟩ := zz)); (try (have zN := C3.carry (by first | with_reducible exact ze | with_reducible exact ze.up _ | with_reducible exact (ze.up _).up _ | with_reducible exact C3.drew ze | with_reducible exact (C3.drew ze).up _) hb; clear ze; have ze := zN; clear zN; have zz := ze; obtain ⟨x0, x1, x2, x3, x4, x5, x6⟩ := zz)); (try (have zN := C3.carry (by first | with_reducible exact zf | with_reducible exact zf.up _ | with_reducible exact (zf.up _).up _ | with_reducible exact C3.drew zf | with_reducible exact (C3.drew zf).up _) hb; clear zf; have zf := zN; clear zN; have zz := zf; obtain ⟨x0, x1, x2, x3, x4, x5, x6⟩ := zz)); (try (first | (have zT := za; clear zT; (first | (have zT := zb; clear zT; (first | (have zT := zc; clear zT; (first | (have zT := zd; clear zT; (first | (have zT := ze; clear zT; (first | (have zT := zf; clear zT; (skip)) | (have zf := C3.carry (C3.new _ _ _ _ _) hb; have zz := zf; obtain ⟨x0, x1, x2, x3, x4, x5, x6⟩ := zz))) | (have ze := C3.carry (C3.new _ _ _ _ _) hb; have zz := ze; obtain ⟨x0, x1, x2, x3, x4, x5, x6⟩ := zz))) | (have zd := C3.carry (C3.new _ _ _ _ _) hb; have zz := zd; obtain ⟨x0, x1, x2, x3, x4, x5, x6⟩ := zz))) | (have zc := C3.carry (C3.new _ _ _ _ _) hb; have zz := zc; obtain ⟨x0, x1, x2, x3, x4, x5, x6⟩ := zz))) | (have zb := C3.carry (C3.new _ _ _ _ _) hb; have zz := zb; obtain ⟨x0, x1, x2, x3, x4, x5, x6⟩ := zz))) | (have za := C3.carry (C3.new _ _ _ _ _) hb; have zz := za; obtain ⟨x0, x1, x2, x3, x4, x5, x6⟩ := zz)))))
    go_ret
    exact ⟨rfl, (by repeat (first | with_reducible exact Below.refl _ _ | with_reducible assumption | with_reducible refine Below.setCell ?_ (by first | omega | (simp; done) | (simp <;> omega)) _ | with_reducible refine below_drewN ?_ _ | with_reducible refine Below.drew ?_ | with_reducible refine Below.alloc ?_ (by first | omega | (simp; done) | (simp <;> omega)) _))⟩
  · obtain ⟨f0, f1, f2⟩ := Fd.P13_ok (Int.not_lt.1 hp)
    have hp0 := Int.not_lt.1 hp
    clear hp
    have k3 := fun W => NormalDec_any n c e W
    have k4 := fun W => RoundDec_any n c e (Fd.placesI ⟨n, c, e⟩) W
    have k5 := fun W => RoundDec_any n c e (Fd.placesI ⟨n, c, e⟩ - 1) W
    rw [f1] at k4
    generalize Fd.roundI ⟨n, c, e⟩ (Fd.placesI ⟨n, c, e⟩ - 1) = M at *
    clear f1
    generalize Fd.placesI ⟨n, c, e⟩ = L at *
    generalize Fd.nd ⟨n, c, e⟩ = N at *
    obtain ⟨n1, c1, e1⟩ := N
    obtain ⟨n2, c2, e2⟩ := M
    dsimp only at k3 k4 k5
    have K1 := Lib.hid k1; have K2 := Lib.hid k2; have K3 := Lib.hid k3; have K4 := Lib.hid k4; have K5 := Lib.hid k5
    clear k1 k2 k3 k4 k5
    go_wp2_with (first | (go_at_call 44; (with_reducible refine Calls.mono (K1.out _) ?_); rintro r w1 ⟨rfl, hb⟩; have hB : Below w.heap.size w w1 := (by refine Below.trans ?_ (hb.mono (by first | omega | (simp; done) | (simp <;> omega))); repeat (first | with_reducible exact Below.refl _ _ | with_reducible assumption | with_reducible refine Below.setCell ?_ (by first | omega | (simp; done) | (simp <;> omega)) _ | with_reducible refine below_drewN ?_ _ | with_reducible refine Below.drew ?_ | with_reducible refine Below.alloc ?_ (by first | omega | (simp; done) | (simp <;> omega)) _)); have hz := hb.size; (try simp at hz); (try (have zN := C3.carry (by first | with_reducible exact za | with_reducible exact za.up _ | with_reducible exact (za.up _).up _ | with_reducible exact C3.drew za | with_reducible exact (C3.drew za).up _) hb; clear za; have za := zN; clear zN; have zz := za; obtain ⟨x0, x1, x2, x3, x4, x5, x6⟩ := zz)); (try (have zN := C3.carry (by first | with_reducible exact zb | with_reducible exact zb.up _ | with_reducible exact (zb.up _).up _ | with_reducible exact C3.drew zb | with_reducible exact (C3.drew zb).up _) hb; clear zb; have zb := zN; clear zN; have zz := zb; obtain ⟨x0, x1, x2, x3, x4, x5, x6⟩ := zz)); (try (have zN := C3.carry (by first | with_reducible exact zc | with_reducible exact zc.up _ | with_reducible exact (zc.up _).up _ | with_reducible exact C3.drew zc | with_reducible exact (C3.drew zc).up _) hb; clear zc; have zc := zN; clear zN; have zz := zc; obtain ⟨x0, x1, x2, x3, x4, x5, x6⟩ := zz)); (try (have zN := C3.carry (by first | with_reducible exact zd | with_reducible exact zd.up _ | with_reducible exact (zd.up _).up _ | with_reducible exact C3.drew zd | with_reducible exact (C3.drew zd).up _) hb; clear zd; have zd := zN; clear zN; have zz := zd; obtain ⟨x0, x1, x2, x3, x4, x5, x6⟩ := zz)); (try (have zN := C3.carry (by first | with_reducible exact ze | with_reducible exact ze.up _ | with_reducible exact (ze.up _).up _ | with_reducible exact C3.drew ze | with_reducible exact (C3.drew ze).up _) hb; clear ze; have ze := zN; clear zN; have zz := ze; obtain ⟨x0, x1, x2, x3, x4, x5, x6⟩ := zz)); (try (have zN := C3.carry (by first | with_reducible exact zf | with_reducible exact zf.up _ | with_reducible exact (zf.up _).up _ | with_reducible exact C3.drew zf | with_reducible exact (C3.drew zf).up _) hb; clear zf; have zf := zN; clear zN; have zz := zf; obtain ⟨x0, x1, x2, x3, x4, x5, x6⟩ := zz)); (try (first | (have zT := za; clear zT; (first | (have zT := zb; clear zT; (first | (have zT := zc; clear zT; (first | (have zT := zd; clear zT; (first | (have zT := ze; clear zT; (first | (have zT := zf; clear zT; (skip)) | (have zf := C3.carry (C3.new _ _ _ _ _) hb; have zz := zf; obtain ⟨x0, x1, x2, x3, x4, x5, x6⟩ := zz))) | (have ze := C3.carry (C3.new _ _ _ _ _) hb; have zz := ze; obtain ⟨x0, x1, x2, x3, x4, x5, x6⟩ := zz))) | (have zd := C3.carry (C3.new _ _ _ _ _) hb; have zz := zd; obtain ⟨x0, x1, x2, x3, x4, x5, x6⟩ := zz))) | (have zc := C3.carry (C3.new _ _ _ _ _) hb; have zz := zc; obtain ⟨x0, x1, x2, x3, x4, x5, x6⟩ := zz))) | (have zb := C3.carry (C3.new _ _ _ _ _) hb; have zz := zb; obtain ⟨x0, x1, x2, x3, x4, x5, x6⟩ := zz))) | (have za := C3.carry (C3.new _ _ _ _ _) hb; have zz := za; obtain ⟨x0, x1, x2, x3, x4, x5, x6⟩ := zz)))) | (go_at_call 53; (with_reducible refine Calls.mono (K2.out _) ?_); rintro r w1 ⟨rfl, hb⟩; have hB : Below w.heap.size w w1 := (by refine Below.trans ?_ (hb.mono (by first | omega | (simp; done) | (simp <;> omega))); repeat (first | with_reducible exact Below.refl _ _ | with_reducible assumption | with_reducible refine Below.setCell ?_ (by first | omega | (simp; done) | (simp <;> omega)) _ | with_reducible refine below_drewN ?_ _ | with_reducible refine Below.drew ?_ | with_reducible refine Below.alloc ?_ (by first | omega | (simp; done) | (simp <;> omega)) _)); have hz := hb.size; (try simp at hz); (try (have zN := C3.carry (by first | with_reducible exact za | with_reducible exact za.up _ | with_reducible exact (za.up _).up _ | with_reducible exact C3.drew za | with_reducible exact (C3.drew za).up _) hb; clear za; have za := zN; clear zN; have zz := za; obtain ⟨x0, x1, x2, x3, x4, x5, x6⟩ := zz)); (try (have zN := C3.carry (by first | with_reducible exact zb | with_reducible exact zb.up _ | with_reducible exact (zb.up _).up _ | with_reducible exact C3.drew zb | with_reducible exact (C3.drew zb).up _) hb; clear zb; have zb := zN; clear zN; have zz := zb; obtain ⟨x0, x1, x2, x3, x4, x5, x6⟩ := zz)); (try (have zN := C3.carry (by first | with_reducible exact zc | with_reducible exact zc.up _ | with_reducible exact (zc.up _).up _ | with_reducible exact C3.drew zc | with_reducible exact (C3.drew zc).up _) hb; clear zc; have zc := zN; clear zN; have zz := zc; obtain ⟨x0, x1, x2, x3, x4, x5, x6⟩ := zz)); (try (have zN := C3.carry (by first | with_reducible exact zd | with_reducible exact zd.up _ | with_reducible exact (zd.up _).up _ | with_reducible exact C3.drew zd | with_reducible exact (C3.drew zd).up _) hb; clear zd; have zd := zN; clear zN; have zz := zd; obtain ⟨x0, x1, x2, x3, x4, x5, x6⟩ := zz)); (try (have zN := C3.carry (by first | with_reducible exact ze | with_reducible exact ze.up _ | with_reducible exact (ze.up _).up _ | with_reducible exact C3.drew ze | with_reducible exact (C3.drew ze).up _) hb; clear ze; have ze := zN; clear zN; have zz := ze; obtain ⟨x0, x1, x2, x3, x4, x5, x6⟩ := zz)); (try (have zN := C3.carry (by first | with_reducible exact zf | with_reducible exact zf.up _ | with_reducible exact (zf.up _).up _ | with_reducible exact C3.drew zf | with_reducible exact (C3.drew zf).up _) hb; clear zf; have zf := zN; clear zN; have zz := zf; obtain ⟨x0, x1, x2, x3, x4, x5, x6⟩ := zz)); (try (first | (have zT := za; clear zT; (first | (have zT := zb; clear zT; (first | (have zT := zc; clear zT; (first | (have zT := zd; clear zT; (first | (have zT := ze; clear zT; (first | (have zT := zf; clear zT; (skip)) | (have zf := C3.carry (C3.new _ _ _ _ _) hb; have zz := zf; obtain ⟨x0, x1, x2, x3, x4, x5, x6⟩ := zz))) | (have ze := C3.carry (C3.new _ _ _ _ _) hb; have zz := ze; obtain ⟨x0, x1, x2, x3, x4, x5, x6⟩ := zz))) | (have zd := C3.carry (C3.new _ _ _ _ _) hb; have zz := zd; obtain ⟨x0, x1, x2, x3, x4, x5, x6⟩ := zz))) | (have zc := C3.carry (C3.new _ _ _ _ _) hb; have zz := zc; obtain ⟨x0, x1, x2, x3, x4, x5, x6⟩ := zz))) | (have zb := C3.carry (C3.new _ _ _ _ _) hb; have zz := zb; obtain ⟨x0, x1, x2, x3, x4, x5, x6⟩ := zz))) | (have za := C3.carry (C3.new _ _ _ _ _) hb; have zz := za; obtain ⟨x0, x1, x2, x3, x4, x5, x6⟩ := zz)))) | (go_at_call 19; (with_reducible refine Calls.mono (K3.out _) ?_); rintro r w1 ⟨rfl, hb⟩; have hB : Below w.heap.size w w1 := (by refine Below.trans ?_ (hb.mono (by first | omega | (simp; done) | (simp <;> omega))); repeat (first | with_reducible exact Below.refl _ _ | with_reducible assumption | with_reducible refine Below.setCell ?_ (by first | omega | (simp; done) | (simp <;> omega)) _ | with_reducible refine below_drewN ?_ _ | with_reducible refine Below.drew ?_ | with_reducible refine Below.alloc ?_ (by first | omega | (simp; done) | (simp <;> omega)) _)); have hz := hb.size; (try simp at hz); (try (have zN := C3.carry (by first | with_reducible exact za | with_reducible exact za.up _ | with_reducible exact (za.up _).up _ | with_reducible exact C3.drew za | with_reducible exact (C3.drew za).up _) hb; clear za; have za := zN; clear zN; have zz := za; obtain ⟨x0, x1, x2, x3, x4, x5, x6⟩ := zz)); (try (have zN := C3.carry (by first | with_reducible exact zb | with_reducible exact zb.up _ | with_reducible exact (zb.up _).up _ | with_reducible exact C3.drew zb | with_reducible exact (C3.drew zb).up _) hb; clear zb; have zb := zN; clear zN; have zz := zb; obtain ⟨x0, x1, x2, x3, x4, x5, x6⟩ := zz)); (try (have zN := C3.carry (by first | with_reducible exact zc | with_reducible exact zc.up _ | with_reducible exact (zc.up _).up _ | with_reducible exact C3.drew zc | with_reducible exact (C3.drew zc).up _) hb; clear zc; have zc := zN; clear zN; have zz := zc; obtain ⟨x0, x1, x2, x3, x4, x5, x6⟩ := zz)); (try (have zN := C3.carry (by first | with_reducible exact zd | with_reducible exact zd.up _ | with_reducible exact (zd.up _).up _ | with_reducible exact C3.drew zd | with_reducible exact (C3.drew zd).up _) hb; clear zd; have zd := zN; clear zN; have zz := zd; obtain ⟨x0, x1, x2, x3, x4, x5, x6⟩ := zz)); (try (have zN := C3.carry (by first | with_reducible exact ze | with_reducible exact ze.up _ | with_reducible exact (ze.up _).up _ | with_reducible exact C3.drew ze | with_reducible exact (C3.drew ze).up _) hb; clear ze; have ze := zN; clear zN; have zz := ze; obtain ⟨x0, x1, x2, x3, x4, x5, x6⟩ := zz)); (try (have zN := C3.carry (by first | with_reducible exact zf | with_reducible exact zf.up _ | with_reducible exact (zf.up _).up _ | with_reducible exact C3.drew zf | with_reducible exact (C3.drew zf).up _) hb; clear zf; have zf := zN; clear zN; have zz := zf; obtain ⟨x0, x1, x2, x3, x4, x5, x6⟩ := zz)); (try (first | (have zT := za; clear zT; (first | (have zT := zb; clear zT; (first | (have zT := zc; clear zT; (first | (have zT := zd; clear zT; (first | (have zT := ze; clear zT; (first | (have zT := zf; clear zT; (skip)) | (have zf := C3.carry (C3.new _ _ _ _ _) hb; have zz := zf; obtain ⟨x0, x1, x2, x3, x4, x5, x6⟩ := zz))) | (have ze := C3.carry (C3.new _ _ _ _ _) hb; have zz := ze; obtain ⟨x0, x1, x2, x3, x4, x5, x6⟩ := zz))) | (have zd := C3.carry (C3.new _ _ _ _ _) hb; have zz := zd; obtain ⟨x0, x1, x2, x3, x4, x5, x6⟩ := zz))) | (have zc := C3.carry (C3.new _ _ _ _ _) hb; have zz := zc; obtain ⟨x0, x1, x2, x3, x4, x5, x6⟩ := zz))) | (have zb := C3.carry (C3.new _ _ _ _ _) hb; have zz := zb; obtain ⟨x0, x1, x2, x3, x4, x5, x6⟩ := zz))) | (have za := C3.carry (C3.new _ _ _ _ _) hb; have zz := za; obtain ⟨x0, x1, x2, x3, x4, x5, x6⟩ := zz)))))
    have zb := C3.new w1 (.bool n1) (.int .i64 c1) (.int .i64 e1) 24
    replace za := za.up (.cells #[.bool n1, .int .i64 c1, .int .i64 e1] 24)
    replace hB := hB.alloc hB.size (.cells #[.bool n1, .int .i64 c1, .int .i64 e1] 24)
    have wr : ∀ q : Int, -10 ≤ q → q ≤ 1000000000 → IntKind.i64.wrap q = q := fun q h1 h2 => by rw [wrap_i64]; unfold wrap64; omega
    have hw := wr (L - 1) (by omega) (by omega)
    clear wr
    have hmin : ¬ 12 < L := by omega
    by_cases hL : L = 0
    · clear hw hmin
      subst hL
      obtain ⟨sza0, sza1, sza2⟩ := C3.since za
      obtain ⟨szb0, szb1, szb2⟩ := C3.since zb
      refine wp_region_since (by kernel_rfl) (by kernel_rfl) ?_
      repeat (quiet_step (first | (go_at_call 42; with_reducible exact Calls.since_of (K4.out _)) | (go_at_call 42; with_reducible exact Calls.since_of (K5.out _))))
      refine wpQuiet_nil ?_
      intro _ hw_
      obtain ⟨⟨w1, hb⟩, rfl⟩ := hw_
      try dsimp only
      clear sza0 sza1 sza2 szb0 szb1 szb2
      replace hB := hB.trans (hb.mono hB.size)
      have hz := hb.size
      replace za := C3.carry za hb
      have zz := za
      obtain ⟨x0, x1, x2, x3, x4, x5, x6⟩ := zz
      replace zb := C3.carry zb hb
      have zz := zb
      obtain ⟨x0, x1, x2, x3, x4, x5, x6⟩ := zz
      go_wp2
      go_ret
      exact ⟨rfl, (by repeat (first | with_reducible exact Below.refl _ _ | with_reducible assumption | with_reducible refine Below.setCell ?_ (by first | omega | (simp; done) | (simp <;> omega)) _ | with_reducible refine below_drewN ?_ _ | with_reducible refine Below.drew ?_ | with_reducible refine Below.alloc ?_ (by first | omega | (simp; done) | (simp <;> omega)) _))⟩
    replace f2 := f2.resolve_left hL
    have hL' : (L == 0) = false := by simpa using hL
    clear hL
    obtain hne3 | ⟨rfl, hne3⟩ | ⟨rfl, rfl, hne3⟩ := dec_ne f2
    all_goals clear f2
    · skip
      obtain ⟨sza0, sza1, sza2⟩ := C3.since za
      obtain ⟨szb0, szb1, szb2⟩ := C3.since zb
      refine wp_region_since (by kernel_rfl) (by kernel_rfl) ?_
      repeat (quiet_step (first | (go_at_call 42; with_reducible exact Calls.since_of (K4.out _)) | (go_at_call 42; with_reducible exact Calls.since_of (K5.out _))))
      refine wpQuiet_nil ?_
      intro _ hw_
      obtain ⟨⟨w1, hb⟩, rfl⟩ := hw_
      try dsimp only
      clear sza0 sza1 sza2 szb0 szb1 szb2
      replace hB := hB.trans (hb.mono hB.size)
      have hz := hb.size
      replace za := C3.carry za hb
      have zz := za
      obtain ⟨x0, x1, x2, x3, x4, x5, x6⟩ := zz
      replace zb := C3.carry zb hb
      have zz := zb
      obtain ⟨x0, x1, x2, x3, x4, x5, x6⟩ := zz
      go_wp2
      go_ret
      exact ⟨rfl, (by repeat (first | with_reducible exact Below.refl _ _ | with_reducible assumption | with_reducible refine Below.setCell ?_ (by first | omega | (simp; done) | (simp <;> omega)) _ | with_reducible refine below_drewN ?_ _ | with_reducible refine Below.drew ?_ | with_reducible refine Below.alloc ?_ (by first | omega | (simp; done) | (simp <;> omega)) _))⟩
    · skip
      obtain ⟨sza0, sza1, sza2⟩ := C3.since za
      obtain ⟨szb0, szb1, szb2⟩ := C3.since zb
      refine wp_region_since (by kernel_rfl) (by kernel_rfl) ?_
      repeat (quiet_step (first | (go_at_call 42; with_reducible exact Calls.since_of (K4.out _)) | (go_at_call 42; with_reducible exact Calls.since_of (K5.out _))))
      refine wpQuiet_nil ?_
      intro _ hw_
      obtain ⟨⟨w1, hb⟩, rfl⟩ := hw_
      try dsimp only
      clear sza0 sza1 sza2 szb0 szb1 szb2
      replace hB := hB.trans (hb.mono hB.size)
      have hz := hb.size
      replace za := C3.carry za hb
      have zz := za
      obtain ⟨x0, x1, x2, x3, x4, x5, x6⟩ := zz
      replace zb := C3.carry zb hb
      have zz := zb
      obtain ⟨x0, x1, x2, x3, x4, x5, x6⟩ := zz
      go_wp2
      go_ret
      exact ⟨rfl, (by repeat (first | with_reducible exact Below.refl _ _ | with_reducible assumption | with_reducible refine Below.setCell ?_ (by first | omega | (simp; done) | (simp <;> omega)) _ | with_reducible refine below_drewN ?_ _ | with_reducible refine Below.drew ?_ | with_reducible refine Below.alloc ?_ (by first | omega | (simp; done) | (simp <;> omega)) _))⟩
    · skip
      obtain ⟨sza0, sza1, sza2⟩ := C3.since za
      obtain ⟨szb0, szb1, szb2⟩ := C3.since zb
      refine wp_region_since (by kernel_rfl) (by kernel_rfl) ?_
      repeat (quiet_step (first | (go_at_call 42; with_reducible exact Calls.since_of (K4.out _)) | (go_at_call 42; with_reducible exact Calls.since_of (K5.out _))))
      refine wpQuiet_nil ?_
      intro _ hw_
      obtain ⟨⟨w1, hb⟩, rfl⟩ := hw_
      try dsimp only
      clear sza0 sza1 sza2 szb0 szb1 szb2
      replace hB := hB.trans (hb.mono hB.size)
      have hz := hb.size
      replace za := C3.carry za hb
      have zz := za
      obtain ⟨x0, x1, x2, x3, x4, x5, x6⟩ := zz
      replace zb := C3.carry zb hb
      have zz := zb
      obtain ⟨x0, x1, x2, x3, x4, x5, x6⟩ := zz
      go_wp2
      go_ret
      exact ⟨rfl, (by repeat (first | with_reducible exact Below.refl _ _ | with_reducible assumption | with_reducible refine Below.setCell ?_ (by first | omega | (simp; done) | (simp <;> omega)) _ | with_reducible refine below_drewN ?_ _ | with_reducible refine Below.drew ?_ | with_reducible refine Below.alloc ?_ (by first | omega | (simp; done) | (simp <;> omega)) _))⟩

set_option maxRecDepth 100000 in
theorem FnPlacesOf_lifted (os : Os) (started : os.Started) (H : Type) (enc : TypeId × Value → H) :
    ReturnsInHanded {} Try.checked os 15 .any (Rows.fnPlacesOfSpec.pre6 enc Try.prog Try.f15 Rows.fnPlacesOfRow.domain false) (Rows.fnPlacesOfSpec.post enc Try.prog Try.f15 false true false false) := by
  refine returnsInHanded_of_change (C := Try.checked) Try.own started (by kernel_rfl) Try.func15
    (ChangeSpec.witness6 (enc := enc) (C := Try.checked) false ⟨#[], #[.slice none 0 0], []⟩ 8 (by kernel_rfl) (by kernel_rfl) (by kernel_rfl) (by kernel_rfl)) ?_
  intro W base args ds gs before hval0 hW hcnd _
  have hval : ∀ (j : Nat) t v, Try.f15.params[j]? = some t → args[j]? = some v → Value.okWide Try.prog W .any base t v := hval0
  have hW' := hW
  obtain ⟨p, q, hA0, hV, rfl, hfz, hnd⟩ := hW
  have hA : DataW.TrodAll enc Try.prog W 0 (fun _ => true) true Try.f15.params.toList args.toList ds p := hA0
  rw [Try.params15] at hA hval
  obtain ⟨v0, d0, rfl, rfl, h0⟩ := trodAll_one hA
  obtain ⟨rfl, rfl⟩ := trodVars_none hV
  obtain ⟨s, len, cap, rfl, hcap, hcode⟩ := open_code (hval 0 22 v0 rfl rfl) h0
  clear hA0 hval0
  have hlt : ∀ x ∈ p ++ [], x.block < W.heap.size := fun x hx => hW'.lt x hx
  refine (FnPlacesOf_law s len cap W hcode hcap).mono fun e_ W' ⟨he, hb⟩ => ?_
  subst he
  exact ⟨_, rfl, post_of_below (pa := p) (pv := []) hW' (fun _ _ _ => trodAll_mk1 (shut_bool Try.underlying4 true)) (fun sp hsp => trodAll_mk1 (code_back h0 hb (fun x hx => hlt x (by simpa using hx)) (fun x hx => hsp x (by simpa using hx)))) (fun _ _ => rfl) rfl hb (ok_one (by kernel_rfl) rfl (okWide_bool_mk Try.underlying4 true))⟩

theorem FnPlacesOf_holds : Rows.FnPlacesOfSaid :=
  OpenClaim.holds_of_wide 15 Try.f15 rfl rfl rfl rfl rfl rfl rfl ⟨rfl, rfl, rfl, rfl, rfl⟩ rfl rfl rfl rfl rfl (by kernel_rfl) Try.func15 (by kernel_rfl)
    (of_decide_eq_true (by kernel_rfl)) (by unfold Func.isWrapper; first | (rw [if_pos (by decide +kernel)]; kernel_rfl) | (rw [if_neg (by decide +kernel)]; exact ⟨rfl, rfl⟩))
    (fun os started H enc _ => FnPlacesOf_lifted os started H enc)
end Go.Proofs.Ytehocgedlepajaa
