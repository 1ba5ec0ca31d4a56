import Derived.Test.YtebheehjhnaklaaGreatDoorR4
import Derived.Deep.CutBlock
import Derived.Test.YtebheehjhnaklaaGreatDoorPl2
import Derived.Test.YtebheehjhnaklaaGreatDoorF4
import Derived.Test.YtebheehjhnaklaaGreatDoorRP3
import Derived.Test.YtebheehjhnaklaaGreatDoorE5
import Derived.Test.YtebheehjhnaklaaGreatDoorRR9
import Derived.Test.YtebheehjhnaklaaGreatDoorN3
import Derived.Test.YtebheehjhnaklaaGreatDoorGV1
import Derived.Test.YtebheehjhnaklaaGreatDoorF6
import Derived.Deep.DeepCutAuto
namespace Go.Proofs.YtebheehjhnaklaaGreatDoor
open Go.RowKit
theorem C9.carry_of {W0 V w1 : World} {g : Nat} {u0 u1 u2 u3 u4 u5 u6 u7 u8 v0 v1 v2 v3 v4 v5 v6 v7 v8 : Value} (_ : C9 W0 g u0 u1 u2 u3 u4 u5 u6 u7 u8) (h : C9 V g v0 v1 v2 v3 v4 v5 v6 v7 v8) (hb : Below V.heap.size V w1) : C9 w1 g v0 v1 v2 v3 v4 v5 v6 v7 v8 := h.carry hb
def IsBV (v : Value) : Prop := ∃ b, v = .bool b
theorem IsBV.mk (b : Bool) : IsBV (.bool b) := ⟨b, rfl⟩
set_option maxRecDepth 100000 in
set_option maxHeartbeats 8000000 in
theorem specFor_any (R : Nat) (K k : Int) (w : World) (h : Rd R K w) (hK : K ≤ 900) :
    Calls Tryz.prog 67 #[.pointer (some ⟨R, 0, none⟩), .int .i64 k] w fun r w' => IsSp r ∧ Rd R (K + 20) w' ∧ Kp R w.heap.size w w' := by
  have hR := h.1
  have hr := h
  have hgR : w.heap.size ≠ R := by omega
  have zr := C9.new w (.string ⟨#[]⟩) (.int .i64 0) (.int .i64 0) (.bool false) (.bool false) (.int .i64 0) (.int .i64 0) (.int .i64 0) (.string ⟨#[]⟩) 38
  go_enter Tryz.func67, Tryz.ntmps67
  go_upto_if 12 with (first | (go_at_call 42; (with_reducible refine Calls.mono (one_of hr (by repeat (first | with_reducible assumption | with_reducible refine Rd.up ?_ _ | with_reducible refine Rd.drew ?_ | with_reducible refine Rd.set ?_ (by first | omega | (simp; done) | (simp <;> omega)) _)) ?_ ?_ ?_ ?_) ?_); omega; omega; exact Nums.at_ _ _ _ _ _ (by simp) (by simp) rfl; omega; rintro r wa ⟨⟨y, rfl⟩, hrN, hk⟩; have hkM : Kp R w.heap.size w wa := Kp.step (by repeat (first | with_reducible assumption | with_reducible exact Kp.refl _ _ _ | with_reducible refine Kp.up ?_ (by first | omega | (simp; done) | (simp <;> omega)) _ | with_reducible refine Kp.set ?_ (by first | omega | (simp; done) | (simp <;> omega)) _ _ | with_reducible refine Kp.drew ?_ | with_reducible refine Kp.step ?_ (by with_reducible assumption))) hk; have zrN := C9.kp_of zr (by repeat (first | with_reducible assumption | with_reducible apply C9.up | (with_reducible apply C9.far; (case hn => (first | omega | (simp; omega)))) | with_reducible apply C9.set0 | with_reducible apply C9.set1 | with_reducible apply C9.set2 | with_reducible apply C9.set3 | with_reducible apply C9.set4 | with_reducible apply C9.set5 | with_reducible apply C9.set6 | with_reducible apply C9.set7 | with_reducible apply C9.set8 | with_reducible apply C9.drew)) hk hgR; clear hr zr hk; have hr := hrN; have zr := zrN; clear hrN zrN; have hz := hkM.size; have zl := zr.lt) | (go_at_call 70; (with_reducible refine Calls.mono (pick_of _ hr (by repeat (first | with_reducible assumption | with_reducible refine Rd.up ?_ _ | with_reducible refine Rd.drew ?_ | with_reducible refine Rd.set ?_ (by first | omega | (simp; done) | (simp <;> omega)) _)) ?_) ?_); omega; rintro r wb ⟨⟨x, rfl, hx0, hx1⟩, hrN, hk⟩; have hkN : Kp R w.heap.size w wb := Kp.step (by repeat (first | with_reducible assumption | with_reducible exact Kp.refl _ _ _ | with_reducible refine Kp.up ?_ (by first | omega | (simp; done) | (simp <;> omega)) _ | with_reducible refine Kp.set ?_ (by first | omega | (simp; done) | (simp <;> omega)) _ _ | with_reducible refine Kp.drew ?_ | with_reducible refine Kp.step ?_ (by with_reducible assumption))) hk; have zrN := C9.kp_of zr (by repeat (first | with_reducible assumption | with_reducible apply C9.up | (with_reducible apply C9.far; (case hn => (first | omega | (simp; omega)))) | with_reducible apply C9.set0 | with_reducible apply C9.set1 | with_reducible apply C9.set2 | with_reducible apply C9.set3 | with_reducible apply C9.set4 | with_reducible apply C9.set5 | with_reducible apply C9.set6 | with_reducible apply C9.set7 | with_reducible apply C9.set8 | with_reducible apply C9.drew)) hk hgR; have zs := C9.kp (C9.new wa _ _ _ _ _ _ _ _ _ _) hk (by omega); have hgS : wa.heap.size ≠ R := (by omega); have hgG : w.heap.size + 1 ≤ wa.heap.size := (by omega); clear hr zr hkM hz hk hx0 hx1; have hr := hrN; have zr := zrN; have hkM := hkN; clear hrN zrN hkN; have hz := hkM.size; have zz := zs; obtain ⟨x0, x1, x2, x3, x4, x5, x6, x7, x8, xf, xl⟩ := zz))
  go_cut [] (fun wx => Mid R (K + 5) w wa.heap.size wx)
  case first =>
    go_wp2_with (first | (go_at_call 70; (with_reducible refine Calls.mono (pick_of _ hr (by repeat (first | with_reducible assumption | with_reducible refine Rd.up ?_ _ | with_reducible refine Rd.drew ?_ | with_reducible refine Rd.set ?_ (by first | omega | (simp; done) | (simp <;> omega)) _)) ?_) ?_); omega; rintro r w1 ⟨⟨x, rfl, hx0, hx1⟩, hrN, hk⟩; have hkN : Kp R w.heap.size w w1 := Kp.step (by repeat (first | with_reducible assumption | with_reducible exact Kp.refl _ _ _ | with_reducible refine Kp.up ?_ (by first | omega | (simp; done) | (simp <;> omega)) _ | with_reducible refine Kp.set ?_ (by first | omega | (simp; done) | (simp <;> omega)) _ _ | with_reducible refine Kp.drew ?_ | with_reducible refine Kp.step ?_ (by with_reducible assumption))) hk; have zrN := C9.kp_of zr (by repeat (first | with_reducible assumption | with_reducible apply C9.up | (with_reducible apply C9.far; (case hn => (first | omega | (simp; omega)))) | with_reducible apply C9.set0 | with_reducible apply C9.set1 | with_reducible apply C9.set2 | with_reducible apply C9.set3 | with_reducible apply C9.set4 | with_reducible apply C9.set5 | with_reducible apply C9.set6 | with_reducible apply C9.set7 | with_reducible apply C9.set8 | with_reducible apply C9.drew)) hk hgR; have zsN := C9.kp_of zs (by repeat (first | with_reducible assumption | with_reducible apply C9.up | (with_reducible apply C9.far; (case hn => (first | omega | (simp; omega)))) | with_reducible apply C9.set0 | with_reducible apply C9.set1 | with_reducible apply C9.set2 | with_reducible apply C9.set3 | with_reducible apply C9.set4 | with_reducible apply C9.set5 | with_reducible apply C9.set6 | with_reducible apply C9.set7 | with_reducible apply C9.set8 | with_reducible apply C9.drew)) hk hgS; clear hr zr zs hkM hz hk x0 x1 x2 x3 x4 x5 x6 x7 x8 xf xl; have hr := hrN; have zr := zrN; have zs := zsN; have hkM := hkN; clear hrN zrN zsN hkN; have hz := hkM.size; have zz := zs; obtain ⟨x0, x1, x2, x3, x4, x5, x6, x7, x8, xf, xl⟩ := zz; clear hx0 hx1) | (go_at_call 42; (with_reducible refine Calls.mono (one_of hr (by repeat (first | with_reducible assumption | with_reducible refine Rd.up ?_ _ | with_reducible refine Rd.drew ?_ | with_reducible refine Rd.set ?_ (by first | omega | (simp; done) | (simp <;> omega)) _)) ?_ ?_ ?_ ?_) ?_); omega; omega; exact Nums.at_ _ _ _ _ _ (by simp) (by simp) rfl; omega; rintro r w1 ⟨⟨y, rfl⟩, hrN, hk⟩; have hkN : Kp R w.heap.size w w1 := Kp.step (by repeat (first | with_reducible assumption | with_reducible exact Kp.refl _ _ _ | with_reducible refine Kp.up ?_ (by first | omega | (simp; done) | (simp <;> omega)) _ | with_reducible refine Kp.set ?_ (by first | omega | (simp; done) | (simp <;> omega)) _ _ | with_reducible refine Kp.drew ?_ | with_reducible refine Kp.step ?_ (by with_reducible assumption))) hk; have zrN := C9.kp_of zr (by repeat (first | with_reducible assumption | with_reducible apply C9.up | (with_reducible apply C9.far; (case hn => (first | omega | (simp; omega)))) | with_reducible apply C9.set0 | with_reducible apply C9.set1 | with_reducible apply C9.set2 | with_reducible apply C9.set3 | with_reducible apply C9.set4 | with_reducible apply C9.set5 | with_reducible apply C9.set6 | with_reducible apply C9.set7 | with_reducible apply C9.set8 | with_reducible apply C9.drew)) hk hgR; have zsN := C9.kp_of zs (by repeat (first | with_reducible assumption | with_reducible apply C9.up | (with_reducible apply C9.far; (case hn => (first | omega | (simp; omega)))) | with_reducible apply C9.set0 | with_reducible apply C9.set1 | with_reducible apply C9.set2 | with_reducible apply C9.set3 | with_reducible apply C9.set4 | with_reducible apply C9.set5 | with_reducible apply C9.set6 | with_reducible apply C9.set7 | with_reducible apply C9.set8 | with_reducible apply C9.drew)) hk hgS; clear hr zr zs hkM hz hk x0 x1 x2 x3 x4 x5 x6 x7 x8 xf xl; have hr := hrN; have zr := zrN; have zs := zsN; have hkM := hkN; clear hrN zrN zsN hkN; have hz := hkM.size; have zz := zs; obtain ⟨x0, x1, x2, x3, x4, x5, x6, x7, x8, xf, xl⟩ := zz) | (go_at_call 72; (with_reducible refine Calls.mono (of_of hr (by repeat (first | with_reducible assumption | with_reducible refine Rd.up ?_ _ | with_reducible refine Rd.drew ?_ | with_reducible refine Rd.set ?_ (by first | omega | (simp; done) | (simp <;> omega)) _)) ?_ ?_ ?_ ?_) ?_); omega; omega; exact Texts.at_ _ _ _ _ _ (by simp) (by simp) rfl; omega; rintro r w1 ⟨⟨y, rfl⟩, hrN, hk⟩; have hkN : Kp R w.heap.size w w1 := Kp.step (by repeat (first | with_reducible assumption | with_reducible exact Kp.refl _ _ _ | with_reducible refine Kp.up ?_ (by first | omega | (simp; done) | (simp <;> omega)) _ | with_reducible refine Kp.set ?_ (by first | omega | (simp; done) | (simp <;> omega)) _ _ | with_reducible refine Kp.drew ?_ | with_reducible refine Kp.step ?_ (by with_reducible assumption))) hk; have zrN := C9.kp_of zr (by repeat (first | with_reducible assumption | with_reducible apply C9.up | (with_reducible apply C9.far; (case hn => (first | omega | (simp; omega)))) | with_reducible apply C9.set0 | with_reducible apply C9.set1 | with_reducible apply C9.set2 | with_reducible apply C9.set3 | with_reducible apply C9.set4 | with_reducible apply C9.set5 | with_reducible apply C9.set6 | with_reducible apply C9.set7 | with_reducible apply C9.set8 | with_reducible apply C9.drew)) hk hgR; have zsN := C9.kp_of zs (by repeat (first | with_reducible assumption | with_reducible apply C9.up | (with_reducible apply C9.far; (case hn => (first | omega | (simp; omega)))) | with_reducible apply C9.set0 | with_reducible apply C9.set1 | with_reducible apply C9.set2 | with_reducible apply C9.set3 | with_reducible apply C9.set4 | with_reducible apply C9.set5 | with_reducible apply C9.set6 | with_reducible apply C9.set7 | with_reducible apply C9.set8 | with_reducible apply C9.drew)) hk hgS; clear hr zr zs hkM hz hk x0 x1 x2 x3 x4 x5 x6 x7 x8 xf xl; have hr := hrN; have zr := zrN; have zs := zsN; have hkM := hkN; clear hrN zrN zsN hkN; have hz := hkM.size; have zz := zs; obtain ⟨x0, x1, x2, x3, x4, x5, x6, x7, x8, xf, xl⟩ := zz))
    all_goals go_meet
    all_goals exact Mid.mk hr (by repeat (first | with_reducible assumption | with_reducible refine Rd.up ?_ _ | with_reducible refine Rd.drew ?_ | with_reducible refine Rd.set ?_ (by first | omega | (simp; done) | (simp <;> omega)) _)) (by omega) (by repeat (first | with_reducible assumption | with_reducible exact Kp.refl _ _ _ | with_reducible refine Kp.up ?_ (by first | omega | (simp; done) | (simp <;> omega)) _ | with_reducible refine Kp.set ?_ (by first | omega | (simp; done) | (simp <;> omega)) _ _ | with_reducible refine Kp.drew ?_ | with_reducible refine Kp.step ?_ (by with_reducible assumption))) (by repeat (first | with_reducible assumption | with_reducible apply C9.up | (with_reducible apply C9.far; (case hn => (first | omega | (simp; omega)))) | with_reducible apply C9.set0 | with_reducible apply C9.set1 | with_reducible apply C9.set2 | with_reducible apply C9.set3 | with_reducible apply C9.set4 | with_reducible apply C9.set5 | with_reducible apply C9.set6 | with_reducible apply C9.set7 | with_reducible apply C9.set8 | with_reducible apply C9.drew)) hgG hgS (by repeat (first | with_reducible assumption | with_reducible apply C9.up | (with_reducible apply C9.far; (case hn => (first | omega | (simp; omega)))) | with_reducible apply C9.set0 | with_reducible apply C9.set1 | with_reducible apply C9.set2 | with_reducible apply C9.set3 | with_reducible apply C9.set4 | with_reducible apply C9.set5 | with_reducible apply C9.set6 | with_reducible apply C9.set7 | with_reducible apply C9.set8 | with_reducible apply C9.drew))
  case rest =>
    clear zr zs hr hkM hz x0 x1 x2 x3 x4 x5 x6 x7 x8 xf xl
    obtain ⟨hr, hkM, zr, hgG, hgS, f, al, si, alt, ze, wi, gr, pr, t, zs⟩ := hcut
    have hz := hkM.size
    have zz := zs
    obtain ⟨x0, x1, x2, x3, x4, x5, x6, x7, x8, xf, xl⟩ := zz
    go_upto_block 0 with fail
    go_cut [] (fun wx => Mid R (K + 12) w wa.heap.size wx)
    case first =>
      go_wp2_with (first | (go_at_call 70; (with_reducible refine Calls.mono (pick_of _ hr (by repeat (first | with_reducible assumption | with_reducible refine Rd.up ?_ _ | with_reducible refine Rd.drew ?_ | with_reducible refine Rd.set ?_ (by first | omega | (simp; done) | (simp <;> omega)) _)) ?_) ?_); omega; rintro r w1 ⟨⟨x, rfl, hx0, hx1⟩, hrN, hk⟩; have hkN : Kp R w.heap.size w w1 := Kp.step (by repeat (first | with_reducible assumption | with_reducible exact Kp.refl _ _ _ | with_reducible refine Kp.up ?_ (by first | omega | (simp; done) | (simp <;> omega)) _ | with_reducible refine Kp.set ?_ (by first | omega | (simp; done) | (simp <;> omega)) _ _ | with_reducible refine Kp.drew ?_ | with_reducible refine Kp.step ?_ (by with_reducible assumption))) hk; have zrN := C9.kp_of zr (by repeat (first | with_reducible assumption | with_reducible apply C9.up | (with_reducible apply C9.far; (case hn => (first | omega | (simp; omega)))) | with_reducible apply C9.set0 | with_reducible apply C9.set1 | with_reducible apply C9.set2 | with_reducible apply C9.set3 | with_reducible apply C9.set4 | with_reducible apply C9.set5 | with_reducible apply C9.set6 | with_reducible apply C9.set7 | with_reducible apply C9.set8 | with_reducible apply C9.drew)) hk hgR; have zsN := C9.kp_of zs (by repeat (first | with_reducible assumption | with_reducible apply C9.up | (with_reducible apply C9.far; (case hn => (first | omega | (simp; omega)))) | with_reducible apply C9.set0 | with_reducible apply C9.set1 | with_reducible apply C9.set2 | with_reducible apply C9.set3 | with_reducible apply C9.set4 | with_reducible apply C9.set5 | with_reducible apply C9.set6 | with_reducible apply C9.set7 | with_reducible apply C9.set8 | with_reducible apply C9.drew)) hk hgS; clear hr zr zs hkM hz hk x0 x1 x2 x3 x4 x5 x6 x7 x8 xf xl; have hr := hrN; have zr := zrN; have zs := zsN; have hkM := hkN; clear hrN zrN zsN hkN; have hz := hkM.size; have zz := zs; obtain ⟨x0, x1, x2, x3, x4, x5, x6, x7, x8, xf, xl⟩ := zz; clear hx0 hx1) | (go_at_call 42; (with_reducible refine Calls.mono (one_of hr (by repeat (first | with_reducible assumption | with_reducible refine Rd.up ?_ _ | with_reducible refine Rd.drew ?_ | with_reducible refine Rd.set ?_ (by first | omega | (simp; done) | (simp <;> omega)) _)) ?_ ?_ ?_ ?_) ?_); omega; omega; exact Nums.at_ _ _ _ _ _ (by simp) (by simp) rfl; omega; rintro r w1 ⟨⟨y, rfl⟩, hrN, hk⟩; have hkN : Kp R w.heap.size w w1 := Kp.step (by repeat (first | with_reducible assumption | with_reducible exact Kp.refl _ _ _ | with_reducible refine Kp.up ?_ (by first | omega | (simp; done) | (simp <;> omega)) _ | with_reducible refine Kp.set ?_ (by first | omega | (simp; done) | (simp <;> omega)) _ _ | with_reducible refine Kp.drew ?_ | with_reducible refine Kp.step ?_ (by with_reducible assumption))) hk; have zrN := C9.kp_of zr (by repeat (first | with_reducible assumption | with_reducible apply C9.up | (with_reducible apply C9.far; (case hn => (first | omega | (simp; omega)))) | with_reducible apply C9.set0 | with_reducible apply C9.set1 | with_reducible apply C9.set2 | with_reducible apply C9.set3 | with_reducible apply C9.set4 | with_reducible apply C9.set5 | with_reducible apply C9.set6 | with_reducible apply C9.set7 | with_reducible apply C9.set8 | with_reducible apply C9.drew)) hk hgR; have zsN := C9.kp_of zs (by repeat (first | with_reducible assumption | with_reducible apply C9.up | (with_reducible apply C9.far; (case hn => (first | omega | (simp; omega)))) | with_reducible apply C9.set0 | with_reducible apply C9.set1 | with_reducible apply C9.set2 | with_reducible apply C9.set3 | with_reducible apply C9.set4 | with_reducible apply C9.set5 | with_reducible apply C9.set6 | with_reducible apply C9.set7 | with_reducible apply C9.set8 | with_reducible apply C9.drew)) hk hgS; clear hr zr zs hkM hz hk x0 x1 x2 x3 x4 x5 x6 x7 x8 xf xl; have hr := hrN; have zr := zrN; have zs := zsN; have hkM := hkN; clear hrN zrN zsN hkN; have hz := hkM.size; have zz := zs; obtain ⟨x0, x1, x2, x3, x4, x5, x6, x7, x8, xf, xl⟩ := zz) | (go_at_call 72; (with_reducible refine Calls.mono (of_of hr (by repeat (first | with_reducible assumption | with_reducible refine Rd.up ?_ _ | with_reducible refine Rd.drew ?_ | with_reducible refine Rd.set ?_ (by first | omega | (simp; done) | (simp <;> omega)) _)) ?_ ?_ ?_ ?_) ?_); omega; omega; exact Texts.at_ _ _ _ _ _ (by simp) (by simp) rfl; omega; rintro r w1 ⟨⟨y, rfl⟩, hrN, hk⟩; have hkN : Kp R w.heap.size w w1 := Kp.step (by repeat (first | with_reducible assumption | with_reducible exact Kp.refl _ _ _ | with_reducible refine Kp.up ?_ (by first | omega | (simp; done) | (simp <;> omega)) _ | with_reducible refine Kp.set ?_ (by first | omega | (simp; done) | (simp <;> omega)) _ _ | with_reducible refine Kp.drew ?_ | with_reducible refine Kp.step ?_ (by with_reducible assumption))) hk; have zrN := C9.kp_of zr (by repeat (first | with_reducible assumption | with_reducible apply C9.up | (with_reducible apply C9.far; (case hn => (first | omega | (simp; omega)))) | with_reducible apply C9.set0 | with_reducible apply C9.set1 | with_reducible apply C9.set2 | with_reducible apply C9.set3 | with_reducible apply C9.set4 | with_reducible apply C9.set5 | with_reducible apply C9.set6 | with_reducible apply C9.set7 | with_reducible apply C9.set8 | with_reducible apply C9.drew)) hk hgR; have zsN := C9.kp_of zs (by repeat (first | with_reducible assumption | with_reducible apply C9.up | (with_reducible apply C9.far; (case hn => (first | omega | (simp; omega)))) | with_reducible apply C9.set0 | with_reducible apply C9.set1 | with_reducible apply C9.set2 | with_reducible apply C9.set3 | with_reducible apply C9.set4 | with_reducible apply C9.set5 | with_reducible apply C9.set6 | with_reducible apply C9.set7 | with_reducible apply C9.set8 | with_reducible apply C9.drew)) hk hgS; clear hr zr zs hkM hz hk x0 x1 x2 x3 x4 x5 x6 x7 x8 xf xl; have hr := hrN; have zr := zrN; have zs := zsN; have hkM := hkN; clear hrN zrN zsN hkN; have hz := hkM.size; have zz := zs; obtain ⟨x0, x1, x2, x3, x4, x5, x6, x7, x8, xf, xl⟩ := zz))
      all_goals go_meet
      all_goals exact Mid.mk hr (by repeat (first | with_reducible assumption | with_reducible refine Rd.up ?_ _ | with_reducible refine Rd.drew ?_ | with_reducible refine Rd.set ?_ (by first | omega | (simp; done) | (simp <;> omega)) _)) (by omega) (by repeat (first | with_reducible assumption | with_reducible exact Kp.refl _ _ _ | with_reducible refine Kp.up ?_ (by first | omega | (simp; done) | (simp <;> omega)) _ | with_reducible refine Kp.set ?_ (by first | omega | (simp; done) | (simp <;> omega)) _ _ | with_reducible refine Kp.drew ?_ | with_reducible refine Kp.step ?_ (by with_reducible assumption))) (by repeat (first | with_reducible assumption | with_reducible apply C9.up | (with_reducible apply C9.far; (case hn => (first | omega | (simp; omega)))) | with_reducible apply C9.set0 | with_reducible apply C9.set1 | with_reducible apply C9.set2 | with_reducible apply C9.set3 | with_reducible apply C9.set4 | with_reducible apply C9.set5 | with_reducible apply C9.set6 | with_reducible apply C9.set7 | with_reducible apply C9.set8 | with_reducible apply C9.drew)) hgG hgS (by repeat (first | with_reducible assumption | with_reducible apply C9.up | (with_reducible apply C9.far; (case hn => (first | omega | (simp; omega)))) | with_reducible apply C9.set0 | with_reducible apply C9.set1 | with_reducible apply C9.set2 | with_reducible apply C9.set3 | with_reducible apply C9.set4 | with_reducible apply C9.set5 | with_reducible apply C9.set6 | with_reducible apply C9.set7 | with_reducible apply C9.set8 | with_reducible apply C9.drew))
    case rest =>
      clear zr zs hr hkM hz x0 x1 x2 x3 x4 x5 x6 x7 x8 xf xl
      obtain ⟨hr, hkM, zr, hgG, hgS, f, al, si, alt, ze, wi, gr, pr, t, zs⟩ := hcut
      have hz := hkM.size
      have zz := zs
      obtain ⟨x0, x1, x2, x3, x4, x5, x6, x7, x8, xf, xl⟩ := zz
      go_upto_region 22 with fail
      go_cut [87] (fun s87 wx => IsBV s87 ∧ Mid R (K + 14) w wa.heap.size wx)
      case first =>
        go_wp2_with (first | (go_at_call 70; (with_reducible refine Calls.mono (pick_of _ hr (by repeat (first | with_reducible assumption | with_reducible refine Rd.up ?_ _ | with_reducible refine Rd.drew ?_ | with_reducible refine Rd.set ?_ (by first | omega | (simp; done) | (simp <;> omega)) _)) ?_) ?_); omega; rintro r w1 ⟨⟨x, rfl, hx0, hx1⟩, hrN, hk⟩; have hkN : Kp R w.heap.size w w1 := Kp.step (by repeat (first | with_reducible assumption | with_reducible exact Kp.refl _ _ _ | with_reducible refine Kp.up ?_ (by first | omega | (simp; done) | (simp <;> omega)) _ | with_reducible refine Kp.set ?_ (by first | omega | (simp; done) | (simp <;> omega)) _ _ | with_reducible refine Kp.drew ?_ | with_reducible refine Kp.step ?_ (by with_reducible assumption))) hk; have zrN := C9.kp_of zr (by repeat (first | with_reducible assumption | with_reducible apply C9.up | (with_reducible apply C9.far; (case hn => (first | omega | (simp; omega)))) | with_reducible apply C9.set0 | with_reducible apply C9.set1 | with_reducible apply C9.set2 | with_reducible apply C9.set3 | with_reducible apply C9.set4 | with_reducible apply C9.set5 | with_reducible apply C9.set6 | with_reducible apply C9.set7 | with_reducible apply C9.set8 | with_reducible apply C9.drew)) hk hgR; have zsN := C9.kp_of zs (by repeat (first | with_reducible assumption | with_reducible apply C9.up | (with_reducible apply C9.far; (case hn => (first | omega | (simp; omega)))) | with_reducible apply C9.set0 | with_reducible apply C9.set1 | with_reducible apply C9.set2 | with_reducible apply C9.set3 | with_reducible apply C9.set4 | with_reducible apply C9.set5 | with_reducible apply C9.set6 | with_reducible apply C9.set7 | with_reducible apply C9.set8 | with_reducible apply C9.drew)) hk hgS; clear hr zr zs hkM hz hk x0 x1 x2 x3 x4 x5 x6 x7 x8 xf xl; have hr := hrN; have zr := zrN; have zs := zsN; have hkM := hkN; clear hrN zrN zsN hkN; have hz := hkM.size; have zz := zs; obtain ⟨x0, x1, x2, x3, x4, x5, x6, x7, x8, xf, xl⟩ := zz; clear hx0 hx1) | (go_at_call 42; (with_reducible refine Calls.mono (one_of hr (by repeat (first | with_reducible assumption | with_reducible refine Rd.up ?_ _ | with_reducible refine Rd.drew ?_ | with_reducible refine Rd.set ?_ (by first | omega | (simp; done) | (simp <;> omega)) _)) ?_ ?_ ?_ ?_) ?_); omega; omega; exact Nums.at_ _ _ _ _ _ (by simp) (by simp) rfl; omega; rintro r w1 ⟨⟨y, rfl⟩, hrN, hk⟩; have hkN : Kp R w.heap.size w w1 := Kp.step (by repeat (first | with_reducible assumption | with_reducible exact Kp.refl _ _ _ | with_reducible refine Kp.up ?_ (by first | omega | (simp; done) | (simp <;> omega)) _ | with_reducible refine Kp.set ?_ (by first | omega | (simp; done) | (simp <;> omega)) _ _ | with_reducible refine Kp.drew ?_ | with_reducible refine Kp.step ?_ (by with_reducible assumption))) hk; have zrN := C9.kp_of zr (by repeat (first | with_reducible assumption | with_reducible apply C9.up | (with_reducible apply C9.far; (case hn => (first | omega | (simp; omega)))) | with_reducible apply C9.set0 | with_reducible apply C9.set1 | with_reducible apply C9.set2 | with_reducible apply C9.set3 | with_reducible apply C9.set4 | with_reducible apply C9.set5 | with_reducible apply C9.set6 | with_reducible apply C9.set7 | with_reducible apply C9.set8 | with_reducible apply C9.drew)) hk hgR; have zsN := C9.kp_of zs (by repeat (first | with_reducible assumption | with_reducible apply C9.up | (with_reducible apply C9.far; (case hn => (first | omega | (simp; omega)))) | with_reducible apply C9.set0 | with_reducible apply C9.set1 | with_reducible apply C9.set2 | with_reducible apply C9.set3 | with_reducible apply C9.set4 | with_reducible apply C9.set5 | with_reducible apply C9.set6 | with_reducible apply C9.set7 | with_reducible apply C9.set8 | with_reducible apply C9.drew)) hk hgS; clear hr zr zs hkM hz hk x0 x1 x2 x3 x4 x5 x6 x7 x8 xf xl; have hr := hrN; have zr := zrN; have zs := zsN; have hkM := hkN; clear hrN zrN zsN hkN; have hz := hkM.size; have zz := zs; obtain ⟨x0, x1, x2, x3, x4, x5, x6, x7, x8, xf, xl⟩ := zz) | (go_at_call 72; (with_reducible refine Calls.mono (of_of hr (by repeat (first | with_reducible assumption | with_reducible refine Rd.up ?_ _ | with_reducible refine Rd.drew ?_ | with_reducible refine Rd.set ?_ (by first | omega | (simp; done) | (simp <;> omega)) _)) ?_ ?_ ?_ ?_) ?_); omega; omega; exact Texts.at_ _ _ _ _ _ (by simp) (by simp) rfl; omega; rintro r w1 ⟨⟨y, rfl⟩, hrN, hk⟩; have hkN : Kp R w.heap.size w w1 := Kp.step (by repeat (first | with_reducible assumption | with_reducible exact Kp.refl _ _ _ | with_reducible refine Kp.up ?_ (by first | omega | (simp; done) | (simp <;> omega)) _ | with_reducible refine Kp.set ?_ (by first | omega | (simp; done) | (simp <;> omega)) _ _ | with_reducible refine Kp.drew ?_ | with_reducible refine Kp.step ?_ (by with_reducible assumption))) hk; have zrN := C9.kp_of zr (by repeat (first | with_reducible assumption | with_reducible apply C9.up | (with_reducible apply C9.far; (case hn => (first | omega | (simp; omega)))) | with_reducible apply C9.set0 | with_reducible apply C9.set1 | with_reducible apply C9.set2 | with_reducible apply C9.set3 | with_reducible apply C9.set4 | with_reducible apply C9.set5 | with_reducible apply C9.set6 | with_reducible apply C9.set7 | with_reducible apply C9.set8 | with_reducible apply C9.drew)) hk hgR; have zsN := C9.kp_of zs (by repeat (first | with_reducible assumption | with_reducible apply C9.up | (with_reducible apply C9.far; (case hn => (first | omega | (simp; omega)))) | with_reducible apply C9.set0 | with_reducible apply C9.set1 | with_reducible apply C9.set2 | with_reducible apply C9.set3 | with_reducible apply C9.set4 | with_reducible apply C9.set5 | with_reducible apply C9.set6 | with_reducible apply C9.set7 | with_reducible apply C9.set8 | with_reducible apply C9.drew)) hk hgS; clear hr zr zs hkM hz hk x0 x1 x2 x3 x4 x5 x6 x7 x8 xf xl; have hr := hrN; have zr := zrN; have zs := zsN; have hkM := hkN; clear hrN zrN zsN hkN; have hz := hkM.size; have zz := zs; obtain ⟨x0, x1, x2, x3, x4, x5, x6, x7, x8, xf, xl⟩ := zz) | (go_at_call 81; (with_reducible refine Calls.mono (suitsS_some _ _ _ _ _ _ _ _ _ _ _) ?_); rintro r w1 ⟨⟨b, rfl⟩, hb⟩; have hkN : Kp R w.heap.size w w1 := Kp.step (by repeat (first | with_reducible assumption | with_reducible exact Kp.refl _ _ _ | with_reducible refine Kp.up ?_ (by first | omega | (simp; done) | (simp <;> omega)) _ | with_reducible refine Kp.set ?_ (by first | omega | (simp; done) | (simp <;> omega)) _ _ | with_reducible refine Kp.drew ?_ | with_reducible refine Kp.step ?_ (by with_reducible assumption))) (Kp.of_below hb (by omega)); have zrN := C9.carry_of zr (by repeat (first | with_reducible assumption | with_reducible apply C9.up | (with_reducible apply C9.far; (case hn => (first | omega | (simp; omega)))) | with_reducible apply C9.set0 | with_reducible apply C9.set1 | with_reducible apply C9.set2 | with_reducible apply C9.set3 | with_reducible apply C9.set4 | with_reducible apply C9.set5 | with_reducible apply C9.set6 | with_reducible apply C9.set7 | with_reducible apply C9.set8 | with_reducible apply C9.drew)) hb; have zsN := C9.carry_of zs (by repeat (first | with_reducible assumption | with_reducible apply C9.up | (with_reducible apply C9.far; (case hn => (first | omega | (simp; omega)))) | with_reducible apply C9.set0 | with_reducible apply C9.set1 | with_reducible apply C9.set2 | with_reducible apply C9.set3 | with_reducible apply C9.set4 | with_reducible apply C9.set5 | with_reducible apply C9.set6 | with_reducible apply C9.set7 | with_reducible apply C9.set8 | with_reducible apply C9.drew)) hb; have hrN := Rd.carry hr hb; clear hr zr zs hkM hz x0 x1 x2 x3 x4 x5 x6 x7 x8 xf xl; have hr := hrN; have zr := zrN; have zs := zsN; have hkM := hkN; clear hrN zrN zsN hkN hb; have hz := hkM.size; have zz := zs; obtain ⟨x0, x1, x2, x3, x4, x5, x6, x7, x8, xf, xl⟩ := zz))
        all_goals go_meet
        all_goals exact ⟨IsBV.mk _, Mid.mk hr (by repeat (first | with_reducible assumption | with_reducible refine Rd.up ?_ _ | with_reducible refine Rd.drew ?_ | with_reducible refine Rd.set ?_ (by first | omega | (simp; done) | (simp <;> omega)) _)) (by omega) (by repeat (first | with_reducible assumption | with_reducible exact Kp.refl _ _ _ | with_reducible refine Kp.up ?_ (by first | omega | (simp; done) | (simp <;> omega)) _ | with_reducible refine Kp.set ?_ (by first | omega | (simp; done) | (simp <;> omega)) _ _ | with_reducible refine Kp.drew ?_ | with_reducible refine Kp.step ?_ (by with_reducible assumption))) (by repeat (first | with_reducible assumption | with_reducible apply C9.up | (with_reducible apply C9.far; (case hn => (first | omega | (simp; omega)))) | with_reducible apply C9.set0 | with_reducible apply C9.set1 | with_reducible apply C9.set2 | with_reducible apply C9.set3 | with_reducible apply C9.set4 | with_reducible apply C9.set5 | with_reducible apply C9.set6 | with_reducible apply C9.set7 | with_reducible apply C9.set8 | with_reducible apply C9.drew)) hgG hgS (by repeat (first | with_reducible assumption | with_reducible apply C9.up | (with_reducible apply C9.far; (case hn => (first | omega | (simp; omega)))) | with_reducible apply C9.set0 | with_reducible apply C9.set1 | with_reducible apply C9.set2 | with_reducible apply C9.set3 | with_reducible apply C9.set4 | with_reducible apply C9.set5 | with_reducible apply C9.set6 | with_reducible apply C9.set7 | with_reducible apply C9.set8 | with_reducible apply C9.drew))⟩
      case rest =>
        clear zr zs hr hkM hz x0 x1 x2 x3 x4 x5 x6 x7 x8 xf xl
        obtain ⟨⟨bv, rfl⟩, hcut⟩ := hcut
        obtain ⟨hr, hkM, zr, hgG, hgS, f, al, si, alt, ze, wi, gr, pr, t, zs⟩ := hcut
        have hz := hkM.size
        have zz := zs
        obtain ⟨x0, x1, x2, x3, x4, x5, x6, x7, x8, xf, xl⟩ := zz
        go_upto_if 87 with fail
        go_cut [] (fun wx => Mid R (K + 15) w wa.heap.size wx)
        case first =>
          cases hkb : (k == 2)
          all_goals go_wp2
          all_goals go_meet
          all_goals exact Mid.mk hr (by repeat (first | with_reducible assumption | with_reducible refine Rd.up ?_ _ | with_reducible refine Rd.drew ?_ | with_reducible refine Rd.set ?_ (by first | omega | (simp; done) | (simp <;> omega)) _)) (by omega) (by repeat (first | with_reducible assumption | with_reducible exact Kp.refl _ _ _ | with_reducible refine Kp.up ?_ (by first | omega | (simp; done) | (simp <;> omega)) _ | with_reducible refine Kp.set ?_ (by first | omega | (simp; done) | (simp <;> omega)) _ _ | with_reducible refine Kp.drew ?_ | with_reducible refine Kp.step ?_ (by with_reducible assumption))) (by repeat (first | with_reducible assumption | with_reducible apply C9.up | (with_reducible apply C9.far; (case hn => (first | omega | (simp; omega)))) | with_reducible apply C9.set0 | with_reducible apply C9.set1 | with_reducible apply C9.set2 | with_reducible apply C9.set3 | with_reducible apply C9.set4 | with_reducible apply C9.set5 | with_reducible apply C9.set6 | with_reducible apply C9.set7 | with_reducible apply C9.set8 | with_reducible apply C9.drew)) hgG hgS (by repeat (first | with_reducible assumption | with_reducible apply C9.up | (with_reducible apply C9.far; (case hn => (first | omega | (simp; omega)))) | with_reducible apply C9.set0 | with_reducible apply C9.set1 | with_reducible apply C9.set2 | with_reducible apply C9.set3 | with_reducible apply C9.set4 | with_reducible apply C9.set5 | with_reducible apply C9.set6 | with_reducible apply C9.set7 | with_reducible apply C9.set8 | with_reducible apply C9.drew))
        case rest =>
          clear zr zs hr hkM hz x0 x1 x2 x3 x4 x5 x6 x7 x8 xf xl
          obtain ⟨hr, hkM, zr, hgG, hgS, f, al, si, alt, ze, wi, gr, pr, t, zs⟩ := hcut
          have hz := hkM.size
          have zz := zs
          obtain ⟨x0, x1, x2, x3, x4, x5, x6, x7, x8, xf, xl⟩ := zz
          have zz2 := zr
          obtain ⟨y0, y1, y2, y3, y4, y5, y6, y7, y8, yf, yl⟩ := zz2
          go_wp2
          have hr9 := Rd.mono (K' := K + 20) hr (by omega)
          refine bodyPost_ret (v := .agg #[.string f, .int .i64 al, .int .i64 si, .bool alt, .bool ze, .int .i64 wi, .int .i64 gr, .int .i64 pr, .string t]) ?_ rfl ⟨IsSp.mk _ _ _ _ _ _ _ _ _, (by repeat (first | with_reducible assumption | with_reducible refine Rd.up ?_ _ | with_reducible refine Rd.drew ?_ | with_reducible refine Rd.set ?_ (by first | omega | (simp; done) | (simp <;> omega)) _)), (by repeat (first | with_reducible assumption | with_reducible exact Kp.refl _ _ _ | with_reducible refine Kp.up ?_ (by first | omega | (simp; done) | (simp <;> omega)) _ | with_reducible refine Kp.set ?_ (by first | omega | (simp; done) | (simp <;> omega)) _ _ | with_reducible refine Kp.drew ?_ | with_reducible refine Kp.step ?_ (by with_reducible assumption)))⟩
          simp [results, Tryz.results67, go_sem, *]
end Go.Proofs.YtebheehjhnaklaaGreatDoor
/- Plain mathematics of the promises of chapter 1: rounding by the value, and what each promise says of it. No Go here. -/
namespace Fd
/-- the nearest whole number of m in u, to even -/
def rhe (u m : Int) : Int := if 2 * (u % m) > m ∨ 2 * (u % m) = m ∧ u / m % 2 = 1 then u / m + 1 else u / m
theorem rq_rhe (c k : Int) : rq c k = rhe c (p10 k) := rfl
theorem rhe_mul {u m t : Int} (ht : 0 < t) : rhe (u * t) (m * t) = rhe u m := by
  unfold rhe
  rw [show u * t % (m * t) = u % m * t from by rw [Int.mul_comm u t, Int.mul_comm m t, Int.mul_emod_mul_of_pos _ _ ht, Int.mul_comm], Int.mul_ediv_mul_of_pos_left _ _ ht]
  have e1 : (2 * (u % m * t) > m * t) ↔ (2 * (u % m) > m) := by
    rw [← Int.mul_assoc]; exact ⟨fun h => Int.lt_of_mul_lt_mul_right h (Int.le_of_lt ht), fun h => Int.mul_lt_mul_of_pos_right h ht⟩
  have e2 : (2 * (u % m * t) = m * t) ↔ (2 * (u % m) = m) := by
    rw [← Int.mul_assoc]; exact ⟨fun h => Int.eq_of_mul_eq_mul_right (by omega) h, fun h => by rw [h]⟩
  simp only [e1, e2]
theorem rhe_dvd {x m : Int} (hm : 0 < m) : rhe (x * m) m = x := by
  unfold rhe
  rw [Int.mul_emod_left, Int.mul_ediv_cancel _ (by omega), if_neg (by omega)]
theorem rhe_small {u m : Int} (h0 : 0 ≤ u) (h : 2 * u < m) : rhe u m = 0 := by
  unfold rhe
  rw [Int.emod_eq_of_lt h0 (by omega), Int.ediv_eq_zero_of_lt h0 (by omega), if_neg (by omega)]
theorem rhe_nonneg {u m : Int} (h0 : 0 ≤ u) (hm : 0 < m) : 0 ≤ rhe u m := by
  have := Int.ediv_nonneg h0 (Int.le_of_lt hm)
  unfold rhe; split <;> omega
/-- the signed amount -/
def sV (n : Bool) (u : Int) : Int := if n then - u else u
theorem V_sV (d : D) : V d = sV d.n (U d.c d.e) := rfl
theorem sV_zero (n : Bool) : sV n 0 = 0 := by unfold sV; split <;> rfl
/-- a multiple of a power stays one at a smaller power -/
theorem U_mult {c e x : Int} (hx : 0 ≤ x + 24) (h : x ≤ e) : U c e = c * p10 (e - x) * p10 (x + 24) := by
  unfold U
  rw [Int.mul_assoc, ← p10_add (by omega) hx]; congr 2; omega
/-- what is dropped to the exponent x: the nearest multiple of its power -/
theorem drop_V {d : D} {x : Int} (h : vldP d) (hx : -24 ≤ x) :
    V (dropI d (x - d.e)) = sV d.n (rhe (U d.c d.e) (p10 (x + 24)) * p10 (x + 24)) := by
  obtain ⟨h1, h2, h3, h4, h5⟩ := h
  unfold dropI
  by_cases hk : x - d.e ≤ 0
  · rw [if_pos hk, V_sV, U_mult (x := x) (by omega) (by omega), rhe_dvd (p10_pos _)]
  rw [if_neg hk]
  by_cases h9 : 9 < x - d.e
  · rw [if_pos h9, V_z, rhe_small (U_nonneg h1), Int.zero_mul, sV_zero]
    unfold U
    have := p10_mono (j := 10) (k := x - d.e) (by omega) (by omega)
    have e : p10 (x + 24) = p10 (x - d.e) * p10 (d.e + 24) := by rw [← p10_add (by omega) (by omega)]; congr 1; omega
    rw [p10_10] at this
    rw [e, ← Int.mul_assoc]
    exact Int.mul_lt_mul_of_pos_right (by omega) (p10_pos _)
  · rw [if_neg h9, V_sV]
    simp only
    rw [show d.e + (x - d.e) = x from by omega]
    have e : p10 (x + 24) = p10 (x - d.e) * p10 (d.e + 24) := by rw [← p10_add (by omega) (by omega)]; congr 1; omega
    have e2 : rhe (U d.c d.e) (p10 (x + 24)) = rq d.c (x - d.e) := by
      rw [e]; unfold U; rw [rhe_mul (p10_pos _), rq_rhe]
    rw [e2]; rfl
theorem drop_bd {d : D} {x : Int} (h : vldP d) (hx : -24 ≤ x) : 0 ≤ (dropI d (x - d.e)).c ∧ -24 ≤ (dropI d (x - d.e)).e := by
  obtain ⟨h1, h2, h3, h4, h5⟩ := h
  unfold dropI
  by_cases hk : x - d.e ≤ 0
  · rw [if_pos hk]; omega
  rw [if_neg hk]
  by_cases h9 : 9 < x - d.e
  · rw [if_pos h9]; simp [D.z]
  · rw [if_neg h9]
    have := rq_bd (c := d.c) (k := x - d.e) h1 (by omega)
    simp only; omega
/-- the result of rounding to an exponent, by its value -/
theorem drop_fits {d : D} {x : Int} (h : vldP d) (hx : -24 ≤ x) :
    Fits (sV d.n (rhe (U d.c d.e) (p10 (x + 24)) * p10 (x + 24))) (fit1 (dropI d (x - d.e))) := by
  rw [← drop_V h hx]
  exact fit1_ok _ (drop_bd h hx).1 (drop_bd h hx).2
theorem roundI_yes {d : D} {p : Int} (h : vldP d) (h1 : -12 ≤ p) (h2 : p ≤ 12) : roundI d p = (fit1 (dropI d (-p - d.e))).1 := by
  unfold roundI; rw [if_neg (by simp [vld_iff.2 h]; omega)]
/-- rounding to places, by the value -/
theorem round_V {d : D} {p : Int} (h : vldP d) (h1 : -12 ≤ p) (h2 : p ≤ 12) :
    nrm (roundI d p) ∧ V (roundI d p) = sV d.n (rhe (U d.c d.e) (p10 (-p + 24)) * p10 (-p + 24)) := by
  rw [roundI_yes h h1 h2]
  have hf := drop_fits (x := -p) h (by omega)
  rcases hf with ⟨a, b, c⟩ | ⟨a, b, c⟩
  · exact ⟨b, c⟩
  · exfalso
    have hd := drop_V (x := -p) h (by omega)
    obtain ⟨v1, v2, v3, v4, v5⟩ := h
    by_cases hk : -p - d.e ≤ 0
    · refine c d ⟨v1, v2, v3, v4, v5⟩ ?_
      rw [← hd]; unfold dropI; rw [if_pos hk]
    by_cases h9 : 9 < -p - d.e
    · refine c D.z vld_z ?_
      rw [← hd]; unfold dropI; rw [if_neg hk, if_pos h9]
    · have hb := rq_bd (c := d.c) (k := -p - d.e) v1 (by omega)
      by_cases hz : rq d.c (-p - d.e) = 0
      · refine c D.z vld_z ?_
        rw [← hd]; unfold dropI; rw [if_neg hk, if_neg h9, V_z, V_zero hz]
      · refine c ⟨d.n, rq d.c (-p - d.e), -p⟩ ⟨by simp only; omega, by simp only; omega, by simp only; omega, by simp only; omega, by simp only; intro; omega⟩ ?_
        rw [← hd]; unfold dropI; rw [if_neg hk, if_neg h9]; congr 2; omega
theorem U_of_V {a b : D} (ha : vldP a) (hb : vldP b) (h : V a = V b) : a.n = b.n ∧ U a.c a.e = U b.c b.e :=
  V_sign ha.1 ha.2.2.2.2 hb.1 hb.2.2.2.2 h
/-- the amount of what is rounded is a multiple -/
theorem round_U {d : D} {p : Int} (h : vldP d) (h1 : -12 ≤ p) (h2 : p ≤ 12) :
    U (roundI d p).c (roundI d p).e = rhe (U d.c d.e) (p10 (-p + 24)) * p10 (-p + 24) := by
  obtain ⟨a, b⟩ := round_V h h1 h2
  have g := U_nonneg (c := (roundI d p).c) (e := (roundI d p).e) a.1.1
  have g0 := Int.mul_nonneg (rhe_nonneg (U_nonneg (e := d.e) h.1) (p10_pos (-p + 24))) (Int.le_of_lt (p10_pos (-p + 24)))
  rw [V_sV] at b
  unfold sV at b
  split at b <;> split at b <;> omega
theorem round_mult {d : D} {p x : Int} (h : vldP d) (h1 : -12 ≤ p) (h2 : p ≤ 12) (hu : U d.c d.e = x * p10 (-p + 24)) : V (roundI d p) = V d := by
  rw [(round_V h h1 h2).2, hu, rhe_dvd (p10_pos _), V_sV, hu]
theorem nd_round {d : D} {p : Int} (h : vldP d) (h1 : -12 ≤ p) (h2 : p ≤ 12) (hp : -p ≤ (nd d).e) : roundI d p = nd d := by
  have hn := nd_ok h
  have e := U_of_V hn.1.1 h hn.2
  refine nrm_uniq (round_V h h1 h2).1 hn.1 ?_
  rw [hn.2]
  exact round_mult (x := (nd d).c * p10 ((nd d).e - -p)) h h1 h2 (by rw [← e.2]; exact U_mult (by omega) hp)
theorem round_e {d : D} {p : Int} (h : vldP d) (h1 : 0 ≤ p) (h2 : p ≤ 12) : -p ≤ (roundI d p).e := by
  have a := (round_V h (by omega) h2).1
  have b := round_U h (by omega) h2
  by_cases hlt : (roundI d p).e < -p
  · have := U_div (c := (roundI d p).c) (e := (roundI d p).e) (c' := rhe (U d.c d.e) (p10 (-p + 24))) (e' := -p) (by have := a.1.2.2.1; omega) hlt (by rw [b]; rfl)
    by_cases hz : (roundI d p).c = 0
    · have := a.2.1 hz; omega
    · have := a.2.2 hz; omega
  · omega
theorem places_nrm {d : D} (h : nrm d) : placesI d = max 0 (- d.e) := by
  unfold placesI; rw [if_pos (vld_iff.2 h.1), nd_nrm h]
theorem placesI_yes {d : D} (h : vldP d) : placesI d = max 0 (- (nd d).e) := by
  unfold placesI; rw [if_pos (vld_iff.2 h)]
theorem places_round {d : D} {p : Int} (h : vldP d) (h1 : 0 ≤ p) (h2 : p ≤ 12) : placesI (roundI d p) ≤ p := by
  rw [places_nrm (round_V h (by omega) h2).1]
  have := round_e h h1 h2; omega

-- the promises
theorem places_nonneg {d : D} (h : vldP d) : 0 ≤ placesI d ∧ placesI d ≤ 12 := by
  rw [placesI_yes h]
  have := (nd_valid d).2.2.1; omega
theorem places_nd {d : D} (h : vldP d) : placesI (nd d) = placesI d := by
  rw [places_nrm (nd_ok h).1, placesI_yes h]
theorem P13_ok {d : D} (h : 0 ≤ placesI d) : placesI d ≤ 12 ∧ roundI d (placesI d) = nd d ∧ (placesI d = 0 ∨ roundI d (placesI d - 1) ≠ nd d) := by
  have hv : vldP d := by
    apply Classical.byContradiction; intro hn
    unfold placesI at h; rw [if_neg (by simp [vld, hn])] at h; omega
  have hb := places_nonneg hv
  refine ⟨hb.2, ?_, ?_⟩
  · have := placesI_yes hv
    exact nd_round hv (by omega) hb.2 (by omega)
  · by_cases h0 : placesI d = 0
    · exact .inl h0
    · right; intro e
      have := places_round hv (p := placesI d - 1) (by omega) (by omega)
      rw [e, places_nd hv] at this; omega
end Fd
namespace Go.Proofs.YtebheehjhnaklaaGreatDoor
open Go Go.RowKit
theorem vld_false {n : Bool} {c e : Int} (hv : Fd.vld ⟨n, c, e⟩ = true) : Fd.vld ⟨false, c, e⟩ = true := by
  have h := Fd.vld_iff.1 hv
  exact Fd.vld_iff.2 ⟨h.1, h.2.1, h.2.2.1, h.2.2.2.1, by intro h; cases h⟩
theorem places_false {n : Bool} {c e : Int} (hv : Fd.vld ⟨n, c, e⟩ = true) : Fd.placesI ⟨n, c, e⟩ = Fd.placesI ⟨false, c, e⟩ := by
  rw [Fd.placesI_yes (Fd.vld_iff.1 hv), Fd.placesI_yes (Fd.vld_iff.1 (vld_false hv)), Fd.nd_e (Fd.vld_iff.1 hv), Fd.nd_e (Fd.vld_iff.1 (vld_false hv))]
  have e1 : (Fd.normal2 ⟨n, c, e⟩).e = (Fd.normal2 ⟨false, c, e⟩).e := by
    unfold Fd.normal2
    by_cases hc : c = 0
    · rw [if_pos hc, if_pos hc]
    · rw [if_neg hc, if_neg hc]
  rw [e1]
theorem pl_fit {n : Bool} {c e : Int} {m : Nat} (hv : Fd.vld ⟨n, c, e⟩ = true) (hm : Fd.placesI ⟨n, c, e⟩ = m) : Fd.fit1 (Fd.dropI ⟨false, c, e⟩ (-m - e)) = (Fd.nd ⟨false, c, e⟩, true) := by
  have hv2 := vld_false hv
  rw [places_false hv] at hm
  have h13 := Fd.P13_ok (d := ⟨false, c, e⟩) (by omega)
  have hr : Fd.roundI ⟨false, c, e⟩ m = (Fd.fit1 (Fd.dropI ⟨false, c, e⟩ (-m - e))).1 := Fd.roundI_yes (Fd.vld_iff.1 hv2) (by omega) (by omega)
  have h1 := h13.2.1
  rw [hm, hr] at h1
  obtain ⟨b0, b1, b2, b3⟩ := vld_b hv
  by_cases hc : c = 0
  · have hz : (Fd.dropI ⟨false, c, e⟩ (-m - e)).c = 0 := by
      unfold Fd.dropI
      split
      · exact hc
      · split
        · rfl
        · show Fd.rq c _ = 0
          rw [hc]
          exact rq_zero _
    rw [fit_z0 hz] at h1 ⊢
    rw [← h1]
  · have hok := (Fd.nd_ok (Fd.vld_iff.1 hv2)).2
    refine Prod.ext h1 ?_
    cases hs : (Fd.fit1 (Fd.dropI ⟨false, c, e⟩ (-m - e))).2
    · exfalso
      obtain ⟨d1, d2, d3, d4⟩ := drop_bd (n := false) (k := -m - e) b0 b1 b2 b3 (.inl (by omega))
      rcases Fd.fit1_ok (Fd.dropI ⟨false, c, e⟩ (-m - e)) d1 (by omega) with g | g
      · rw [g.1] at hs; cases hs
      · rw [g.2.1] at h1
        rw [← h1, Fd.V_z] at hok
        have hp := Fd.U_pos (c := c) (e := e) (by omega)
        unfold Fd.V at hok
        simp only [Bool.false_eq_true, if_false] at hok
        omega
    · rfl
end Go.Proofs.YtebheehjhnaklaaGreatDoor
namespace Go.Proofs.YtebheehjhnaklaaGreatDoor
open Go Go.RowKit
theorem strip1_pos (c e : Int) (h : 0 < c) : 0 < (Fd.strip1 c e).1 := by
  induction c, e using Fd.strip1.induct with
  | case1 c e hc ih => rw [Fd.strip1_yes hc.1 hc.2.1 hc.2.2]; exact ih (by omega)
  | case2 c e hc => rw [Fd.strip1_no (by omega)]; exact h
theorem strip1_end (c e : Int) (h : 0 < c) : ¬ ((Fd.strip1 c e).2 < 12 ∧ (Fd.strip1 c e).1 % 10 = 0) := by
  induction c, e using Fd.strip1.induct with
  | case1 c e hc ih => rw [Fd.strip1_yes hc.1 hc.2.1 hc.2.2]; exact ih (by omega)
  | case2 c e hc => rw [Fd.strip1_no (by omega)]; show ¬ (e < 12 ∧ c % 10 = 0); omega
theorem grow1_pos (c e : Int) (h : 0 < c) : 0 < (Fd.grow1 c e).1 := by
  induction c, e using Fd.grow1.induct with
  | case1 c e hc ih => rw [Fd.grow1_yes hc.1 hc.2]; exact ih (by omega)
  | case2 c e hc => rw [Fd.grow1_no hc]; exact h
theorem grow1_end (c e : Int) (h : 12 ≤ e) : 12 ≤ (Fd.grow1 c e).2 := by
  induction c, e using Fd.grow1.induct with
  | case1 c e hc ih => rw [Fd.grow1_yes hc.1 hc.2]; exact ih (by omega)
  | case2 c e hc => rw [Fd.grow1_no hc]; exact h
theorem fit1_nrm {d : Fd.D} (h0 : 0 ≤ d.c) (h : (Fd.fit1 d).2 = true) : Fd.nrm (Fd.fit1 d).1 := by
  unfold Fd.fit1 at h ⊢
  by_cases hc : d.c = 0
  · rw [if_pos hc]; exact Fd.nrm_z
  · rw [if_neg hc] at h ⊢
    have hp := strip1_pos d.c d.e (by omega)
    have he := strip1_end d.c d.e (by omega)
    generalize Fd.strip1 d.c d.e = s at *
    have hq := grow1_pos s.1 s.2 hp
    have hg : (Fd.grow1 s.1 s.2).1 % 10 ≠ 0 ∨ 12 ≤ (Fd.grow1 s.1 s.2).2 := by
      by_cases h12 : 12 ≤ s.2
      · exact .inr (grow1_end s.1 s.2 h12)
      · left
        rw [Fd.grow1_no (by omega)]
        show s.1 % 10 ≠ 0
        omega
    generalize Fd.grow1 s.1 s.2 = g at *
    simp only at h ⊢
    cases hv : Fd.vld ⟨d.n, g.1, g.2⟩
    · rw [hv] at h; simp at h
    · rw [if_pos rfl]
      have hV := Fd.vld_iff.1 hv
      refine ⟨hV, fun h => ?_, fun _ => ?_⟩
      · have h1 : g.1 = 0 := h
        omega
      · have h2 := hV.2.2.2.1
        rcases hg with h1 | h1
        · exact .inl h1
        · right
          show g.2 = 12
          have h3 : g.2 ≤ 12 := h2
          omega
theorem fin_nrm (neg hund : Bool) (a : List UInt8) (p : Int) (h : (rrFin neg hund a p).2 = true) : Fd.nrm (rrFin neg hund a p).1 := by
  unfold rrFin at h ⊢
  split at h
  · simp at h
  · rename_i h1
    rw [if_neg h1]
    split at h
    · simp at h
    · rename_i h2
      rw [if_neg h2]
      exact fit1_nrm (by show 0 ≤ vRun 10 _ 0; omega) h
theorem rrX_nrm (T : List UInt8) (h : (rrX T).2 = true) : Fd.nrm (rrX T).1 := by
  unfold rrX at h ⊢
  split at h
  · rename_i h1
    rw [if_pos h1]
    unfold rrL rrM at h ⊢
    cases he : eP (Lib.trimSuffix (cutD T) [37]) with
    | none =>
      rw [he] at h
      exact fin_nrm _ _ _ _ h
    | some q =>
      obtain ⟨a, r⟩ := q
      rw [he] at h
      simp only at h ⊢
      cases hp : pwOk r
      · rw [hp] at h; simp at h
      · rw [hp, if_pos rfl] at h
        rw [if_pos rfl]
        exact fin_nrm _ _ _ _ h
  · simp at h
theorem fit1_neg {v x c e : Int} (h : Fd.fit1 ⟨false, v, x⟩ = (⟨false, c, e⟩, true)) (hc : 0 < c) : Fd.fit1 ⟨true, v, x⟩ = (⟨true, c, e⟩, true) := by
  unfold Fd.fit1 at h ⊢
  simp only at h ⊢
  by_cases hv : v = 0
  · rw [if_pos hv] at h
    have h1 := congrArg (fun p : Fd.D × Bool => p.1.c) h
    simp [Fd.D.z] at h1
    omega
  · rw [if_neg hv] at h ⊢
    generalize Fd.grow1 (Fd.strip1 v x).1 (Fd.strip1 v x).2 = g at *
    cases hk : Fd.vld ⟨false, g.1, g.2⟩
    · rw [hk] at h; simp at h
    · rw [hk, if_pos rfl] at h
      have h1 := congrArg (fun p : Fd.D × Bool => p.1.c) h
      have h2 := congrArg (fun p : Fd.D × Bool => p.1.e) h
      simp only at h1 h2
      have hV := Fd.vld_iff.1 hk
      have hT : Fd.vld ⟨true, g.1, g.2⟩ = true := Fd.vld_iff.2 ⟨hV.1, hV.2.1, hV.2.2.1, hV.2.2.2.1, fun _ => by show 0 < g.1; omega⟩
      rw [hT, if_pos rfl, h1, h2]
/-- P39: what is read is read again off its plain text -/
theorem rr_plain {n : Bool} {c e : Int} (hn : Fd.nrm ⟨n, c, e⟩) {m : Nat} (hm : Fd.placesI ⟨n, c, e⟩ = m) (hm12 : m ≤ 12) :
    rrX (if n then 45 :: ptL (fxA c e m) (fxB c e m) else ptL (fxA c e m) (fxB c e m)) = (⟨n, c, e⟩, true) := by
  have hv : Fd.vld ⟨n, c, e⟩ = true := Fd.vld_iff.2 hn.1
  obtain ⟨v0, v1, v2, v3⟩ := vld_b hv
  obtain ⟨v, x, R⟩ := rd_facts v0 v1 v2 v3 hm12
  have hf : Fd.nrm ⟨false, c, e⟩ := ⟨Fd.vld_iff.1 (vld_false hv), hn.2.1, hn.2.2⟩
  have h1 := R.ft
  rw [pl_fit hv hm, Fd.nd_nrm hf] at h1
  have hl := ptL_len R.ll
  obtain ⟨p1, p2⟩ := rr_pt R.da R.db R.la
  have hF : ∀ neg, rrFin neg false (ptL (fxA c e m) (fxB c e m)) 0 = Fd.fit1 ⟨neg, v, x⟩ := fun neg => by
    rw [fin_pt _ _ _ _ R.da R.la, R.hv, if_neg (by have := R.v0; omega)]
    congr 2
    rw [List.length_append]
    have := R.hx
    simp only [Bool.false_eq_true, if_false]
    omega
  cases n
  · rw [if_neg (by decide)]
    unfold rrX
    rw [if_pos (by omega), p1, hF, h1]
  · rw [if_pos rfl]
    unfold rrX
    rw [if_pos (by rw [List.length_cons]; omega), p2, hF]
    exact fit1_neg h1 (hn.1.2.2.2.2 rfl)
end Go.Proofs.YtebheehjhnaklaaGreatDoor
namespace Go.Proofs.YtebheehjhnaklaaGreatDoor
open Go.RowKit
theorem pick_ofN {W0 : World} {R : Nat} {n : Int} {K K0 : Int} {w : World} (_ : Rd R K0 W0) (h : Rd R K w) (hK : K ≤ 1000) :
    Calls Tryz.prog 70 #[.pointer (some ⟨R, 0, none⟩), .int .i64 n] w fun r w' => (∃ x, r = .returned (.int .i64 x) ∧ 0 ≤ x ∧ (1 ≤ n → x < n)) ∧ Rd R (K + 1) w' ∧ Kp R w.heap.size w w' := pick_any R n K w h hK
theorem of_pf (p : ByteArray → Prop) {W0 : World} {R b len cap : Nat} {K : Int} {w : World} (_ : Rd R K W0) (h : Rd R K w) (hK : K ≤ 1000) (hn : b ≠ R) (hl : TextsP p b len w) (h1 : 1 ≤ len) :
    Calls Tryz.prog 72 #[.pointer (some ⟨R, 0, none⟩), .slice (some ⟨b, 0, none⟩) len cap] w fun r w' => (∃ y, r = .returned (.string y) ∧ p y) ∧ Rd R (K + 1) w' ∧ Kp R w.heap.size w w' := of_p p R b len cap K w h hK hn hl h1
set_option maxRecDepth 100000 in
set_option maxHeartbeats 8000000 in
theorem mutate_any (R : Nat) (K : Int) (s : ByteArray) (w : World) (h : Rd R K w) (hK : K ≤ 900) (hs : s.size ≤ 1000) :
    Calls Tryz.prog 71 #[.pointer (some ⟨R, 0, none⟩), .string s] w fun r w' => (∃ t : ByteArray, r = .returned (.string t) ∧ t.size ≤ s.size + 1) ∧ Rd R (K + 8) w' ∧ Kp R w.heap.size w w' := by
  have hR1 := h.1
  have hr := h
  have hkM := Kp.refl R w.heap.size w
  go_enter Tryz.func71, Tryz.ntmps71
  go_wp2_with (first | (go_at_call 70; (fail_if_success (have kT := xa)); (with_reducible refine Calls.mono (pick_ofN hr (by repeat (first | with_reducible assumption | with_reducible refine Rd.up ?_ _ | with_reducible refine Rd.drew ?_ | with_reducible refine Rd.set ?_ (by first | omega | (simp; done) | (simp <;> omega)) _)) ?_) ?_); omega; rintro r w1 ⟨⟨xa, rfl, xa_0, xa_1⟩, hrN, hk⟩; have hkN : Kp R w.heap.size w w1 := Kp.step (by repeat (first | with_reducible assumption | with_reducible exact Kp.refl _ _ _ | with_reducible refine Kp.up ?_ (by first | omega | (simp; done) | (simp <;> omega)) _ | with_reducible refine Kp.set ?_ (by first | omega | (simp; done) | (simp <;> omega)) _ _ | with_reducible refine Kp.drew ?_)) hk; clear hr hkM hk; have hr := hrN; have hkM := hkN; clear hrN hkN; have hR1 := hr.1; have hszM := hkM.size) | (go_at_call 70; (fail_if_success (have kT := xb)); (with_reducible refine Calls.mono (pick_ofN hr (by repeat (first | with_reducible assumption | with_reducible refine Rd.up ?_ _ | with_reducible refine Rd.drew ?_ | with_reducible refine Rd.set ?_ (by first | omega | (simp; done) | (simp <;> omega)) _)) ?_) ?_); omega; rintro r w1 ⟨⟨xb, rfl, xb_0, xb_1⟩, hrN, hk⟩; have hkN : Kp R w.heap.size w w1 := Kp.step (by repeat (first | with_reducible assumption | with_reducible exact Kp.refl _ _ _ | with_reducible refine Kp.up ?_ (by first | omega | (simp; done) | (simp <;> omega)) _ | with_reducible refine Kp.set ?_ (by first | omega | (simp; done) | (simp <;> omega)) _ _ | with_reducible refine Kp.drew ?_)) hk; clear hr hkM hk; have hr := hrN; have hkM := hkN; clear hrN hkN; have hR1 := hr.1; have hszM := hkM.size) | (go_at_call 72; (with_reducible refine Calls.mono (of_pf (fun t => t.size = 1) hr (by repeat (first | with_reducible assumption | with_reducible refine Rd.up ?_ _ | with_reducible refine Rd.drew ?_ | with_reducible refine Rd.set ?_ (by first | omega | (simp; done) | (simp <;> omega)) _)) ?_ ?_ ?_ ?_) ?_); omega; (first | omega | (simp; omega)); refine TextsP.new (fun t => t.size = 1) _ _ _ 4 ?_ rfl; (repeat (first | exact mem_nil | refine mem_one (by decide) ?_)); omega; rintro r w1 ⟨⟨tb, rfl, tb_p⟩, hrN, hk⟩; have hkN : Kp R w.heap.size w w1 := Kp.step (by repeat (first | with_reducible assumption | with_reducible exact Kp.refl _ _ _ | with_reducible refine Kp.up ?_ (by first | omega | (simp; done) | (simp <;> omega)) _ | with_reducible refine Kp.set ?_ (by first | omega | (simp; done) | (simp <;> omega)) _ _ | with_reducible refine Kp.drew ?_)) hk; clear hr hkM hk; have hr := hrN; have hkM := hkN; clear hrN hkN; have hR1 := hr.1; have hszM := hkM.size))
  all_goals (first | (go_ret; refine ⟨⟨_, rfl, ?_⟩, Rd.mono (by repeat (first | with_reducible assumption | with_reducible refine Rd.up ?_ _ | with_reducible refine Rd.drew ?_ | with_reducible refine Rd.set ?_ (by first | omega | (simp; done) | (simp <;> omega)) _)) (by omega), (by repeat (first | with_reducible assumption | with_reducible exact Kp.refl _ _ _ | with_reducible refine Kp.up ?_ (by first | omega | (simp; done) | (simp <;> omega)) _ | with_reducible refine Kp.set ?_ (by first | omega | (simp; done) | (simp <;> omega)) _ _ | with_reducible refine Kp.drew ?_))⟩; (first | omega | (simp only [ByteArray.size_append, ByteArray.size_extract]; omega))) | skip)
  all_goals (
    obtain ⟨k, rfl⟩ := Int.eq_ofNat_of_zero_le xa_0
    have i0 : k < s.size := by omega
    have i1 : (k : Int) + 1 ≤ s.size := by omega
    have i2 : (k : Int) ≤ s.size := by omega
    have e1 : (s.extract 0 k).size = k := by rw [ByteArray.size_extract]; omega
    have e2 : (s.extract (k + 1) s.size).size = s.size - (k + 1) := by rw [ByteArray.size_extract]; omega
    have wr : IntKind.i64.wrap ((k : Int) + 1) = (k : Int) + 1 := by rw [IntKind.wrap_i64]; omega
    have q1 : ¬ (9223372036854775807 < k + 1) := by omega
    have q2 : ¬ (9223372036854775807 < k + 1 + (s.size - (k + 1))) := by omega
    have q3 : ¬ (9223372036854775807 < min k s.size + 1) := by omega
    have q4 : ¬ (9223372036854775807 < min k s.size + 1 + (s.size - (k + 1))) := by omega
    clear xa_1
    go_region_with ((go_at_call 72; (with_reducible refine Calls.mono (of_pf (fun t => t.size = 1) hr (by repeat (first | with_reducible assumption | with_reducible refine Rd.up ?_ _ | with_reducible refine Rd.drew ?_ | with_reducible refine Rd.set ?_ (by first | omega | (simp; done) | (simp <;> omega)) _)) ?_ ?_ ?_ ?_) ?_); omega; (first | omega | (simp; omega)); refine TextsP.new (fun t => t.size = 1) _ _ _ 10 ?_ rfl; (repeat (first | exact mem_nil | refine mem_one (by decide) ?_)); omega; rintro r w1 ⟨⟨ta, rfl, ta_p⟩, hrN, hk⟩; have hkN : Kp R w.heap.size w w1 := Kp.step (by repeat (first | with_reducible assumption | with_reducible exact Kp.refl _ _ _ | with_reducible refine Kp.up ?_ (by first | omega | (simp; done) | (simp <;> omega)) _ | with_reducible refine Kp.set ?_ (by first | omega | (simp; done) | (simp <;> omega)) _ _ | with_reducible refine Kp.drew ?_)) hk; clear hr hkM hk; have hr := hrN; have hkM := hkN; clear hrN hkN; have hR1 := hr.1; have hszM := hkM.size))
    all_goals go_wp2
    all_goals go_ret
    all_goals refine ⟨⟨_, rfl, ?_⟩, Rd.mono (by repeat (first | with_reducible assumption | with_reducible refine Rd.up ?_ _ | with_reducible refine Rd.drew ?_ | with_reducible refine Rd.set ?_ (by first | omega | (simp; done) | (simp <;> omega)) _)) (by omega), (by repeat (first | with_reducible assumption | with_reducible exact Kp.refl _ _ _ | with_reducible refine Kp.up ?_ (by first | omega | (simp; done) | (simp <;> omega)) _ | with_reducible refine Kp.set ?_ (by first | omega | (simp; done) | (simp <;> omega)) _ _ | with_reducible refine Kp.drew ?_))⟩
    all_goals (rw [ByteArray.size_append, ByteArray.size_append, e1, e2]; omega))
theorem mutate_of {W0 : World} {R : Nat} {K K0 : Int} {s : ByteArray} {w : World} (_ : Rd R K0 W0) (h : Rd R K w) (hK : K ≤ 900) (hs : s.size ≤ 1000) :
    Calls Tryz.prog 71 #[.pointer (some ⟨R, 0, none⟩), .string s] w fun r w' => (∃ t : ByteArray, r = .returned (.string t) ∧ t.size ≤ s.size + 1) ∧ Rd R (K + 8) w' ∧ Kp R w.heap.size w w' := mutate_any R K s w h hK hs
end Go.Proofs.YtebheehjhnaklaaGreatDoor
namespace Go.Proofs.YtebheehjhnaklaaGreatDoor
open Go Go.RowKit
theorem below_end5 {R : Nat} {w wa wb : World} (h : Below w.heap.size w wa) (hk : Kp R wa.heap.size wa wb) (hR : w.heap.size ≤ R) (hR1 : R < wa.heap.size) : Below w.heap.size w wb := below_kp h hk hR (by omega)
theorem pick_of6 {W0 : World} {R : Nat} (n : Int) {K : Int} {w : World} (_ : Rd R K W0) (h : Rd R K w) (hK : K ≤ 1000) :
    Calls Tryz.prog 70 #[.pointer (some ⟨R, 0, none⟩), .int .i64 n] w fun r w' => (∃ x, r = .returned (.int .i64 x) ∧ 0 ≤ x ∧ (1 ≤ n → x < n)) ∧ Rd R (K + 1) w' ∧ Kp R w.heap.size w w' := pick_any R n K w h hK
theorem good_of {W0 : World} {R : Nat} {K : Int} {w : World} (_ : Rd R K W0) (h : Rd R K w) (hK : K ≤ 800) :
    Calls Tryz.prog 69 #[.pointer (some ⟨R, 0, none⟩)] w fun r w' => IsDec r ∧ Rd R (K + 10) w' ∧ Kp R w.heap.size w w' := goodDec_any R K w h (by omega)
theorem spec_of5 {W0 : World} {R : Nat} (k : Int) {K : Int} {w : World} (_ : Rd R K W0) (h : Rd R K w) (hK : K ≤ 800) :
    Calls Tryz.prog 67 #[.pointer (some ⟨R, 0, none⟩), .int .i64 k] w fun r w' => IsSp r ∧ Rd R (K + 20) w' ∧ Kp R w.heap.size w w' := specFor_any R K k w h (by omega)
theorem frS_len (f : ByteArray) (al si : Int) (alt ze : Bool) (gr pr : Int) (t : ByteArray) (n : Bool) (c e : Int) (w : World) :
    Calls Tryz.prog 68 #[.agg #[.string f, .int .i64 al, .int .i64 si, .bool alt, .bool ze, .int .i64 0, .int .i64 gr, .int .i64 pr, .string t], .agg #[.bool n, .int .i64 c, .int .i64 e]] w fun r w' => (∃ R : ByteArray, r = .returned (.string R) ∧ R.size ≤ 600) ∧ Below w.heap.size w w' := by
  obtain ⟨R, _, k2, h0, h1⟩ := FormatReal_both f al si alt ze 0 gr pr t n c e
  have hl : R.size ≤ 600 := by
    cases hg : grB (vSp f al si 0 gr pr t) (suitT al si alt ze gr pr t 1) (Fd.vld ⟨n, c, e⟩)
    · rw [h0 hg]; decide
    · obtain ⟨A, B, T, hA, _, hr⟩ := h1 hg
      rw [hr]
      exact frL_le (by decide) hA.1
  refine (k2 w).mono ?_
  rintro r w1 ⟨rfl, hb⟩
  exact ⟨⟨R, rfl, hl⟩, hb⟩
set_option maxRecDepth 100000 in
set_option maxHeartbeats 8000000 in
theorem DrawReadReal_any (s : Option Addr) (len cap : Nat) (w : World) (h : CodeAt s len w.heap.size w) (hcap : len ≤ cap) :
    Calls Tryz.prog 20 #[.slice s len cap] w fun r w' => (∃ t : ByteArray, r = .returned (.string t)) ∧ Below w.heap.size w w' := by
  go_enter Tryz.func20, Tryz.ntmps20
  go_wp2_with (first | (go_at_call 40; (with_reducible refine Calls.mono (newReader_any _ _ _ _ h hcap) ?_); rintro r wa ⟨R, rfl, hR, hr, hbR⟩; (try simp at hR); have hBa := hbR; have hkM := Kp.refl R wa.heap.size wa; have hRw := hr.1; have hz := hkM.size) | (go_at_call 67; (with_reducible refine Calls.mono (spec_of5 _ hr (by repeat (first | with_reducible assumption | with_reducible refine Rd.up ?_ _ | with_reducible refine Rd.drew ?_ | with_reducible refine Rd.set ?_ (by first | omega | (simp; done) | (simp <;> omega)) _)) ?_) ?_); omega; rintro r wb ⟨⟨f, al, si, alt, ze, wi, gr, pr, t, rfl⟩, hrN, hk⟩; have hkN : Kp R wa.heap.size wa wb := Kp.step (by repeat (first | with_reducible assumption | with_reducible exact Kp.refl _ _ _ | with_reducible refine Kp.up ?_ (by first | omega | (simp; done) | (simp <;> omega)) _ | with_reducible refine Kp.set ?_ (by first | omega | (simp; done) | (simp <;> omega)) _ _ | with_reducible refine Kp.drew ?_ | with_reducible refine Kp.step ?_ (by with_reducible assumption))) hk; clear hr hkM hz hk; have hr := hrN; have hkM := hkN; clear hrN hkN; have hz := hkM.size))
  have zs := C9.new wb (.string f) (.int .i64 al) (.int .i64 si) (.bool alt) (.bool ze) (.int .i64 0) (.int .i64 0) (.int .i64 pr) (.string t) 38
  have hgS : wb.heap.size ≠ R := by omega
  have zz := zs
  obtain ⟨x0, x1, x2, x3, x4, x5, x6, x7, x8, xf, xl⟩ := zz
  go_region_with (first | (go_at_call 69; (with_reducible refine Calls.mono (good_of hr (by repeat (first | with_reducible assumption | with_reducible refine Rd.up ?_ _ | with_reducible refine Rd.drew ?_ | with_reducible refine Rd.set ?_ (by first | omega | (simp; done) | (simp <;> omega)) _)) ?_) ?_); omega; rintro r we ⟨⟨n, c, e, rfl⟩, hrN, hk⟩; have hkN : Kp R wa.heap.size wa we := Kp.step (by repeat (first | with_reducible assumption | with_reducible exact Kp.refl _ _ _ | with_reducible refine Kp.up ?_ (by first | omega | (simp; done) | (simp <;> omega)) _ | with_reducible refine Kp.set ?_ (by first | omega | (simp; done) | (simp <;> omega)) _ _ | with_reducible refine Kp.drew ?_ | with_reducible refine Kp.step ?_ (by with_reducible assumption))) hk; have zsN := C9.kp_of zs (by repeat (first | with_reducible assumption | with_reducible apply C9.up | (with_reducible apply C9.far; (case hn => (first | omega | (simp; omega)))) | with_reducible apply C9.set0 | with_reducible apply C9.set1 | with_reducible apply C9.set2 | with_reducible apply C9.set3 | with_reducible apply C9.set4 | with_reducible apply C9.set5 | with_reducible apply C9.set6 | with_reducible apply C9.set7 | with_reducible apply C9.set8 | with_reducible apply C9.drew)) hk hgS; clear hr hkM hz hk zs x0 x1 x2 x3 x4 x5 x6 x7 x8 xf xl; have hr := hrN; have hkM := hkN; clear hrN hkN; have zs := zsN; clear zsN; have zz := zs; obtain ⟨x0, x1, x2, x3, x4, x5, x6, x7, x8, xf, xl⟩ := zz; have hz := hkM.size) | (go_at_call 68; (with_reducible refine Calls.mono (frS_len _ _ _ _ _ _ _ _ _ _ _ _) ?_); rintro r wf ⟨⟨TX, rfl, hTX⟩, hb⟩; have hrN := Rd.carry (by exact (by repeat (first | with_reducible assumption | with_reducible refine Rd.up ?_ _ | with_reducible refine Rd.drew ?_ | with_reducible refine Rd.set ?_ (by first | omega | (simp; done) | (simp <;> omega)) _))) hb; have hk := Kp.of_below hb (by have := hr.1; simp; omega); have hkN : Kp R wa.heap.size wa wf := Kp.step (by repeat (first | with_reducible assumption | with_reducible exact Kp.refl _ _ _ | with_reducible refine Kp.up ?_ (by first | omega | (simp; done) | (simp <;> omega)) _ | with_reducible refine Kp.set ?_ (by first | omega | (simp; done) | (simp <;> omega)) _ _ | with_reducible refine Kp.drew ?_ | with_reducible refine Kp.step ?_ (by with_reducible assumption))) hk; have zsN := C9.kp_of zs (by repeat (first | with_reducible assumption | with_reducible apply C9.up | (with_reducible apply C9.far; (case hn => (first | omega | (simp; omega)))) | with_reducible apply C9.set0 | with_reducible apply C9.set1 | with_reducible apply C9.set2 | with_reducible apply C9.set3 | with_reducible apply C9.set4 | with_reducible apply C9.set5 | with_reducible apply C9.set6 | with_reducible apply C9.set7 | with_reducible apply C9.set8 | with_reducible apply C9.drew)) hk hgS; clear hr hkM hz hk zs x0 x1 x2 x3 x4 x5 x6 x7 x8 xf xl; have hr := hrN; have hkM := hkN; clear hrN hkN; have zs := zsN; clear zsN; have zz := zs; obtain ⟨x0, x1, x2, x3, x4, x5, x6, x7, x8, xf, xl⟩ := zz; have hz := hkM.size))
  all_goals (
    clear zs x0 x1 x2 x3 x4 x5 x6 x7 x8 xf xl
    go_wp2_with (first | (go_at_call 70; (with_reducible refine Calls.mono (pick_of6 _ hr (by repeat (first | with_reducible assumption | with_reducible refine Rd.up ?_ _ | with_reducible refine Rd.drew ?_ | with_reducible refine Rd.set ?_ (by first | omega | (simp; done) | (simp <;> omega)) _)) ?_) ?_); omega; rintro r wg ⟨⟨kx, rfl, hx0, hx1⟩, hrN, hk⟩; have hkN : Kp R wa.heap.size wa wg := Kp.step (by repeat (first | with_reducible assumption | with_reducible exact Kp.refl _ _ _ | with_reducible refine Kp.up ?_ (by first | omega | (simp; done) | (simp <;> omega)) _ | with_reducible refine Kp.set ?_ (by first | omega | (simp; done) | (simp <;> omega)) _ _ | with_reducible refine Kp.drew ?_ | with_reducible refine Kp.step ?_ (by with_reducible assumption))) hk; clear hr hkM hz hk; have hr := hrN; have hkM := hkN; clear hrN hkN; have hz := hkM.size) | (go_at_call 71; (with_reducible refine Calls.mono (mutate_of hr (by repeat (first | with_reducible assumption | with_reducible refine Rd.up ?_ _ | with_reducible refine Rd.drew ?_ | with_reducible refine Rd.set ?_ (by first | omega | (simp; done) | (simp <;> omega)) _)) ?_ ?_) ?_); omega; omega; rintro r wh ⟨⟨TY, rfl, hTY⟩, hrN, hk⟩; have hkN : Kp R wa.heap.size wa wh := Kp.step (by repeat (first | with_reducible assumption | with_reducible exact Kp.refl _ _ _ | with_reducible refine Kp.up ?_ (by first | omega | (simp; done) | (simp <;> omega)) _ | with_reducible refine Kp.set ?_ (by first | omega | (simp; done) | (simp <;> omega)) _ _ | with_reducible refine Kp.drew ?_ | with_reducible refine Kp.step ?_ (by with_reducible assumption))) hk; clear hr hkM hz hk; have hr := hrN; have hkM := hkN; clear hrN hkN; have hz := hkM.size) | (go_at_call 72; (with_reducible refine Calls.mono (of_pf (fun _ => True) hr (by repeat (first | with_reducible assumption | with_reducible refine Rd.up ?_ _ | with_reducible refine Rd.drew ?_ | with_reducible refine Rd.set ?_ (by first | omega | (simp; done) | (simp <;> omega)) _)) ?_ ?_ ?_ ?_) ?_); omega; (first | omega | (simp; omega)); refine TextsP.new (fun _ => True) _ _ _ 13 ?_ rfl; (repeat (first | exact mem_nil | refine mem_one trivial ?_)); omega; rintro r wh ⟨⟨TY, rfl, hTY⟩, hrN, hk⟩; have hkN : Kp R wa.heap.size wa wh := Kp.step (by repeat (first | with_reducible assumption | with_reducible exact Kp.refl _ _ _ | with_reducible refine Kp.up ?_ (by first | omega | (simp; done) | (simp <;> omega)) _ | with_reducible refine Kp.set ?_ (by first | omega | (simp; done) | (simp <;> omega)) _ _ | with_reducible refine Kp.drew ?_ | with_reducible refine Kp.step ?_ (by with_reducible assumption))) hk; clear hr hkM hz hk; have hr := hrN; have hkM := hkN; clear hrN hkN; have hz := hkM.size))
    all_goals go_ret
    all_goals exact ⟨⟨_, rfl⟩, (by have hB := below_end5 hBa hkM (by omega) hRw; repeat (first | with_reducible exact Below.refl _ _ | with_reducible assumption | with_reducible refine Below.setCell ?_ (by first | omega | (simp; done) | (simp <;> omega)) _ | with_reducible refine below_drewN ?_ _ | with_reducible refine Below.drew ?_ | with_reducible refine Below.alloc ?_ (by first | omega | (simp; done) | (simp <;> omega)) _))⟩)
set_option maxHeartbeats 1000000 in
theorem equalDec_any (n : Bool) (c e : Int) (w : World) :
    Calls Tryz.prog 22 #[.agg #[.bool n, .int .i64 c, .int .i64 e], .agg #[.bool n, .int .i64 c, .int .i64 e]] w fun r w' => r = .returned (.bool true) ∧ Below w.heap.size w w' := by
  have h1 : ∀ b : Bool, (b == b) = true := fun b => by simp
  have h2 : ∀ x : Int, (x == x) = true := fun x => by simp
  go_enter Tryz.func22, Tryz.ntmps22
  go_wp2
  go_ret
  exact ⟨rfl, (by repeat (first | with_reducible exact Below.refl _ _ | with_reducible assumption | with_reducible refine Below.setCell ?_ (by first | omega | (simp; done) | (simp <;> omega)) _ | with_reducible refine below_drewN ?_ _ | with_reducible refine Below.drew ?_ | with_reducible refine Below.alloc ?_ (by first | omega | (simp; done) | (simp <;> omega)) _))⟩
set_option maxRecDepth 100000 in
set_option maxHeartbeats 8000000 in
theorem FnReadReal_law (s : Option Addr) (len cap : Nat) (w : World) (hT : PT w) (hM : HasMax w) (hE : ErV w) (hcode : CodeAt s len w.heap.size w) (hcap : len ≤ cap) :
    Calls Tryz.prog 5 #[.slice s len cap] w fun r w' => r = .returned (.bool true) ∧ Below w.heap.size w w' := by
  by_cases hl : 1048576 < len
  · go_enter Tryz.func5, Tryz.ntmps5
    go_wp2
    go_ret
    exact ⟨rfl, (by repeat (first | with_reducible exact Below.refl _ _ | with_reducible assumption | with_reducible refine Below.setCell ?_ (by first | omega | (simp; done) | (simp <;> omega)) _ | with_reducible refine below_drewN ?_ _ | with_reducible refine Below.drew ?_ | with_reducible refine Below.alloc ?_ (by first | omega | (simp; done) | (simp <;> omega)) _))⟩
  go_enter Tryz.func5, Tryz.ntmps5
  go_wp2_with (go_at_call 20; (with_reducible refine Calls.mono (DrawReadReal_any _ _ _ _ hcode hcap) ?_); rintro r w1 ⟨⟨t, rfl⟩, hB⟩; have hz := hB.size)
  obtain ⟨T, rfl⟩ : ∃ T : List UInt8, t = ⟨T.toArray⟩ := ⟨t.data.toList, of_list t⟩
  have k1 := fun W (h : HasMax W) (h2 : ErV W) => ReadReal_any T W h h2
  have k2 := fun W => ReadRealS_any T W
  have hn := rrX_nrm T
  have hXX : ∀ l : List UInt8, (l != l) = false := fun l => by simp
  have hXY : ∀ l : List UInt8, (l == l) = true := fun l => by simp
  generalize rrX T = F at *
  obtain ⟨⟨n, c, e⟩, ok⟩ := F
  dsimp only at k1 k2 hn
  have k3 := fun W => equalDec_any n c e W
  have K1 := Lib.hid k1; have K2 := Lib.hid k2; have K3 := Lib.hid k3; have HN := Lib.hid hn
  clear k1 k2 k3 hn
  go_wp2_with (go_at_call 13; (with_reducible refine Calls.mono (K1.out _ (hM.on hB) (hE.on hB)) ?_); rintro r w2 ⟨rfl, hb⟩; replace hB := hB.trans (hb.mono hB.size); have hz := hB.size)
  have zb := C3.new w2 (.bool n) (.int .i64 c) (.int .i64 e) 24
  replace hB : Below w.heap.size w (w2.alloc (.cells #[.bool n, .int .i64 c, .int .i64 e] 24)) := hB.alloc (by omega) _
  with_reducible refine Calls.mono (K2.out _) ?_
  rintro r w3 ⟨rfl, hb⟩
  replace hB := hB.trans (hb.mono hB.size); have hz := hB.size; have hz2 := hb.size; (try clear x0 x1 x2 x3 x4 x5 x6); replace zb := C3.carry zb hb; have zz := zb; obtain ⟨x0, x1, x2, x3, x4, x5, x6⟩ := zz
  cases ok
  · clear HN
    go_wp2_with (first | ((fail_if_success (have tt := tokE)); go_at_call 22; (with_reducible refine Calls.mono (K3.out _) ?_); rintro r w4 ⟨rfl, hb⟩; have zc := C3.new w3 (.bool n) (.int .i64 c) (.int .i64 e) 24; replace zb := zb.up (.cells #[.bool n, .int .i64 c, .int .i64 e] 24); replace hB : Below w.heap.size w (w3.alloc (.cells #[.bool n, .int .i64 c, .int .i64 e] 24)) := hB.alloc (by omega) _; have tokE := hb; replace hB := hB.trans (hb.mono hB.size); have hz := hB.size; have hz2 := hb.size; (try clear x0 x1 x2 x3 x4 x5 x6); replace zb := C3.carry zb hb; have zz := zb; obtain ⟨x0, x1, x2, x3, x4, x5, x6⟩ := zz; (try clear y0 y1 y2 y3 y4 y5 y6); replace zc := C3.carry zc hb; have zz := zc; obtain ⟨y0, y1, y2, y3, y4, y5, y6⟩ := zz) | (go_at_call 22; (with_reducible refine Calls.mono (K3.out _) ?_); rintro r w5 ⟨rfl, hb⟩; replace hB := hB.trans (hb.mono hB.size)))
    all_goals go_ret
    all_goals exact ⟨rfl, hB⟩
  · have hnr := HN.out rfl
    have hv : Fd.vld ⟨n, c, e⟩ = true := Fd.vld_iff.2 hnr.1
    obtain ⟨m, hm⟩ := pl_facts hv
    have hpl := hm.pl
    have hmb := hm.mb
    have hw : plainW n c e = ⟨(ptL (fxA c e m) (fxB c e m)).toArray⟩ := by unfold plainW; rw [hv, hpl]; rfl
    have k4 := fun W (h : PT W) => PlainText_any n c e W h
    rw [hw] at k4
    have k5 := fun W (h : HasMax W) (h2 : ErV W) => ReadReal_any (if n then 45 :: ptL (fxA c e m) (fxB c e m) else ptL (fxA c e m) (fxB c e m)) W h h2
    rw [rr_plain hnr hpl hmb] at k5
    dsimp only at k5
    have k6 := fun W => NormalDec_any n c e W
    rw [Fd.nd_nrm hnr] at k6
    dsimp only at k6
    obtain ⟨v0, v1, v2, v3⟩ := vld_b hv
    obtain ⟨v, x, R⟩ := rd_facts v0 v1 v2 v3 hmb
    have hll := ptL_len R.ll
    clear hw hm hpl hv hnr HN R hmb
    generalize ptL (fxA c e m) (fxB c e m) = PL at *
    have c1 := cat_lN [45] PL
    have q1 : ¬ (9223372036854775807 < 1 + PL.length) := by omega
    have q2 : ¬ (9223372036854775807 < PL.length + 1) := by omega
    have hXB : ∀ b : Bool, (b == b) = true := fun b => by simp
    have hXI : ∀ x : Int, (x == x) = true := fun x => by simp
    cases n
    · have k5' := k5
      first | rw [if_neg (by decide)] at k5' | rw [if_pos rfl] at k5'
      have K4 := Lib.hid k4; have K5 := Lib.hid k5'; have K6 := Lib.hid k6
      clear k4 k5 k5' k6
      go_wp2_with (first | ((fail_if_success (have tt := tokE)); go_at_call 22; (with_reducible refine Calls.mono (K3.out _) ?_); rintro r w4 ⟨rfl, hb⟩; have zc := C3.new w3 (.bool false) (.int .i64 c) (.int .i64 e) 24; replace zb := zb.up (.cells #[.bool false, .int .i64 c, .int .i64 e] 24); replace hB : Below w.heap.size w (w3.alloc (.cells #[.bool false, .int .i64 c, .int .i64 e] 24)) := hB.alloc (by omega) _; have tokE := hb; replace hB := hB.trans (hb.mono hB.size); have hz := hB.size; have hz2 := hb.size; (try clear x0 x1 x2 x3 x4 x5 x6); replace zb := C3.carry zb hb; have zz := zb; obtain ⟨x0, x1, x2, x3, x4, x5, x6⟩ := zz; (try clear y0 y1 y2 y3 y4 y5 y6); replace zc := C3.carry zc hb; have zz := zc; obtain ⟨y0, y1, y2, y3, y4, y5, y6⟩ := zz) | (go_at_call 23; (with_reducible refine Calls.mono (K4.out _ (hT.on hB)) ?_); rintro r w5 ⟨rfl, hb⟩; replace hB := hB.trans (hb.mono hB.size); have hz := hB.size; have hz2 := hb.size; (try clear x0 x1 x2 x3 x4 x5 x6); replace zb := C3.carry zb hb; have zz := zb; obtain ⟨x0, x1, x2, x3, x4, x5, x6⟩ := zz; (try clear y0 y1 y2 y3 y4 y5 y6); replace zc := C3.carry zc hb; have zz := zc; obtain ⟨y0, y1, y2, y3, y4, y5, y6⟩ := zz) | (go_at_call 13; (with_reducible refine Calls.mono (K5.out _ (hM.on hB) (hE.on hB)) ?_); rintro r w6 ⟨rfl, hb⟩; replace hB := hB.trans (hb.mono hB.size); have hz := hB.size; have hz2 := hb.size; (try clear x0 x1 x2 x3 x4 x5 x6); replace zb := C3.carry zb hb; have zz := zb; obtain ⟨x0, x1, x2, x3, x4, x5, x6⟩ := zz; (try clear y0 y1 y2 y3 y4 y5 y6); replace zc := C3.carry zc hb; have zz := zc; obtain ⟨y0, y1, y2, y3, y4, y5, y6⟩ := zz))
      have zg := C3.new w6 (.bool false) (.int .i64 c) (.int .i64 e) 24
      replace zb := zb.up (.cells #[.bool false, .int .i64 c, .int .i64 e] 24)
      replace hB : Below w.heap.size w (w6.alloc (.cells #[.bool false, .int .i64 c, .int .i64 e] 24)) := hB.alloc (by omega) _
      clear x0 x1 x2 x3 x4 x5 x6 y0 y1 y2 y3 y4 y5 y6
      obtain ⟨szb0, szb1, szb2⟩ := C3.since zb
      obtain ⟨szg0, szg1, szg2⟩ := C3.since zg
      refine wp_region_since (by kernel_rfl) (by kernel_rfl) ?_
      repeat (quiet_step (first | (go_at_call 24; with_reducible exact Calls.since_of (K6.out _))))
      refine wpQuiet_nil ?_
      intro w_ hw_
      obtain ⟨⟨w1, hb⟩, hw2⟩ := hw_
      have hw3 : w1 = w_ := hw2.symm
      clear hw2
      subst hw3
      clear szb0 szb1 szb2 szg0 szg1 szg2
      replace hB := hB.trans (hb.mono hB.size)
      have hz := hb.size
      replace zb := C3.carry zb hb
      have zz := zb
      obtain ⟨x0, x1, x2, x3, x4, x5, x6⟩ := zz
      replace zg := C3.carry zg hb
      have zz := zg
      obtain ⟨x0, x1, x2, x3, x4, x5, x6⟩ := zz
      go_wp2
      all_goals go_ret
      all_goals exact ⟨rfl, hB⟩
    · have k5' := k5
      first | rw [if_neg (by decide)] at k5' | rw [if_pos rfl] at k5'
      have K4 := Lib.hid k4; have K5 := Lib.hid k5'; have K6 := Lib.hid k6
      clear k4 k5 k5' k6
      go_wp2_with (first | ((fail_if_success (have tt := tokE)); go_at_call 22; (with_reducible refine Calls.mono (K3.out _) ?_); rintro r w4 ⟨rfl, hb⟩; have zc := C3.new w3 (.bool true) (.int .i64 c) (.int .i64 e) 24; replace zb := zb.up (.cells #[.bool true, .int .i64 c, .int .i64 e] 24); replace hB : Below w.heap.size w (w3.alloc (.cells #[.bool true, .int .i64 c, .int .i64 e] 24)) := hB.alloc (by omega) _; have tokE := hb; replace hB := hB.trans (hb.mono hB.size); have hz := hB.size; have hz2 := hb.size; (try clear x0 x1 x2 x3 x4 x5 x6); replace zb := C3.carry zb hb; have zz := zb; obtain ⟨x0, x1, x2, x3, x4, x5, x6⟩ := zz; (try clear y0 y1 y2 y3 y4 y5 y6); replace zc := C3.carry zc hb; have zz := zc; obtain ⟨y0, y1, y2, y3, y4, y5, y6⟩ := zz) | (go_at_call 23; (with_reducible refine Calls.mono (K4.out _ (hT.on hB)) ?_); rintro r w5 ⟨rfl, hb⟩; replace hB := hB.trans (hb.mono hB.size); have hz := hB.size; have hz2 := hb.size; (try clear x0 x1 x2 x3 x4 x5 x6); replace zb := C3.carry zb hb; have zz := zb; obtain ⟨x0, x1, x2, x3, x4, x5, x6⟩ := zz; (try clear y0 y1 y2 y3 y4 y5 y6); replace zc := C3.carry zc hb; have zz := zc; obtain ⟨y0, y1, y2, y3, y4, y5, y6⟩ := zz) | (go_at_call 13; (with_reducible refine Calls.mono (K5.out _ (hM.on hB) (hE.on hB)) ?_); rintro r w6 ⟨rfl, hb⟩; replace hB := hB.trans (hb.mono hB.size); have hz := hB.size; have hz2 := hb.size; (try clear x0 x1 x2 x3 x4 x5 x6); replace zb := C3.carry zb hb; have zz := zb; obtain ⟨x0, x1, x2, x3, x4, x5, x6⟩ := zz; (try clear y0 y1 y2 y3 y4 y5 y6); replace zc := C3.carry zc hb; have zz := zc; obtain ⟨y0, y1, y2, y3, y4, y5, y6⟩ := zz))
      have zg := C3.new w6 (.bool true) (.int .i64 c) (.int .i64 e) 24
      replace zb := zb.up (.cells #[.bool true, .int .i64 c, .int .i64 e] 24)
      replace hB : Below w.heap.size w (w6.alloc (.cells #[.bool true, .int .i64 c, .int .i64 e] 24)) := hB.alloc (by omega) _
      clear x0 x1 x2 x3 x4 x5 x6 y0 y1 y2 y3 y4 y5 y6
      obtain ⟨szb0, szb1, szb2⟩ := C3.since zb
      obtain ⟨szg0, szg1, szg2⟩ := C3.since zg
      refine wp_region_since (by kernel_rfl) (by kernel_rfl) ?_
      repeat (quiet_step (first | (go_at_call 24; with_reducible exact Calls.since_of (K6.out _))))
      refine wpQuiet_nil ?_
      intro w_ hw_
      obtain ⟨⟨w1, hb⟩, hw2⟩ := hw_
      have hw3 : w1 = w_ := hw2.symm
      clear hw2
      subst hw3
      clear szb0 szb1 szb2 szg0 szg1 szg2
      replace hB := hB.trans (hb.mono hB.size)
      have hz := hb.size
      replace zb := C3.carry zb hb
      have zz := zb
      obtain ⟨x0, x1, x2, x3, x4, x5, x6⟩ := zz
      replace zg := C3.carry zg hb
      have zz := zg
      obtain ⟨x0, x1, x2, x3, x4, x5, x6⟩ := zz
      go_wp2
      all_goals go_ret
      all_goals exact ⟨rfl, hB⟩
end Go.Proofs.YtebheehjhnaklaaGreatDoor
