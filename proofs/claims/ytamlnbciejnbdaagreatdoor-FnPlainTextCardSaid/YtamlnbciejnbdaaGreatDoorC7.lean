import Derived.Test.YtamlnbciejnbdaaGreatDoorC6
namespace Go.Proofs.YtamlnbciejnbdaaGreatDoor
open Go.RowKit
set_option maxHeartbeats 400000 in
theorem lead_any (n : Bool) (c e : Int) (w : World) (h1 : c ≤ 999999999) (h2 : -24 ≤ e) (h3 : e ≤ 24) :
    Calls Tryz.prog 154 #[.agg #[.bool n, .int .i64 c, .int .i64 e]] w fun r w' => r = .returned (.int .i64 (Fd.size ⟨n, c, e⟩ - 1)) ∧ Below w.heap.size w w' := by
  have hd0 := Fd.dc_nonneg c
  have hd := Fd.dc_le9 h1
  have hw1 : IntKind.i64.wrap (Fd.dc c + e) = Fd.dc c + e := IntWalk.i64_in _ (by omega)
  have hw2 : IntKind.i64.wrap (Fd.dc c + e - 1) = Fd.dc c + e - 1 := IntWalk.i64_in _ (by omega)
  go_enter Tryz.func154, Tryz.ntmps154
  go_wp2
  have hB : Below w.heap.size w (w.alloc (.cells #[.bool n, .int .i64 c, .int .i64 e] 24)) := (by repeat (first | with_reducible exact Below.refl _ _ | with_reducible assumption | with_reducible refine Below.setCell ?_ (by first | omega | (simp; done) | (simp <;> omega)) _ | with_reducible refine below_drewN ?_ _ | with_reducible refine Below.drew ?_ | with_reducible refine Below.alloc ?_ (by first | omega | (simp; done) | (simp <;> omega)) _))
  generalize hW : (w.alloc (.cells #[.bool n, .int .i64 c, .int .i64 e] 24)) = W at hB ⊢
  have hcW : ∀ b o, W.cell? ⟨b, o, none⟩ = (w.alloc (.cells #[.bool n, .int .i64 c, .int .i64 e] 24)).cell? ⟨b, o, none⟩ := fun _ _ => by rw [hW]
  have hfW : ∀ b o, W.frozen? ⟨b, o, none⟩ = (w.alloc (.cells #[.bool n, .int .i64 c, .int .i64 e] 24)).frozen? ⟨b, o, none⟩ := fun _ _ => by rw [hW]
  have hzW : W.heap.size = (w.alloc (.cells #[.bool n, .int .i64 c, .int .i64 e] 24)).heap.size := by rw [hW]
  simp at hzW
  clear hW
  have hS0 : (∀ b o, b < W.heap.size → W.cell? ⟨b, o, none⟩ = W.cell? ⟨b, o, none⟩) ∧ Below W.heap.size W W := ⟨fun _ _ _ => rfl, Below.refl _ _⟩; go_region_held3 (fun w_ => (∀ b o, b < W.heap.size → w_.cell? ⟨b, o, none⟩ = W.cell? ⟨b, o, none⟩) ∧ Below W.heap.size W w_) (repeat (first | with_reducible assumption | with_reducible refine keepD ?_ | with_reducible refine keepL ?_ _ | with_reducible refine keepS ?_ (by first | omega | (simp; done) | (simp <;> omega)) _ | with_reducible exact keepA (by with_reducible assumption) hb)) (first | (go_at_call 63; (with_reducible refine Calls.mono (digits_any _ _ _ _ h1) ?_); rintro r w1 ⟨rfl, hb⟩; obtain ⟨hc, hf⟩ := bcell hb; have hz := hb.size; have hm := bmono hb; (try simp at hz); (try simp at hm); (try have hm2 := bmono2 (by with_reducible assumption) hb); have hS1 := keepA (by with_reducible assumption) hb; have hzS := hS1.2.size; (try have hq0 : W.heap.size < w1.heap.size := by omega); (try have hq1 : W.heap.size + 1 < w1.heap.size := by omega); (try have hq2 := Nat.lt_of_succ_le hz)))
  obtain ⟨hc, hb⟩ := ‹(∀ b o, b < W.heap.size → World.cell? _ ⟨b, o, none⟩ = W.cell? ⟨b, o, none⟩) ∧ Below W.heap.size W _›; have hf := (bcell hb).2; have hB := Below.trans hB (hb.mono (by omega)); have hz := hb.size; (try have hza := Nat.lt_of_lt_of_le (show w.heap.size < W.heap.size by omega) hb.size); (try have hzb := Nat.lt_of_lt_of_le (show w.heap.size + 1 < W.heap.size by omega) hb.size); (try have hzd := Nat.lt_of_lt_of_le (show w.heap.size + 1 + 1 < W.heap.size by omega) hb.size)
  go_wp2
  go_ret
  exact ⟨ret_int (by rfl), by assumption⟩

theorem fld0 (x y z : Value) (w : World) : (Instr.field 24 (.agg #[x, y, z]) 0).run Tryz.prog w = .ok x w := by kernel_rfl
theorem fld1 (x y z : Value) (w : World) : (Instr.field 24 (.agg #[x, y, z]) 1).run Tryz.prog w = .ok y w := by kernel_rfl
theorem fld2 (x y z : Value) (w : World) : (Instr.field 24 (.agg #[x, y, z]) 2).run Tryz.prog w = .ok z w := by kernel_rfl

set_option maxHeartbeats 400000 in
theorem PlacesOf_any (n : Bool) (c e : Int) (w : World) :
    Calls Tryz.prog 27 #[.agg #[.bool n, .int .i64 c, .int .i64 e]] w fun r w' => r = .returned (.int .i64 (Fd.placesI ⟨n, c, e⟩)) ∧ Below w.heap.size w w' := by
  cases hv : Fd.vld ⟨n, c, e⟩
  · have HF : Hid (Fd.placesI ⟨n, c, e⟩ = -1) := Lib.hid (by unfold Fd.placesI; rw [hv]; rfl)
    go_enter Tryz.func27, Tryz.ntmps27
    go_wp2_with (go_at_call 56; refine (valid_any _ _ _ _).mono ?_; rintro r w1 ⟨rfl, hb⟩; obtain ⟨hc, hf⟩ := bcell hb; have hB : Below w.heap.size w w1 := (by refine Below.trans ?_ (hb.mono (by first | omega | (simp; done) | (simp <;> omega))); repeat (first | with_reducible exact Below.refl _ _ | with_reducible assumption | with_reducible refine Below.setCell ?_ (by first | omega | (simp; done) | (simp <;> omega)) _ | with_reducible refine below_drewN ?_ _ | with_reducible refine Below.drew ?_ | with_reducible refine Below.alloc ?_ (by first | omega | (simp; done) | (simp <;> omega)) _)); have hz := hb.size; (try simp at hz); (try have hz0 : w.heap.size < w1.heap.size := by omega); (try have hz1 : w.heap.size + 1 < w1.heap.size := by omega); (try have hz2 : w.heap.size + 1 + 1 < w1.heap.size := by omega))
    go_ret
    exact ⟨ret_int (by rw [HF.out]), (by repeat (first | with_reducible exact Below.refl _ _ | with_reducible assumption | with_reducible refine Below.setCell ?_ (by first | omega | (simp; done) | (simp <;> omega)) _ | with_reducible refine below_drewN ?_ _ | with_reducible refine Below.drew ?_ | with_reducible refine Below.alloc ?_ (by first | omega | (simp; done) | (simp <;> omega)) _))⟩
  · have HF : Hid (Fd.placesI ⟨n, c, e⟩ = max 0 (- (Fd.nd ⟨n, c, e⟩).e)) := Lib.hid (by unfold Fd.placesI; rw [hv]; rfl)
    obtain ⟨b1, b2, b3, b4, _⟩ := Fd.nd_valid ⟨n, c, e⟩
    have hfl := fld2
    go_enter Tryz.func27, Tryz.ntmps27
    go_wp2_with (first | (go_at_call 56; refine (valid_any _ _ _ _).mono ?_; rintro r w1 ⟨rfl, hb⟩; obtain ⟨hc, hf⟩ := bcell hb; have hB : Below w.heap.size w w1 := (by refine Below.trans ?_ (hb.mono (by first | omega | (simp; done) | (simp <;> omega))); repeat (first | with_reducible exact Below.refl _ _ | with_reducible assumption | with_reducible refine Below.setCell ?_ (by first | omega | (simp; done) | (simp <;> omega)) _ | with_reducible refine below_drewN ?_ _ | with_reducible refine Below.drew ?_ | with_reducible refine Below.alloc ?_ (by first | omega | (simp; done) | (simp <;> omega)) _)); have hz := hb.size; (try simp at hz); (try have hz0 : w.heap.size < w1.heap.size := by omega); (try have hz1 : w.heap.size + 1 < w1.heap.size := by omega); (try have hz2 : w.heap.size + 1 + 1 < w1.heap.size := by omega)) | (go_at_call 28; refine (NormalDec_any _ _ _ _).mono ?_; rintro r w1 ⟨rfl, hb⟩; obtain ⟨hc, hf⟩ := bcell hb; have hB : Below w.heap.size w w1 := (by refine Below.trans ?_ (hb.mono (by first | omega | (simp; done) | (simp <;> omega))); repeat (first | with_reducible exact Below.refl _ _ | with_reducible assumption | with_reducible refine Below.setCell ?_ (by first | omega | (simp; done) | (simp <;> omega)) _ | with_reducible refine below_drewN ?_ _ | with_reducible refine Below.drew ?_ | with_reducible refine Below.alloc ?_ (by first | omega | (simp; done) | (simp <;> omega)) _)); have hz := hb.size; (try simp at hz); (try have hz0 : w.heap.size < w1.heap.size := by omega); (try have hz1 : w.heap.size + 1 < w1.heap.size := by omega); (try have hz2 : w.heap.size + 1 + 1 < w1.heap.size := by omega)))
    all_goals go_ret
    all_goals exact ⟨ret_int (by first | (rw [HF.out]; done) | (rw [HF.out]; omega)), (by repeat (first | with_reducible exact Below.refl _ _ | with_reducible assumption | with_reducible refine Below.setCell ?_ (by first | omega | (simp; done) | (simp <;> omega)) _ | with_reducible refine below_drewN ?_ _ | with_reducible refine Below.drew ?_ | with_reducible refine Below.alloc ?_ (by first | omega | (simp; done) | (simp <;> omega)) _))⟩

end Go.Proofs.YtamlnbciejnbdaaGreatDoor
