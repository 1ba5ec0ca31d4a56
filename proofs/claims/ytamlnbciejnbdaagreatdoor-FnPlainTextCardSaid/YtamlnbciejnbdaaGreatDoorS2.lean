import Derived.Test.YtamlnbciejnbdaaGreatDoorS1
namespace Go.Proofs.YtamlnbciejnbdaaGreatDoor
open Go.RowKit
set_option maxHeartbeats 400000 in
theorem sizeS_any (n : Bool) (c e : Int) (w : World) (h1 : c ≤ 999999999) (h2 : -24 ≤ e) (h3 : e ≤ 24) :
    Calls Tryz.prog 110 #[.agg #[.bool n, .int .i64 c, .int .i64 e]] w fun r w' => r = .returned (.int .i64 (Fd.size ⟨n, c, e⟩)) ∧ Below w.heap.size w w' := by
  have hd0 := Fd.dc_nonneg c
  have hd := Fd.dc_le9 h1
  have hw1 : IntKind.i64.wrap (Fd.dc c + e) = Fd.dc c + e := IntWalk.i64_in _ (by omega)
  go_enter Tryz.func110, Tryz.ntmps110
  go_wp2
  have hB : Below w.heap.size w (w.alloc (.cells #[.bool n, .int .i64 c, .int .i64 e] 24)) := (by repeat (first | with_reducible exact Below.refl _ _ | with_reducible assumption | with_reducible refine Below.setCell ?_ (by first | omega | (simp; done) | (simp <;> omega)) _ | with_reducible refine below_drewN ?_ _ | with_reducible refine Below.drew ?_ | with_reducible refine Below.alloc ?_ (by first | omega | (simp; done) | (simp <;> omega)) _))
  generalize hW : (w.alloc (.cells #[.bool n, .int .i64 c, .int .i64 e] 24)) = W at hB ⊢
  have hcW : ∀ b o, W.cell? ⟨b, o, none⟩ = (w.alloc (.cells #[.bool n, .int .i64 c, .int .i64 e] 24)).cell? ⟨b, o, none⟩ := fun _ _ => by rw [hW]
  have hfW : ∀ b o, W.frozen? ⟨b, o, none⟩ = (w.alloc (.cells #[.bool n, .int .i64 c, .int .i64 e] 24)).frozen? ⟨b, o, none⟩ := fun _ _ => by rw [hW]
  have hzW : W.heap.size = (w.alloc (.cells #[.bool n, .int .i64 c, .int .i64 e] 24)).heap.size := by rw [hW]
  simp at hzW
  clear hW
  have hS0 : (∀ b o, b < W.heap.size → W.cell? ⟨b, o, none⟩ = W.cell? ⟨b, o, none⟩) ∧ Below W.heap.size W W := ⟨fun _ _ _ => rfl, Below.refl _ _⟩; go_region_held3 (fun w_ => (∀ b o, b < W.heap.size → w_.cell? ⟨b, o, none⟩ = W.cell? ⟨b, o, none⟩) ∧ Below W.heap.size W w_) (repeat (first | with_reducible assumption | with_reducible refine keepD ?_ | with_reducible refine keepL ?_ _ | with_reducible refine keepS ?_ (by first | omega | (simp; done) | (simp <;> omega)) _ | with_reducible exact keepA (by with_reducible assumption) hb)) (first | (go_at_call 156; refine (digitCount_any _ _ h1).mono ?_; rintro r w1 ⟨rfl, rfl⟩))
  obtain ⟨hc, hb⟩ := ‹(∀ b o, b < W.heap.size → World.cell? _ ⟨b, o, none⟩ = W.cell? ⟨b, o, none⟩) ∧ Below W.heap.size W _›; have hf := (bcell hb).2; have hB := Below.trans hB (hb.mono (by omega)); have hz := hb.size; (try have hza := Nat.lt_of_lt_of_le (show w.heap.size < W.heap.size by omega) hb.size); (try have hzb := Nat.lt_of_lt_of_le (show w.heap.size + 1 < W.heap.size by omega) hb.size); (try have hzd := Nat.lt_of_lt_of_le (show w.heap.size + 1 + 1 < W.heap.size by omega) hb.size)
  go_wp2
  go_ret
  exact ⟨ret_int (by rfl), by assumption⟩

end Go.Proofs.YtamlnbciejnbdaaGreatDoor
