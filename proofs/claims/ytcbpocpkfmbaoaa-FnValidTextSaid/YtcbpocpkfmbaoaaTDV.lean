import Derived.Test.YtcbpocpkfmbaoaaTG
namespace Go.Proofs.Ytcbpocpkfmbaoaa
open Go.RowKit
set_option maxRecDepth 100000 in
set_option maxHeartbeats 4000000 in
theorem DrawValidText_any (s : Option Addr) (len cap : Nat) (w : World) (h : CodeAt s len w.heap.size w) (hcap : len ≤ cap) :
    Calls Try.prog 11 #[.slice s len cap] w fun r w' => (∃ T : ByteArray, r = .returned (.string T) ∧ T.size ≤ 9) ∧ Below w.heap.size w w' := by
  go_enter Try.func11, Try.ntmps11
  go_wp2_with (first | (go_at_call 37; (with_reducible refine Calls.mono (newReader_any _ _ _ _ h hcap) ?_); rintro r wa ⟨R, rfl, hR, hr, hbR⟩; have hkM := Kp.refl R wa.heap.size wa; have hR1 := hr.1; have hszM := hkM.size) | (go_at_call 36; (with_reducible refine Calls.mono (someText_of hr (by repeat (first | with_reducible assumption | with_reducible refine Rd.up ?_ _ | with_reducible refine Rd.drew ?_ | with_reducible refine Rd.set ?_ (by first | omega | (simp; done) | (simp <;> omega)) _)) ?_) ?_); omega; rintro r w1 ⟨⟨T, rfl, hT⟩, hrN, hk⟩; have hkN : Kp R wa.heap.size wa w1 := Kp.step (by repeat (first | with_reducible assumption | with_reducible exact Kp.refl _ _ _ | with_reducible refine Kp.up ?_ (by first | omega | (simp; done) | (simp <;> omega)) _ | with_reducible refine Kp.set ?_ (by first | omega | (simp; done) | (simp <;> omega)) _ _ | with_reducible refine Kp.drew ?_)) hk; clear hr hkM hk; have hr := hrN; have hkM := hkN; clear hrN hkN; have hR1 := hr.1; have hszM := hkM.size))
  all_goals go_ret
  all_goals exact ⟨⟨T, rfl, hT⟩, below_end hbR (by repeat (first | with_reducible assumption | with_reducible exact Kp.refl _ _ _ | with_reducible refine Kp.up ?_ (by first | omega | (simp; done) | (simp <;> omega)) _ | with_reducible refine Kp.set ?_ (by first | omega | (simp; done) | (simp <;> omega)) _ _ | with_reducible refine Kp.drew ?_)) hR (by first | assumption | omega)⟩
end Go.Proofs.Ytcbpocpkfmbaoaa
