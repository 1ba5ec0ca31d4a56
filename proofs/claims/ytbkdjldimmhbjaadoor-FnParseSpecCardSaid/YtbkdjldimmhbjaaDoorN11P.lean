import Derived.Test.YtbkdjldimmhbjaaDoorR5B
namespace Go.Proofs.YtbkdjldimmhbjaaDoor
open Go.RowKit
theorem pick_ofN {W0 : World} {R : Nat} {n : Int} {K K0 : Int} {w : World} (_ : Rd R K0 W0) (h : Rd R K w) (hK : K ≤ 1000) :
    Calls Tryd.prog 35 #[.pointer (some ⟨R, 0, none⟩), .int .i64 n] w fun r w' => (∃ x, r = .returned (.int .i64 x) ∧ 0 ≤ x ∧ (1 ≤ n → x < n)) ∧ Rd R (K + 1) w' ∧ Kp R w.heap.size w w' := pick_any R n K w h hK
theorem of_pf (p : ByteArray → Prop) {W0 : World} {R b len cap : Nat} {K : Int} {w : World} (_ : Rd R K W0) (h : Rd R K w) (hK : K ≤ 1000) (hn : b ≠ R) (hl : TextsP p b len w) (h1 : 1 ≤ len) :
    Calls Tryd.prog 63 #[.pointer (some ⟨R, 0, none⟩), .slice (some ⟨b, 0, none⟩) len cap] w fun r w' => (∃ y, r = .returned (.string y) ∧ p y) ∧ Rd R (K + 1) w' ∧ Kp R w.heap.size w w' := of_p p R b len cap K w h hK hn hl h1

set_option maxRecDepth 100000 in
set_option maxHeartbeats 8000000 in
theorem mutate_any (R : Nat) (K : Int) (s : ByteArray) (w : World) (h : Rd R K w) (hK : K ≤ 900) (hs : s.size ≤ 100) :
    Calls Tryd.prog 36 #[.pointer (some ⟨R, 0, none⟩), .string s] w fun r w' => (∃ t : ByteArray, r = .returned (.string t) ∧ t.size ≤ s.size + 1) ∧ Rd R (K + 8) w' ∧ Kp R w.heap.size w w' := by
  have hR1 := h.1
  have hr := h
  have hkM := Kp.refl R w.heap.size w
  go_enter Tryd.func36, Tryd.ntmps36
  go_wp2_with (first | (go_at_call 35; (fail_if_success (have kT := xa)); (with_reducible refine Calls.mono (pick_ofN hr (by repeat (first | with_reducible assumption | with_reducible refine Rd.up ?_ _ | with_reducible refine Rd.drew ?_ | with_reducible refine Rd.set ?_ (by first | omega | (simp; done) | (simp <;> omega)) _)) ?_) ?_); omega; rintro r w1 ⟨⟨xa, rfl, xa_0, xa_1⟩, hrN, hk⟩; have hkN : Kp R w.heap.size w w1 := Kp.step (by repeat (first | with_reducible assumption | with_reducible exact Kp.refl _ _ _ | with_reducible refine Kp.up ?_ (by first | omega | (simp; done) | (simp <;> omega)) _ | with_reducible refine Kp.set ?_ (by first | omega | (simp; done) | (simp <;> omega)) _ _ | with_reducible refine Kp.drew ?_)) hk; clear hr hkM hk; have hr := hrN; have hkM := hkN; clear hrN hkN; have hR1 := hr.1; have hszM := hkM.size) | (go_at_call 35; (fail_if_success (have kT := xb)); (with_reducible refine Calls.mono (pick_ofN hr (by repeat (first | with_reducible assumption | with_reducible refine Rd.up ?_ _ | with_reducible refine Rd.drew ?_ | with_reducible refine Rd.set ?_ (by first | omega | (simp; done) | (simp <;> omega)) _)) ?_) ?_); omega; rintro r w1 ⟨⟨xb, rfl, xb_0, xb_1⟩, hrN, hk⟩; have hkN : Kp R w.heap.size w w1 := Kp.step (by repeat (first | with_reducible assumption | with_reducible exact Kp.refl _ _ _ | with_reducible refine Kp.up ?_ (by first | omega | (simp; done) | (simp <;> omega)) _ | with_reducible refine Kp.set ?_ (by first | omega | (simp; done) | (simp <;> omega)) _ _ | with_reducible refine Kp.drew ?_)) hk; clear hr hkM hk; have hr := hrN; have hkM := hkN; clear hrN hkN; have hR1 := hr.1; have hszM := hkM.size) | (go_at_call 63; (with_reducible refine Calls.mono (of_pf (fun t => t.size = 1) hr (by repeat (first | with_reducible assumption | with_reducible refine Rd.up ?_ _ | with_reducible refine Rd.drew ?_ | with_reducible refine Rd.set ?_ (by first | omega | (simp; done) | (simp <;> omega)) _)) ?_ ?_ ?_ ?_) ?_); omega; (first | omega | (simp; omega)); refine TextsP.new (fun t => t.size = 1) _ _ _ 4 ?_ rfl; (repeat (first | exact mem_nil | refine mem_one (by decide) ?_)); omega; rintro r w1 ⟨⟨tb, rfl, tb_p⟩, hrN, hk⟩; have hkN : Kp R w.heap.size w w1 := Kp.step (by repeat (first | with_reducible assumption | with_reducible exact Kp.refl _ _ _ | with_reducible refine Kp.up ?_ (by first | omega | (simp; done) | (simp <;> omega)) _ | with_reducible refine Kp.set ?_ (by first | omega | (simp; done) | (simp <;> omega)) _ _ | with_reducible refine Kp.drew ?_)) hk; clear hr hkM hk; have hr := hrN; have hkM := hkN; clear hrN hkN; have hR1 := hr.1; have hszM := hkM.size))
  all_goals (first | (go_ret; refine ⟨⟨_, rfl, ?_⟩, Rd.mono (by repeat (first | with_reducible assumption | with_reducible refine Rd.up ?_ _ | with_reducible refine Rd.drew ?_ | with_reducible refine Rd.set ?_ (by first | omega | (simp; done) | (simp <;> omega)) _)) (by omega), (by repeat (first | with_reducible assumption | with_reducible exact Kp.refl _ _ _ | with_reducible refine Kp.up ?_ (by first | omega | (simp; done) | (simp <;> omega)) _ | with_reducible refine Kp.set ?_ (by first | omega | (simp; done) | (simp <;> omega)) _ _ | with_reducible refine Kp.drew ?_))⟩; (first | omega | (simp only [ByteArray.size_append, ByteArray.size_extract]; omega))) | skip)
  all_goals (
    obtain ⟨k, rfl⟩ := Int.eq_ofNat_of_zero_le xa_0
    have i0 : k < s.size := by omega
    have i1 : (k : Int) + 1 ≤ s.size := by omega
    have i2 : (k : Int) ≤ s.size := by omega
    have e1 : (s.extract 0 k).size = k := by rw [ByteArray.size_extract]; omega
    have e2 : (s.extract (k + 1) s.size).size = s.size - (k + 1) := by rw [ByteArray.size_extract]; omega
    have wr : IntKind.i64.wrap ((k : Int) + 1) = (k : Int) + 1 := by rw [IntKind.wrap_i64]; omega
    have q1 : ¬ (9223372036854775807 < k + 1) := by omega
    have q2 : ¬ (9223372036854775807 < k + 1 + (s.size - (k + 1))) := by omega
    have q3 : ¬ (9223372036854775807 < min k s.size + 1) := by omega
    have q4 : ¬ (9223372036854775807 < min k s.size + 1 + (s.size - (k + 1))) := by omega
    clear xa_1
    go_region_with ((go_at_call 63; (with_reducible refine Calls.mono (of_pf (fun t => t.size = 1) hr (by repeat (first | with_reducible assumption | with_reducible refine Rd.up ?_ _ | with_reducible refine Rd.drew ?_ | with_reducible refine Rd.set ?_ (by first | omega | (simp; done) | (simp <;> omega)) _)) ?_ ?_ ?_ ?_) ?_); omega; (first | omega | (simp; omega)); refine TextsP.new (fun t => t.size = 1) _ _ _ 10 ?_ rfl; (repeat (first | exact mem_nil | refine mem_one (by decide) ?_)); omega; rintro r w1 ⟨⟨ta, rfl, ta_p⟩, hrN, hk⟩; have hkN : Kp R w.heap.size w w1 := Kp.step (by repeat (first | with_reducible assumption | with_reducible exact Kp.refl _ _ _ | with_reducible refine Kp.up ?_ (by first | omega | (simp; done) | (simp <;> omega)) _ | with_reducible refine Kp.set ?_ (by first | omega | (simp; done) | (simp <;> omega)) _ _ | with_reducible refine Kp.drew ?_)) hk; clear hr hkM hk; have hr := hrN; have hkM := hkN; clear hrN hkN; have hR1 := hr.1; have hszM := hkM.size))
    all_goals go_wp2
    all_goals go_ret
    all_goals refine ⟨⟨_, rfl, ?_⟩, Rd.mono (by repeat (first | with_reducible assumption | with_reducible refine Rd.up ?_ _ | with_reducible refine Rd.drew ?_ | with_reducible refine Rd.set ?_ (by first | omega | (simp; done) | (simp <;> omega)) _)) (by omega), (by repeat (first | with_reducible assumption | with_reducible exact Kp.refl _ _ _ | with_reducible refine Kp.up ?_ (by first | omega | (simp; done) | (simp <;> omega)) _ | with_reducible refine Kp.set ?_ (by first | omega | (simp; done) | (simp <;> omega)) _ _ | with_reducible refine Kp.drew ?_))⟩
    all_goals (rw [ByteArray.size_append, ByteArray.size_append, e1, e2]; omega))
theorem mutate_of {W0 : World} {R : Nat} {K K0 : Int} {s : ByteArray} {w : World} (_ : Rd R K0 W0) (h : Rd R K w) (hK : K ≤ 900) (hs : s.size ≤ 100) :
    Calls Tryd.prog 36 #[.pointer (some ⟨R, 0, none⟩), .string s] w fun r w' => (∃ t : ByteArray, r = .returned (.string t) ∧ t.size ≤ s.size + 1) ∧ Rd R (K + 8) w' ∧ Kp R w.heap.size w w' := mutate_any R K s w h hK hs
end Go.Proofs.YtbkdjldimmhbjaaDoor
