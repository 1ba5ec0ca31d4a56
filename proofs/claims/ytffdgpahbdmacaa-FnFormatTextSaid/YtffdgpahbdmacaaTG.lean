import Derived.Test.YtffdgpahbdmacaaN3
import Derived.Test.YtffdgpahbdmacaaTB
import Derived.Deep.DeepCutAuto
import Derived.Deep.Light
import Derived.Handy
namespace Go.Proofs.Ytffdgpahbdmacaa
open Go.RowKit
theorem pick_ofT {W0 : World} {R : Nat} {n : Int} {K K0 : Int} {w : World} (_ : Rd R K0 W0) (h : Rd R K w) (hK : K ≤ 1000) :
    Calls Try.prog 54 #[.pointer (some ⟨R, 0, none⟩), .int .i64 n] w fun r w' => (∃ x, r = .returned (.int .i64 x) ∧ 0 ≤ x ∧ (1 ≤ n → x < n)) ∧ Rd R (K + 1) w' ∧ Kp R w.heap.size w w' := pick_any R n K w h hK
theorem one_pf (p : Int → Prop) {W0 : World} {R b len cap : Nat} {K : Int} {w : World} (_ : Rd R K W0) (h : Rd R K w) (hK : K ≤ 1000) (hn : b ≠ R) (hl : NumsP p b len w) (h1 : 1 ≤ len) :
    Calls Try.prog 43 #[.pointer (some ⟨R, 0, none⟩), .slice (some ⟨b, 0, none⟩) len cap] w fun r w' => (∃ y, r = .returned (.int .i64 y) ∧ p y) ∧ Rd R (K + 1) w' ∧ Kp R w.heap.size w w' := one_p p R b len cap K w h hK hn hl h1
theorem of_pf (p : ByteArray → Prop) {W0 : World} {R b len cap : Nat} {K : Int} {w : World} (_ : Rd R K W0) (h : Rd R K w) (hK : K ≤ 1000) (hn : b ≠ R) (hl : TextsP p b len w) (h1 : 1 ≤ len) :
    Calls Try.prog 74 #[.pointer (some ⟨R, 0, none⟩), .slice (some ⟨b, 0, none⟩) len cap] w fun r w' => (∃ y, r = .returned (.string y) ∧ p y) ∧ Rd R (K + 1) w' ∧ Kp R w.heap.size w w' := of_p p R b len cap K w h hK hn hl h1
theorem below_end {R : Nat} {w wa wb : World} (h : Below w.heap.size w wa) (hk : Kp R wa.heap.size wa wb) (hR : w.heap.size ≤ R) (hR1 : R < wa.heap.size) : Below w.heap.size w wb := below_kp h hk hR (by omega)
theorem memi_oneT {a : Int} {l : List Value} {p : Int → Prop} (ha : p a) (h : ∀ v ∈ l, ∃ y, v = Value.int .i64 y ∧ p y) : ∀ v ∈ (Value.int .i64 a :: l), ∃ y, v = Value.int .i64 y ∧ p y := by
  intro v hv
  rcases List.mem_cons.1 hv with rfl | hv
  · exact ⟨_, rfl, ha⟩
  · exact h v hv
theorem memi_nilT {p : Int → Prop} : ∀ v ∈ ([] : List Value), ∃ y, v = Value.int .i64 y ∧ p y := fun v hv => by cases hv
set_option maxRecDepth 100000 in
set_option maxHeartbeats 4000000 in
theorem goodText_any (R : Nat) (K : Int) (w : World) (h : Rd R K w) (hK : K ≤ 900) :
    Calls Try.prog 81 #[.pointer (some ⟨R, 0, none⟩)] w fun r w' => (∃ T : ByteArray, r = .returned (.string T) ∧ T.size ≤ 9) ∧ Rd R (K + 20) w' ∧ Kp R w.heap.size w w' := by
  have hR := h.1
  go_enter Try.func81, Try.ntmps81
  go_wp2_with (go_at_call 43; (with_reducible refine Calls.mono (one_p (fun y => 0 ≤ y ∧ y ≤ 9) R _ _ _ _ _ (h.up _) ?_ ?_ ?_ ?_) ?_); omega; omega; (refine NumsP.new _ _ _ _ 6 ?_ rfl; (repeat (first | exact memi_nilT | refine memi_oneT (by decide) ?_))); omega; rintro r w1 ⟨⟨n, rfl, hn⟩, hr, hk⟩)
  have hkM : Kp R w.heap.size w w1 := Kp.step (Kp.up (Kp.refl _ _ _) hR _) hk
  clear hk
  go_loopg [3, 4] n.toNat (fun g s3 s4 wr => ∃ (T : ByteArray) (m : Int), s3 = .string T ∧ s4 = .int .i64 m ∧ 0 ≤ m ∧ T.size + m ≤ 9 ∧ Rd R (K + 1 + T.size) wr ∧ Kp R w.heap.size w wr ∧ Aside (g = m.toNat))
  case atStart => exact ⟨⟨#[]⟩, n, rfl, rfl, hn.1, by have := hn.2; show ((0 : Nat) : Int) + n ≤ 9; omega, by show Rd R (K + 1 + ((0 : Nat) : Int)) w1; simpa using hr, hkM, by show _ = _; rfl⟩
  case round =>
    clear hr hkM h
    obtain ⟨T, m, rfl, rfl, hm0, hm1, hr, hkM, hg⟩ := hrel
    have hg' := hg.out
    clear hg
    by_cases hlt : 0 < m
    · have hK2 : K + 1 + T.size ≤ 1000 := by omega
      have hR1 := hr.1
      go_wp2_with (first | (go_at_call 74; (with_reducible refine Calls.mono (of_pf (fun t => t.size = 1) hr (by repeat (first | with_reducible assumption | with_reducible refine Rd.up ?_ _ | with_reducible refine Rd.drew ?_ | with_reducible refine Rd.set ?_ (by first | omega | (simp; done) | (simp <;> omega)) _)) ?_ ?_ ?_ ?_) ?_); omega; (first | omega | (simp; omega)); refine TextsP.new (fun t => t.size = 1) _ _ _ 10 ?_ rfl; (repeat (first | exact mem_nil | refine mem_one (by decide) ?_)); omega; rintro r w1 ⟨⟨ta, rfl, ta_p⟩, hrN, hk⟩; have hkN : Kp R w.heap.size w w1 := Kp.step (by repeat (first | with_reducible assumption | with_reducible exact Kp.refl _ _ _ | with_reducible refine Kp.up ?_ (by first | omega | (simp; done) | (simp <;> omega)) _ | with_reducible refine Kp.set ?_ (by first | omega | (simp; done) | (simp <;> omega)) _ _ | with_reducible refine Kp.drew ?_)) hk; clear hr hkM hk; have hr := hrN; have hkM := hkN; clear hrN hkN; have hR1 := hr.1; have hszM := hkM.size))
      all_goals (try go_region)
      all_goals (try go_wp2)
      go_roundg (m - 1).toNat
      case measure => omega
      case rel => exact ⟨T ++ ta, m - 1, rfl, by go_num, by omega, by rw [ByteArray.size_append, ta_p]; omega, by rw [ByteArray.size_append, ta_p]; exact Rd.mono hr (by omega), hkM, rfl⟩
    · go_wp2
      go_ret
      exact ⟨⟨T, rfl, by omega⟩, hr.mono (by omega), hkM⟩
theorem goodText_of {W0 : World} {R : Nat} {K : Int} {w : World} (_ : Rd R K W0) (h : Rd R K w) (hK : K ≤ 900) :
    Calls Try.prog 81 #[.pointer (some ⟨R, 0, none⟩)] w fun r w' => (∃ T : ByteArray, r = .returned (.string T) ∧ T.size ≤ 9) ∧ Rd R (K + 20) w' ∧ Kp R w.heap.size w w' := goodText_any R K w h hK
set_option maxRecDepth 100000 in
set_option maxHeartbeats 4000000 in
theorem someText_any (R : Nat) (K : Int) (w : World) (h : Rd R K w) (hK : K ≤ 800) :
    Calls Try.prog 55 #[.pointer (some ⟨R, 0, none⟩)] w fun r w' => (∃ T : ByteArray, r = .returned (.string T) ∧ T.size ≤ 9) ∧ Rd R (K + 30) w' ∧ Kp R w.heap.size w w' := by
  have hR1 := h.1
  have hr := h
  have hkM := Kp.refl R w.heap.size w
  go_enter Try.func55, Try.ntmps55
  go_wp2_with (first | (go_at_call 54; (fail_if_success (have kT := xa)); (with_reducible refine Calls.mono (pick_ofT hr (by repeat (first | with_reducible assumption | with_reducible refine Rd.up ?_ _ | with_reducible refine Rd.drew ?_ | with_reducible refine Rd.set ?_ (by first | omega | (simp; done) | (simp <;> omega)) _)) ?_) ?_); omega; rintro r w1 ⟨⟨xa, rfl, xa_0, xa_1⟩, hrN, hk⟩; have hkN : Kp R w.heap.size w w1 := Kp.step (by repeat (first | with_reducible assumption | with_reducible exact Kp.refl _ _ _ | with_reducible refine Kp.up ?_ (by first | omega | (simp; done) | (simp <;> omega)) _ | with_reducible refine Kp.set ?_ (by first | omega | (simp; done) | (simp <;> omega)) _ _ | with_reducible refine Kp.drew ?_)) hk; clear hr hkM hk; have hr := hrN; have hkM := hkN; clear hrN hkN; have hR1 := hr.1; have hszM := hkM.size) | (go_at_call 74; (with_reducible refine Calls.mono (of_pf (fun t => t.size ≤ 9) hr (by repeat (first | with_reducible assumption | with_reducible refine Rd.up ?_ _ | with_reducible refine Rd.drew ?_ | with_reducible refine Rd.set ?_ (by first | omega | (simp; done) | (simp <;> omega)) _)) ?_ ?_ ?_ ?_) ?_); omega; (first | omega | (simp; omega)); refine TextsP.new (fun t => t.size ≤ 9) _ _ _ 3 ?_ rfl; (repeat (first | exact mem_nil | refine mem_one (by decide) ?_)); omega; rintro r w1 ⟨⟨ta, rfl, ta_p⟩, hrN, hk⟩; have hkN : Kp R w.heap.size w w1 := Kp.step (by repeat (first | with_reducible assumption | with_reducible exact Kp.refl _ _ _ | with_reducible refine Kp.up ?_ (by first | omega | (simp; done) | (simp <;> omega)) _ | with_reducible refine Kp.set ?_ (by first | omega | (simp; done) | (simp <;> omega)) _ _ | with_reducible refine Kp.drew ?_)) hk; clear hr hkM hk; have hr := hrN; have hkM := hkN; clear hrN hkN; have hR1 := hr.1; have hszM := hkM.size) | (go_at_call 81; (with_reducible refine Calls.mono (goodText_of hr (by repeat (first | with_reducible assumption | with_reducible refine Rd.up ?_ _ | with_reducible refine Rd.drew ?_ | with_reducible refine Rd.set ?_ (by first | omega | (simp; done) | (simp <;> omega)) _)) ?_) ?_); omega; rintro r w1 ⟨⟨T, rfl, hT⟩, hrN, hk⟩; have hkN : Kp R w.heap.size w w1 := Kp.step (by repeat (first | with_reducible assumption | with_reducible exact Kp.refl _ _ _ | with_reducible refine Kp.up ?_ (by first | omega | (simp; done) | (simp <;> omega)) _ | with_reducible refine Kp.set ?_ (by first | omega | (simp; done) | (simp <;> omega)) _ _ | with_reducible refine Kp.drew ?_)) hk; clear hr hkM hk; have hr := hrN; have hkM := hkN; clear hrN hkN; have hR1 := hr.1; have hszM := hkM.size))
  all_goals go_ret
  all_goals exact ⟨⟨_, rfl, by first | assumption | omega⟩, Rd.mono (by repeat (first | with_reducible assumption | with_reducible refine Rd.up ?_ _ | with_reducible refine Rd.drew ?_ | with_reducible refine Rd.set ?_ (by first | omega | (simp; done) | (simp <;> omega)) _)) (by omega), (by repeat (first | with_reducible assumption | with_reducible exact Kp.refl _ _ _ | with_reducible refine Kp.up ?_ (by first | omega | (simp; done) | (simp <;> omega)) _ | with_reducible refine Kp.set ?_ (by first | omega | (simp; done) | (simp <;> omega)) _ _ | with_reducible refine Kp.drew ?_))⟩
theorem someText_of {W0 : World} {R : Nat} {K : Int} {w : World} (_ : Rd R K W0) (h : Rd R K w) (hK : K ≤ 800) :
    Calls Try.prog 55 #[.pointer (some ⟨R, 0, none⟩)] w fun r w' => (∃ T : ByteArray, r = .returned (.string T) ∧ T.size ≤ 9) ∧ Rd R (K + 30) w' ∧ Kp R w.heap.size w w' := someText_any R K w h hK
end Go.Proofs.Ytffdgpahbdmacaa
