import Derived.Test.YtbkdjldimmhbjaaDoorN11P
import Derived.Handy
namespace Go.Proofs.YtbkdjldimmhbjaaDoor
open Go Go.RowKit
theorem spL_le {f : ByteArray} {al si wi gr pr : Int} {t : ByteArray} (alt ze : Bool) (G : GS f al si wi gr pr t) : (spL f.data.toList al si alt ze wi gr pr t.data.toList).length ≤ 13 := by
  have h1 := mk_len [60, 62, 94, 61] al; have h2 := mk_len [45, 43, 32] si; have h3 := mk_len [44, 95] gr
  have h4 := dec2_len wi.toNat; have h5 := dec2_len pr.toNat
  have hf : f.data.toList.length ≤ 1 := by rw [Array.length_toList]; exact G.fl
  have ht : t.data.toList.length ≤ 1 := by rw [Array.length_toList]; exact G.tl
  unfold spL
  simp only [List.length_append]
  have h6 : (if alt then [35] else ([] : List UInt8)).length ≤ 1 := by cases alt <;> decide
  have h7 : (if ze then [48] else ([] : List UInt8)).length ≤ 1 := by cases ze <;> decide
  have h8 : (if 0 < wi then dec2 wi.toNat else ([] : List UInt8)).length ≤ 2 := by
    split
    · exact h4
    · decide
  have h9 : (if pr = -1 then ([] : List UInt8) else 46 :: dec2 pr.toNat).length ≤ 3 := by
    split
    · decide
    · rw [List.length_cons]; omega
  omega
theorem specTextB_any {f : ByteArray} {al si : Int} {alt ze : Bool} {wi gr pr : Int} {t : ByteArray} (G : GS f al si wi gr pr t) (w : World) :
    Calls Tryd.prog 33 #[.agg #[.string f, .int .i64 al, .int .i64 si, .bool alt, .bool ze, .int .i64 wi, .int .i64 gr, .int .i64 pr, .string t]] w fun r w' => (∃ X : ByteArray, r = .returned (.string X) ∧ X.size ≤ 13) ∧ Below w.heap.size w w' := by
  have ef := of_list f
  have et := of_list t
  have h := specTextS_gs f.data.toList t.data.toList al si alt ze wi gr pr w (by rw [← ef, ← et]; exact G)
  rw [← ef, ← et] at h
  refine h.mono ?_
  rintro r w' ⟨rfl, hb⟩
  exact ⟨⟨_, rfl, spL_le alt ze G⟩, hb⟩
set_option maxRecDepth 100000 in
set_option maxHeartbeats 8000000 in
theorem DrawParseSpec_any (s : Option Addr) (len cap : Nat) (w : World) (h : CodeAt s len w.heap.size w) (hcap : len ≤ cap) :
    Calls Tryd.prog 13 #[.slice s len cap] w fun r w' => (∃ X : ByteArray, r = .returned (.string X) ∧ X.size ≤ 14) ∧ Below w.heap.size w w' := by
  have hB0 := Below.refl w.heap.size w
  go_enter Tryd.func13, Tryd.ntmps13
  go_wp2_with (first | (go_at_call 32; (first | (with_reducible refine Calls.mono (newReader_any _ _ _ _ h hcap) ?_) | (with_reducible refine Calls.mono (newReader_any _ _ _ _ (h.up _) hcap) ?_)); rintro r wa ⟨R, rfl, hR, hr, hbR⟩; (try simp at hR); have hBa := Below.trans (by repeat (first | with_reducible exact Below.refl _ _ | with_reducible assumption | with_reducible refine Below.setCell ?_ (by first | omega | (simp; done) | (simp <;> omega)) _ | with_reducible refine below_drewN ?_ _ | with_reducible refine Below.drew ?_ | with_reducible refine Below.alloc ?_ (by first | omega | (simp; done) | (simp <;> omega)) _)) (hbR.mono (by first | omega | (simp; done) | (simp <;> omega))); have hkM := Kp.refl R wa.heap.size wa; have hRw := hr.1; have hz := hkM.size) | (go_at_call 35; (with_reducible refine Calls.mono (pick_ofN hr (by repeat (first | with_reducible assumption | with_reducible refine Rd.up ?_ _ | with_reducible refine Rd.drew ?_ | with_reducible refine Rd.set ?_ (by first | omega | (simp; done) | (simp <;> omega)) _)) ?_) ?_); omega; rintro r w1 ⟨⟨x, rfl, hx0, hx1⟩, hrN, hk⟩; have hkN : Kp R wa.heap.size wa w1 := Kp.step (by repeat (first | with_reducible assumption | with_reducible exact Kp.refl _ _ _ | with_reducible refine Kp.up ?_ (by first | omega | (simp; done) | (simp <;> omega)) _ | with_reducible refine Kp.set ?_ (by first | omega | (simp; done) | (simp <;> omega)) _ _ | with_reducible refine Kp.drew ?_ | with_reducible refine Kp.step ?_ (by with_reducible assumption))) hk; clear hr hkM hk; have hr := hrN; have hkM := hkN; clear hrN hkN; have hz := hkM.size) | (go_at_call 34; (with_reducible refine Calls.mono (specForB_any _ _ _ _ (by repeat (first | with_reducible assumption | with_reducible refine Rd.up ?_ _ | with_reducible refine Rd.drew ?_ | with_reducible refine Rd.set ?_ (by first | omega | (simp; done) | (simp <;> omega)) _)) ?_) ?_); omega; rintro r w1 ⟨⟨f, al, si, alt, ze, wi, gr, pr, t, rfl, hG⟩, hrN, hk⟩; have hkN : Kp R wa.heap.size wa w1 := Kp.step (by repeat (first | with_reducible assumption | with_reducible exact Kp.refl _ _ _ | with_reducible refine Kp.up ?_ (by first | omega | (simp; done) | (simp <;> omega)) _ | with_reducible refine Kp.set ?_ (by first | omega | (simp; done) | (simp <;> omega)) _ _ | with_reducible refine Kp.drew ?_ | with_reducible refine Kp.step ?_ (by with_reducible assumption))) hk; clear hr hkM hk; have hr := hrN; have hkM := hkN; clear hrN hkN; have hz := hkM.size) | (go_at_call 33; (with_reducible refine Calls.mono (specTextB_any hG _) ?_); rintro r w1 ⟨⟨X, rfl, hX⟩, hb⟩; have hrN := Rd.carry hr hb; have hkN : Kp R wa.heap.size wa w1 := Kp.step (by repeat (first | with_reducible assumption | with_reducible exact Kp.refl _ _ _ | with_reducible refine Kp.up ?_ (by first | omega | (simp; done) | (simp <;> omega)) _ | with_reducible refine Kp.set ?_ (by first | omega | (simp; done) | (simp <;> omega)) _ _ | with_reducible refine Kp.drew ?_ | with_reducible refine Kp.step ?_ (by with_reducible assumption))) (Kp.of_below hb (by omega)); clear hr hkM hb; have hr := hrN; have hkM := hkN; clear hrN hkN; have hz := hkM.size) | (go_at_call 36; (with_reducible refine Calls.mono (mutate_of hr (by repeat (first | with_reducible assumption | with_reducible refine Rd.up ?_ _ | with_reducible refine Rd.drew ?_ | with_reducible refine Rd.set ?_ (by first | omega | (simp; done) | (simp <;> omega)) _)) ?_ ?_) ?_); omega; omega; rintro r w1 ⟨⟨Y, rfl, hY⟩, hrN, hk⟩; have hkN : Kp R wa.heap.size wa w1 := Kp.step (by repeat (first | with_reducible assumption | with_reducible exact Kp.refl _ _ _ | with_reducible refine Kp.up ?_ (by first | omega | (simp; done) | (simp <;> omega)) _ | with_reducible refine Kp.set ?_ (by first | omega | (simp; done) | (simp <;> omega)) _ _ | with_reducible refine Kp.drew ?_ | with_reducible refine Kp.step ?_ (by with_reducible assumption))) hk; clear hr hkM hk; have hr := hrN; have hkM := hkN; clear hrN hkN; have hz := hkM.size))
  all_goals go_ret
  all_goals exact ⟨⟨_, rfl, by omega⟩, (by have hB := below_kp hBa hkM (by omega) (by omega); repeat (first | with_reducible exact Below.refl _ _ | with_reducible assumption | with_reducible refine Below.setCell ?_ (by first | omega | (simp; done) | (simp <;> omega)) _ | with_reducible refine below_drewN ?_ _ | with_reducible refine Below.drew ?_ | with_reducible refine Below.alloc ?_ (by first | omega | (simp; done) | (simp <;> omega)) _))⟩
end Go.Proofs.YtbkdjldimmhbjaaDoor
