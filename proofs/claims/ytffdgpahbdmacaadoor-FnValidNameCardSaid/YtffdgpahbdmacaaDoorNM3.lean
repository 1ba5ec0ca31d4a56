import Derived.Test.YtffdgpahbdmacaaDoorNM2
import Derived.Test.YtffdgpahbdmacaaDoorN3
import Derived.Test.YtffdgpahbdmacaaDoorR2
namespace Go.Proofs.YtffdgpahbdmacaaDoor
open Go Go.RowKit
theorem anyName_any (R : Nat) (K : Int) (w : World) (h : Rd R K w) (hK : K ≤ 900) :
    Calls Tryd.prog 41 #[.pointer (some ⟨R, 0, none⟩)] w fun r w' => (∃ y, r = .returned (.string y) ∧ y.size ≤ 5) ∧ Rd R (K + 1) w' ∧ Kp R w.heap.size w w' := by
  have hr := h
  have hR := h.1
  go_enter Tryd.func41, Tryd.ntmps41
  go_wp2_with (go_at_call 60; (with_reducible refine Calls.mono (of_p (fun t => t.size ≤ 5) R _ _ _ _ _ (hr.up _) ?_ ?_ ?_ ?_) ?_); omega; (first | omega | (simp; omega)); refine TextsP.new (fun t => t.size ≤ 5) _ _ _ 10 ?_ rfl; (repeat (first | exact mem_nil | refine mem_one (by decide) ?_)); omega; rintro r w1 ⟨⟨x, rfl, hx⟩, hr2, hk⟩; have hkN : Kp R w.heap.size w w1 := Kp.step ((Kp.refl R w.heap.size w).up (by omega) _) hk)
  go_ret
  exact ⟨⟨x, rfl, hx⟩, hr2, hkN⟩
theorem DrawValidName_any (s : Option Addr) (len cap : Nat) (w : World) (h : CodeAt s len w.heap.size w) (hcap : len ≤ cap) :
    Calls Tryd.prog 17 #[.slice s len cap] w fun r w' => (∃ y, r = .returned (.string y) ∧ y.size ≤ 5) ∧ Below w.heap.size w w' := by
  go_enter Tryd.func17, Tryd.ntmps17
  go_wp2_with (first | (go_at_call 29; (with_reducible refine Calls.mono (newReader_any _ _ _ _ h hcap) ?_); rintro r wa ⟨R, rfl, hR, hr, hbR⟩) | (go_at_call 41; (with_reducible refine Calls.mono (anyName_any R _ _ hr ?_) ?_); omega; rintro r wb ⟨⟨x, rfl, hx⟩, hr2, hk⟩; have hB : Below w.heap.size w wb := below_kp hbR hk (by omega) (by have := hr.1; omega)))
  go_ret
  exact ⟨⟨x, rfl, hx⟩, hB⟩
theorem vn_long {l m : List UInt8} (h : 1 ≤ l.length) (hm : m.length = 4) : vnB (l ++ m) = false := by
  unfold vnB lnB
  have h5 : 5 ≤ (l ++ m).length := by rw [List.length_append]; omega
  rw [decide_eq_false (show ¬ (l ++ m).length ≤ 4 by omega)]
  match hl : l ++ m, h5 with
  | _ :: _ :: _, _ => simp [dnB]
theorem vn_len {l : List UInt8} (h : vnB l = true) : l.length ≤ 4 := by
  unfold vnB lnB at h
  match l with
  | [] => simp
  | [_] => simp
  | a :: b :: r =>
    simp [dnB] at h
    simp
    omega
set_option maxRecDepth 100000 in
set_option maxHeartbeats 4000000 in
theorem FnValidName_law (s : Option Addr) (len cap : Nat) (w : World) (hcode : CodeAt s len w.heap.size w) (hcap : len ≤ cap) :
    Calls Tryd.prog 5 #[.slice s len cap] w fun r w' => r = .returned (.bool true) ∧ Below w.heap.size w w' := by
  by_cases hl : 1048576 < len
  · go_enter Tryd.func5, Tryd.ntmps5
    go_wp2
    go_ret
    exact ⟨rfl, (by repeat (first | with_reducible exact Below.refl _ _ | with_reducible assumption | with_reducible refine Below.setCell ?_ (by first | omega | (simp; done) | (simp <;> omega)) _ | with_reducible refine below_drewN ?_ _ | with_reducible refine Below.drew ?_ | with_reducible refine Below.alloc ?_ (by first | omega | (simp; done) | (simp <;> omega)) _))⟩
  go_enter Tryd.func5, Tryd.ntmps5
  go_wp2_with (go_at_call 17; (with_reducible refine Calls.mono (DrawValidName_any _ _ _ _ hcode hcap) ?_); rintro r w1 ⟨⟨x, rfl, hx⟩, hB⟩)
  have hx' : x.size ≤ 9223372036854775807 := by omega
  have k1 := fun W => ValidName_any x hx' W
  have k2 := fun W => ValidNameS_any x hx' W
  cases hv : vnB x.data.toList
  · rw [hv] at k1 k2
    have K1 := Lib.hid k1; have K2 := Lib.hid k2
    clear k1 k2 hv
    go_wp2_with (first | (go_at_call 18; (with_reducible refine Calls.mono (K1.out _) ?_); rintro r w1 ⟨rfl, hb⟩; replace hB := hB.trans (hb.mono hB.size)) | (go_at_call 19; (with_reducible refine Calls.mono (K2.out _) ?_); rintro r w1 ⟨rfl, hb⟩; replace hB := hB.trans (hb.mono hB.size)))
    all_goals go_ret
    all_goals exact ⟨rfl, hB⟩
  · rw [hv] at k1 k2
    have h4 := vn_len hv
    have hlen : x.data.toList.length = x.size := by rw [Array.length_toList]; rfl
    rw [hlen] at h4
    have i4 : (x.size : Int) ≤ 4 := by omega
    by_cases h0 : x.size = 0
    · have hx0 : x = ⟨#[]⟩ := by
        apply ByteArray.ext
        exact Array.ext' (List.length_eq_zero_iff.1 (by omega))
      subst hx0
      have k3 := fun W => ValidName_any (⟨#[]⟩ ++ ⟨#[97, 98, 99, 100]⟩) (by decide) W
      have K1 := Lib.hid k1; have K2 := Lib.hid k2
      have k3' : ∀ W, Calls Tryd.prog 18 #[.string ⟨#[97, 98, 99, 100]⟩] W fun r w' => r = .returned (.bool true) ∧ Below W.heap.size W w' := fun W => ValidName_any ⟨#[97, 98, 99, 100]⟩ (by decide) W
      have K3 := Lib.hid k3; have K3' := Lib.hid k3'
      clear k1 k2 k3 k3' hv hlen h0
      go_wp2_with (first | (go_at_call 18; (with_reducible refine Calls.mono (K1.out _) ?_); rintro r w1 ⟨rfl, hb⟩; replace hB := hB.trans (hb.mono hB.size)) | (go_at_call 19; (with_reducible refine Calls.mono (K2.out _) ?_); rintro r w1 ⟨rfl, hb⟩; replace hB := hB.trans (hb.mono hB.size)) | (go_at_call 18; (with_reducible refine Calls.mono (K3'.out _) ?_); rintro r w1 ⟨rfl, hb⟩; replace hB := hB.trans (hb.mono hB.size)) | (go_at_call 18; (with_reducible refine Calls.mono (K3.out _) ?_); rintro r w1 ⟨rfl, hb⟩; replace hB := hB.trans (hb.mono hB.size)))
      all_goals go_ret
      all_goals exact ⟨rfl, hB⟩
    · have hne := nonempty_list (s := x) (by omega)
      have k3 : ∀ W, Calls Tryd.prog 18 #[.string (x ++ ⟨#[97, 98, 99, 100]⟩)] W fun r w' => r = .returned (.bool false) ∧ Below W.heap.size W w' := fun W => by
        have h := ValidName_any (x ++ ⟨#[97, 98, 99, 100]⟩) (by rw [ByteArray.size_append]; show x.size + 4 ≤ _; omega) W
        rw [show (x ++ ⟨#[97, 98, 99, 100]⟩ : ByteArray).data.toList = x.data.toList ++ [97, 98, 99, 100] by rw [ByteArray.data_append]; simp, vn_long (by omega) rfl] at h
        exact h
      have K1 := Lib.hid k1; have K2 := Lib.hid k2; have K3 := Lib.hid k3
      clear k1 k2 k3 hv hlen h0
      go_wp2_with (first | (go_at_call 18; (with_reducible refine Calls.mono (K1.out _) ?_); rintro r w1 ⟨rfl, hb⟩; replace hB := hB.trans (hb.mono hB.size)) | (go_at_call 19; (with_reducible refine Calls.mono (K2.out _) ?_); rintro r w1 ⟨rfl, hb⟩; replace hB := hB.trans (hb.mono hB.size)) | (go_at_call 18; (with_reducible refine Calls.mono (K3.out _) ?_); rintro r w1 ⟨rfl, hb⟩; replace hB := hB.trans (hb.mono hB.size)))
      all_goals go_ret
      all_goals exact ⟨rfl, hB⟩
end Go.Proofs.YtffdgpahbdmacaaDoor
