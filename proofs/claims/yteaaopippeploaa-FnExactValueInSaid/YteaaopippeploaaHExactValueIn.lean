/- The exact law of ValueIn, proved: for every input the program answers as its model. No condition. -/
import Derived.Test.YteaaopippeploaaV6
import Derived.Test.YteaaopippeploaaY4
import Derived.ChangeMaps5
namespace Go.Proofs.Yteaaopippeploaa
open Go.ChangeShapes Go.WideShapes Go.ChangeAt Go.RowKit Go.Joins Go.ChangeMaps

set_option maxHeartbeats 1000000 in
theorem ValueInS_any (s : ByteArray) (base : Int) (hs : s.size ≤ 9223372036854775807) (w : World) :
    Calls Try.prog 29 #[.string s, .int .i64 base] w fun r w' => r = .returned (.int .i64 (valW s base)) ∧ w = w' := by
  have k1 := fun W => inRangeS_any base 2 16 W
  by_cases hb : 2 ≤ base ∧ base ≤ 16
  · rw [show inr base 2 16 = true by simp [inr]; omega] at k1
    have k2 := fun W => valueInS_any s base hs hb W
    generalize valW s base = X at *
    have K1 := Lib.hid k1; have K2 := Lib.hid k2
    clear k1 k2
    go_enter Try.func29, Try.ntmps29
    go_wp2_with (first | (go_at_call 50; (with_reducible refine Calls.mono (K1.out _) ?_); rintro r w1 ⟨rfl, rfl⟩) | (go_at_call 51; (with_reducible refine Calls.mono (K2.out _) ?_); rintro r w1 ⟨rfl, rfl⟩))
    all_goals go_ret
    all_goals exact ⟨rfl, rfl⟩
  · rw [show inr base 2 16 = false by simp [inr]; omega] at k1
    have hv : valW s base = -1 := by
      unfold valW
      by_cases h0 : s.size = 0
      · rw [if_pos h0]
      · rw [if_neg h0]
        by_cases h : base < 2
        · rw [if_pos h]
        · rw [if_neg h, if_pos (by omega)]
    rw [hv]
    have K1 := Lib.hid k1
    clear k1 hv
    go_enter Try.func29, Try.ntmps29
    go_wp2_with (go_at_call 50; (with_reducible refine Calls.mono (K1.out _) ?_); rintro r w1 ⟨rfl, rfl⟩)
    all_goals go_ret
    all_goals exact ⟨rfl, rfl⟩

set_option maxHeartbeats 1000000 in
theorem FnExactValueIn_law (s : ByteArray) (base : Int) (w : World) (hs : s.size ≤ maxLen) :
    Calls Try.prog 10 #[.string s, .int .i64 base] w fun r w' => r = .returned (.bool true) ∧ Below w.heap.size w w' := by
  have hs' : s.size ≤ 9223372036854775807 := by simp only [maxLen] at hs; omega
  have k1 := fun W => ValueIn_any s base hs' W
  have k2 := fun W => ValueInS_any s base hs' W
  generalize valW s base = X at *
  have hXX : (X != X) = false := by simp
  have K1 := Lib.hid k1; have K2 := Lib.hid k2
  clear k1 k2
  go_enter Try.func10, Try.ntmps10
  go_wp2_with (first | (go_at_call 30; (with_reducible refine Calls.mono (K1.out _) ?_); rintro r w1 ⟨rfl, rfl⟩) | (go_at_call 29; (with_reducible refine Calls.mono (K2.out _) ?_); rintro r w1 ⟨rfl, rfl⟩))
  all_goals go_ret
  all_goals exact ⟨rfl, Below.refl _ _⟩

set_option maxRecDepth 100000 in
theorem FnExactValueIn_lifted (os : Os) (started : os.Started) (H : Type) (enc : TypeId × Value → H) :
    ReturnsInHanded {} Try.checked os 10 .any (Rows.fnExactValueInSpec.pre6 enc Try.prog Try.f10 Rows.fnExactValueInRow.domain false) (Rows.fnExactValueInSpec.post enc Try.prog Try.f10 false true false false) := by
  refine returnsInHanded_of_change (C := Try.checked) Try.own started (by kernel_rfl) Try.func10
    (ChangeSpec.witness6 (enc := enc) (C := Try.checked) false ⟨#[], #[.string ⟨#[]⟩, .int .i64 0], []⟩ 8 (by kernel_rfl) (by kernel_rfl) (by kernel_rfl) (by kernel_rfl)) ?_
  intro W base args ds gs before hval0 hW hcnd _
  have hval : ∀ (j : Nat) t v, Try.f10.params[j]? = some t → args[j]? = some v → Value.okWide Try.prog W .any base t v := hval0
  have hW' := hW
  obtain ⟨p, q, hA0, hV, rfl, hfz, hnd⟩ := hW
  have hA : DataW.TrodAll enc Try.prog W 0 (fun _ => true) true Try.f10.params.toList args.toList ds p := hA0
  rw [Try.params10] at hA hval
  obtain ⟨v0, v1, d0, d1, p0, p1, rfl, rfl, rfl, h0, h1⟩ := trodAll_two hA
  obtain ⟨rfl, rfl⟩ := trodVars_none hV
  obtain ⟨s, rfl, rfl, rfl, hss⟩ := open_string Try.underlying9 (hval 0 9 v0 rfl rfl) h0
  obtain ⟨base, rfl, rfl, rfl, wfbase⟩ := open_int Try.underlying3 (hval 1 3 v1 rfl rfl) h1
  clear hA0 hval0
  have hlt := fun x hx => hW'.lt x hx
  refine (FnExactValueIn_law s base W hss).mono fun e_ W' ⟨he, hb⟩ => ?_
  subst he
  exact ⟨_, rfl, post_of_below (pa := ([] ++ [])) (pv := []) hW' (fun _ _ _ => trodAll_mk1 (shut_bool Try.underlying4 true)) (fun sp hsp => trodAll_mk2 (shut_string Try.underlying9 hss) (shut_int Try.underlying3 wfbase)) (fun _ _ => rfl) (by simp) hb (ok_one (by kernel_rfl) rfl (okWide_bool_mk Try.underlying4 true))⟩

theorem FnExactValueIn_holds : Rows.FnExactValueInSaid :=
  OpenClaim.holds_of_wide 10 Try.f10 rfl rfl rfl rfl rfl rfl rfl ⟨rfl, rfl, rfl, rfl, rfl⟩ rfl rfl rfl rfl rfl (by kernel_rfl) Try.func10 (by kernel_rfl)
    (of_decide_eq_true (by kernel_rfl)) (by unfold Func.isWrapper; first | (rw [if_pos (by decide +kernel)]; kernel_rfl) | (rw [if_neg (by decide +kernel)]; exact ⟨rfl, rfl⟩))
    (fun os started H enc _ => FnExactValueIn_lifted os started H enc)
end Go.Proofs.Yteaaopippeploaa
