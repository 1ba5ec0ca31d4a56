/- Promise 20: proved for every input. No condition. -/
import Derived.Test.YteaaopippeploaaR3
import Derived.Test.YteaaopippeploaaR7
import Derived.Test.YteaaopippeploaaR8
import Derived.Test.YteaaopippeploaaV11
namespace Go.Proofs.Yteaaopippeploaa
open Go.ChangeShapes Go.WideShapes Go.ChangeAt Go.RowKit Go.Joins Go.ChangeMaps

set_option maxHeartbeats 1000000 in
theorem equalSpec_self (f : ByteArray) (al si : Int) (alt ze : Bool) (wi gr pr : Int) (t : ByteArray) (w : World) :
    Calls Try.prog 19 #[.agg #[.string f, .int .i64 al, .int .i64 si, .bool alt, .bool ze, .int .i64 wi, .int .i64 gr, .int .i64 pr, .string t], .agg #[.string f, .int .i64 al, .int .i64 si, .bool alt, .bool ze, .int .i64 wi, .int .i64 gr, .int .i64 pr, .string t]] w fun r w' => r = .returned (.bool true) ∧ Below w.heap.size w w' := by
  go_enter Try.func19, Try.ntmps19
  go_wp2
  go_ret
  exact ⟨rfl, (by repeat (first | with_reducible exact Below.refl _ _ | with_reducible assumption | with_reducible refine Below.setCell ?_ (by first | omega | (simp; done) | (simp <;> omega)) _ | with_reducible refine below_drewN ?_ _ | with_reducible refine Below.drew ?_ | with_reducible refine Below.alloc ?_ (by first | omega | (simp; done) | (simp <;> omega)) _))⟩

set_option maxRecDepth 100000 in
set_option maxHeartbeats 16000000 in
theorem FnPlainSpec_law (s : Option Addr) (len cap : Nat) (w : World) (hcode : CodeAt s len w.heap.size w) (hcap : len ≤ cap) :
    Calls Try.prog 4 #[.slice s len cap] w fun r w' => r = .returned (.bool true) ∧ Below w.heap.size w w' := by
  by_cases hl : 1048576 < len
  · go_enter Try.func4, Try.ntmps4
    go_wp2
    go_ret
    exact ⟨rfl, (by repeat (first | with_reducible exact Below.refl _ _ | with_reducible assumption | with_reducible refine Below.setCell ?_ (by first | omega | (simp; done) | (simp <;> omega)) _ | with_reducible refine below_drewN ?_ _ | with_reducible refine Below.drew ?_ | with_reducible refine Below.alloc ?_ (by first | omega | (simp; done) | (simp <;> omega)) _))⟩
  go_enter Try.func4, Try.ntmps4
  go_wp2_with (go_at_call 17; (with_reducible refine Calls.mono (DrawPlainSpec_any _ _ _ _ hcode hcap) ?_); rintro r w1 ⟨⟨f, al, si, alt, ze, wi, gr, pr, t, kd, rfl⟩, hB⟩; have hz := hB.size; (try simp at hz))
  have k1 := fun W => PlainSpec_any f al si alt ze wi gr pr t kd W
  have k2 := fun W => PlainSpecS_any f al si alt ze wi gr pr t kd W
  have k3 := fun W => SpecSuits_any f al si alt ze wi gr pr t kd W
  cases hX : suitW (vSp f al si wi gr pr t) al si alt ze gr pr t kd
  · rw [hX] at k1 k2 k3
    rw [show plainV false f al si alt ze wi gr pr t kd = .agg #[.string ⟨#[]⟩, .int .i64 0, .int .i64 0, .bool false, .bool false, .int .i64 0, .int .i64 0, .int .i64 0, .string ⟨#[]⟩] from rfl] at k1 k2
    have K1 := Lib.hid k1; have K2 := Lib.hid k2; have K3 := Lib.hid k3
    clear k1 k2 k3 hX
    have za := (C9.new w1 (.string f) (.int .i64 al) (.int .i64 si) (.bool alt) (.bool ze) (.int .i64 wi) (.int .i64 gr) (.int .i64 pr) (.string t) 24)
    go_wp2_with (go_at_call 18; (with_reducible refine Calls.mono (K1.out _) ?_); rintro r w2 ⟨rfl, hb⟩; have hz2 := hb.size; (try simp at hz2); replace za := za.carry hb; have hB2 : Below w.heap.size w w2 := (by refine Below.trans ?_ (hb.mono (by first | omega | (simp; done) | (simp <;> omega))); repeat (first | with_reducible exact Below.refl _ _ | with_reducible assumption | with_reducible refine Below.setCell ?_ (by first | omega | (simp; done) | (simp <;> omega)) _ | with_reducible refine below_drewN ?_ _ | with_reducible refine Below.drew ?_ | with_reducible refine Below.alloc ?_ (by first | omega | (simp; done) | (simp <;> omega)) _)); clear hb)
    replace za := za.up (.cells #[.string ⟨#[]⟩, .int .i64 0, .int .i64 0, .bool false, .bool false, .int .i64 0, .int .i64 0, .int .i64 0, .string ⟨#[]⟩] 24)
    have zb := C9.new w2 (.string ⟨#[]⟩) (.int .i64 0) (.int .i64 0) (.bool false) (.bool false) (.int .i64 0) (.int .i64 0) (.int .i64 0) (.string ⟨#[]⟩) 24
    clear hB
    have hB : Below w.heap.size w (w2.alloc (.cells #[.string ⟨#[]⟩, .int .i64 0, .int .i64 0, .bool false, .bool false, .int .i64 0, .int .i64 0, .int .i64 0, .string ⟨#[]⟩] 24)) := hB2.alloc (by have := hB2.size; omega) _
    go_wp2
    obtain ⟨sza0, sza1, sza2, sza3, sza4, sza5, sza6, sza7, sza8⟩ := C9.since za
    obtain ⟨szb0, szb1, szb2, szb3, szb4, szb5, szb6, szb7, szb8⟩ := C9.since zb
    refine wp_region_since (by kernel_rfl) (by kernel_rfl) ?_
    repeat (quiet_step (first | (go_at_call 20; with_reducible exact Calls.since_of (K2.out _)) | (go_at_call 19; with_reducible exact Calls.since_of (equalSpec_self _ _ _ _ _ _ _ _ _ _)) | (go_at_call 16; with_reducible exact Calls.since_of (K3.out _))))
    refine wpQuiet_nil ?_
    intro w_ hw_
    obtain ⟨⟨w1, hb⟩, hw2⟩ := hw_
    have hw3 : w1 = w_ := hw2.symm
    clear hw2
    subst hw3
    clear sza0 sza1 sza2 sza3 sza4 sza5 sza6 sza7 sza8 szb0 szb1 szb2 szb3 szb4 szb5 szb6 szb7 szb8
    replace hB := hB.trans (hb.mono hB.size)
    have hz := hb.size
    replace za := C9.carry za hb
    have zz := za
    obtain ⟨x0, x1, x2, x3, x4, x5, x6, x7, x8, x9, xl⟩ := zz
    replace zb := C9.carry zb hb
    have zz := zb
    obtain ⟨x0, x1, x2, x3, x4, x5, x6, x7, x8, x9, xl⟩ := zz
    go_wp2
    obtain ⟨sza0, sza1, sza2, sza3, sza4, sza5, sza6, sza7, sza8⟩ := C9.since za
    obtain ⟨szb0, szb1, szb2, szb3, szb4, szb5, szb6, szb7, szb8⟩ := C9.since zb
    refine wp_region_since (by kernel_rfl) (by kernel_rfl) ?_
    repeat (quiet_step (first | (go_at_call 20; with_reducible exact Calls.since_of (K2.out _)) | (go_at_call 19; with_reducible exact Calls.since_of (equalSpec_self _ _ _ _ _ _ _ _ _ _)) | (go_at_call 16; with_reducible exact Calls.since_of (K3.out _))))
    refine wpQuiet_nil ?_
    intro w_ hw_
    obtain ⟨⟨w1, hb⟩, hw2⟩ := hw_
    have hw3 : w1 = w_ := hw2.symm
    clear hw2
    subst hw3
    clear sza0 sza1 sza2 sza3 sza4 sza5 sza6 sza7 sza8 szb0 szb1 szb2 szb3 szb4 szb5 szb6 szb7 szb8
    replace hB := hB.trans (hb.mono hB.size)
    have hz := hb.size
    replace za := C9.carry za hb
    have zz := za
    obtain ⟨x0, x1, x2, x3, x4, x5, x6, x7, x8, x9, xl⟩ := zz
    replace zb := C9.carry zb hb
    have zz := zb
    obtain ⟨x0, x1, x2, x3, x4, x5, x6, x7, x8, x9, xl⟩ := zz
    go_wp2
    go_ret
    exact ⟨rfl, (by repeat (first | with_reducible exact Below.refl _ _ | with_reducible assumption | with_reducible refine Below.setCell ?_ (by first | omega | (simp; done) | (simp <;> omega)) _ | with_reducible refine below_drewN ?_ _ | with_reducible refine Below.drew ?_ | with_reducible refine Below.alloc ?_ (by first | omega | (simp; done) | (simp <;> omega)) _))⟩
  · have hv : vSp f al si wi gr pr t = true := by have h := hX; simp only [suitW, Bool.and_eq_true] at h; exact h.1
    obtain ⟨e1, e2, e3, e4, e5, e6⟩ := P20_ok hX
    have k4 := fun W => SpecSuits_any (fillW true f ze) (alW al ze kd) (siW si kd (isC t)) alt false wi gr pr (tyW t kd) kd W
    have k5 := fun W => PlainSpec_any (fillW true f ze) (alW al ze kd) (siW si kd (isC t)) alt false wi gr pr (tyW t kd) kd W
    have k6 := fun W => AlignFor_any (fillW true f ze) (alW al ze kd) (siW si kd (isC t)) alt false wi gr pr (tyW t kd) kd W
    have k7 := fun W => AlignFor_any f al si alt ze wi gr pr t kd W
    have k8 := fun W => FillFor_any (fillW true f ze) (alW al ze kd) (siW si kd (isC t)) alt false wi gr pr (tyW t kd) W
    have k9 := fun W => FillFor_any f al si alt ze wi gr pr t W
    rw [hX] at k1 k2 k3 k7
    rw [hv] at k9
    rw [e1] at k4 k5 k6 k8
    rw [show suitW true (alW al ze kd) (siW si kd (isC t)) alt false gr pr (tyW t kd) kd = true by unfold suitW; rw [e2]; rfl] at k4 k5 k6
    rw [show alF true (alW al ze kd) false kd = alW al ze kd from e4] at k6
    rw [show alF true al ze kd = alW al ze kd from rfl] at k7
    rw [e3] at k8
    rw [show plainV true (fillW true f ze) (alW al ze kd) (siW si kd (isC t)) alt false wi gr pr (tyW t kd) kd = .agg #[.string (fillW true f ze), .int .i64 (alW al ze kd), .int .i64 (siW si kd (isC t)), .bool alt, .bool false, .int .i64 wi, .int .i64 gr, .int .i64 pr, .string (tyW t kd)] by unfold plainV; rw [if_pos rfl, e3, e4, e5, e6]] at k5
    rw [show plainV true f al si alt ze wi gr pr t kd = .agg #[.string (fillW true f ze), .int .i64 (alW al ze kd), .int .i64 (siW si kd (isC t)), .bool alt, .bool false, .int .i64 wi, .int .i64 gr, .int .i64 pr, .string (tyW t kd)] from rfl] at k1 k2
    clear e1 e2 e3 e4 e5 e6 hX hv
    generalize fillW true f ze = f' at *
    generalize alW al ze kd = al' at *
    generalize siW si kd (isC t) = si' at *
    generalize tyW t kd = t' at *
    have K1 := Lib.hid k1; have K2 := Lib.hid k2; have K3 := Lib.hid k3; have K4 := Lib.hid k4; have K5 := Lib.hid k5; have K6 := Lib.hid k6; have K7 := Lib.hid k7; have K8 := Lib.hid k8; have K9 := Lib.hid k9
    clear k1 k2 k3 k4 k5 k6 k7 k8 k9
    have za := (C9.new w1 (.string f) (.int .i64 al) (.int .i64 si) (.bool alt) (.bool ze) (.int .i64 wi) (.int .i64 gr) (.int .i64 pr) (.string t) 24)
    go_wp2_with (go_at_call 18; (with_reducible refine Calls.mono (K1.out _) ?_); rintro r w2 ⟨rfl, hb⟩; have hz2 := hb.size; (try simp at hz2); replace za := za.carry hb; have hB2 : Below w.heap.size w w2 := (by refine Below.trans ?_ (hb.mono (by first | omega | (simp; done) | (simp <;> omega))); repeat (first | with_reducible exact Below.refl _ _ | with_reducible assumption | with_reducible refine Below.setCell ?_ (by first | omega | (simp; done) | (simp <;> omega)) _ | with_reducible refine below_drewN ?_ _ | with_reducible refine Below.drew ?_ | with_reducible refine Below.alloc ?_ (by first | omega | (simp; done) | (simp <;> omega)) _)); clear hb)
    replace za := za.up (.cells #[.string f', .int .i64 al', .int .i64 si', .bool alt, .bool false, .int .i64 wi, .int .i64 gr, .int .i64 pr, .string t'] 24)
    have zb := C9.new w2 (.string f') (.int .i64 al') (.int .i64 si') (.bool alt) (.bool false) (.int .i64 wi) (.int .i64 gr) (.int .i64 pr) (.string t') 24
    clear hB
    have hB : Below w.heap.size w (w2.alloc (.cells #[.string f', .int .i64 al', .int .i64 si', .bool alt, .bool false, .int .i64 wi, .int .i64 gr, .int .i64 pr, .string t'] 24)) := hB2.alloc (by have := hB2.size; omega) _
    go_wp2
    obtain ⟨sza0, sza1, sza2, sza3, sza4, sza5, sza6, sza7, sza8⟩ := C9.since za
    obtain ⟨szb0, szb1, szb2, szb3, szb4, szb5, szb6, szb7, szb8⟩ := C9.since zb
    refine wp_region_since (by kernel_rfl) (by kernel_rfl) ?_
    repeat (quiet_step (first | (go_at_call 20; with_reducible exact Calls.since_of (K2.out _)) | (go_at_call 19; with_reducible exact Calls.since_of (equalSpec_self _ _ _ _ _ _ _ _ _ _)) | (go_at_call 16; with_reducible exact Calls.since_of (K3.out _)) | (go_at_call 16; with_reducible exact Calls.since_of (K4.out _)) | (go_at_call 18; with_reducible exact Calls.since_of (K5.out _)) | (go_at_call 14; with_reducible exact Calls.since_of (K6.out _)) | (go_at_call 14; with_reducible exact Calls.since_of (K7.out _)) | (go_at_call 21; with_reducible exact Calls.since_of (K8.out _)) | (go_at_call 21; with_reducible exact Calls.since_of (K9.out _))))
    refine wpQuiet_nil ?_
    intro w_ hw_
    obtain ⟨⟨w1, hb⟩, hw2⟩ := hw_
    have hw3 : w1 = w_ := hw2.symm
    clear hw2
    subst hw3
    clear sza0 sza1 sza2 sza3 sza4 sza5 sza6 sza7 sza8 szb0 szb1 szb2 szb3 szb4 szb5 szb6 szb7 szb8
    replace hB := hB.trans (hb.mono hB.size)
    have hz := hb.size
    replace za := C9.carry za hb
    have zz := za
    obtain ⟨x0, x1, x2, x3, x4, x5, x6, x7, x8, x9, xl⟩ := zz
    replace zb := C9.carry zb hb
    have zz := zb
    obtain ⟨x0, x1, x2, x3, x4, x5, x6, x7, x8, x9, xl⟩ := zz
    go_wp2
    obtain ⟨sza0, sza1, sza2, sza3, sza4, sza5, sza6, sza7, sza8⟩ := C9.since za
    obtain ⟨szb0, szb1, szb2, szb3, szb4, szb5, szb6, szb7, szb8⟩ := C9.since zb
    refine wp_region_since (by kernel_rfl) (by kernel_rfl) ?_
    repeat (quiet_step (first | (go_at_call 20; with_reducible exact Calls.since_of (K2.out _)) | (go_at_call 19; with_reducible exact Calls.since_of (equalSpec_self _ _ _ _ _ _ _ _ _ _)) | (go_at_call 16; with_reducible exact Calls.since_of (K3.out _)) | (go_at_call 16; with_reducible exact Calls.since_of (K4.out _)) | (go_at_call 18; with_reducible exact Calls.since_of (K5.out _)) | (go_at_call 14; with_reducible exact Calls.since_of (K6.out _)) | (go_at_call 14; with_reducible exact Calls.since_of (K7.out _)) | (go_at_call 21; with_reducible exact Calls.since_of (K8.out _)) | (go_at_call 21; with_reducible exact Calls.since_of (K9.out _))))
    refine wpQuiet_nil ?_
    intro w_ hw_
    obtain ⟨⟨w1, hb⟩, hw2⟩ := hw_
    have hw3 : w1 = w_ := hw2.symm
    clear hw2
    subst hw3
    clear sza0 sza1 sza2 sza3 sza4 sza5 sza6 sza7 sza8 szb0 szb1 szb2 szb3 szb4 szb5 szb6 szb7 szb8
    replace hB := hB.trans (hb.mono hB.size)
    have hz := hb.size
    replace za := C9.carry za hb
    have zz := za
    obtain ⟨x0, x1, x2, x3, x4, x5, x6, x7, x8, x9, xl⟩ := zz
    replace zb := C9.carry zb hb
    have zz := zb
    obtain ⟨x0, x1, x2, x3, x4, x5, x6, x7, x8, x9, xl⟩ := zz
    go_wp2
    go_ret
    exact ⟨rfl, (by repeat (first | with_reducible exact Below.refl _ _ | with_reducible assumption | with_reducible refine Below.setCell ?_ (by first | omega | (simp; done) | (simp <;> omega)) _ | with_reducible refine below_drewN ?_ _ | with_reducible refine Below.drew ?_ | with_reducible refine Below.alloc ?_ (by first | omega | (simp; done) | (simp <;> omega)) _))⟩

set_option maxRecDepth 100000 in
theorem FnPlainSpec_lifted (os : Os) (started : os.Started) (H : Type) (enc : TypeId × Value → H) :
    ReturnsInHanded {} Try.checked os 4 .any (Rows.fnPlainSpecSpec.pre6 enc Try.prog Try.f4 Rows.fnPlainSpecRow.domain false) (Rows.fnPlainSpecSpec.post enc Try.prog Try.f4 false true false false) := by
  refine returnsInHanded_of_change (C := Try.checked) Try.own started (by kernel_rfl) Try.func4
    (ChangeSpec.witness6 (enc := enc) (C := Try.checked) false ⟨#[], #[.slice none 0 0], []⟩ 8 (by kernel_rfl) (by kernel_rfl) (by kernel_rfl) (by kernel_rfl)) ?_
  intro W base args ds gs before hval0 hW hcnd _
  have hval : ∀ (j : Nat) t v, Try.f4.params[j]? = some t → args[j]? = some v → Value.okWide Try.prog W .any base t v := hval0
  have hW' := hW
  obtain ⟨p, q, hA0, hV, rfl, hfz, hnd⟩ := hW
  have hA : DataW.TrodAll enc Try.prog W 0 (fun _ => true) true Try.f4.params.toList args.toList ds p := hA0
  rw [Try.params4] at hA hval
  obtain ⟨v0, d0, rfl, rfl, h0⟩ := trodAll_one hA
  obtain ⟨rfl, rfl⟩ := trodVars_none hV
  obtain ⟨s, len, cap, rfl, hcap, hcode⟩ := open_code (hval 0 22 v0 rfl rfl) h0
  clear hA0 hval0
  have hlt := fun x hx => hW'.lt x hx
  refine (FnPlainSpec_law s len cap W hcode hcap).mono fun e_ W' ⟨he, hb⟩ => ?_
  subst he
  exact ⟨_, rfl, post_of_below (pa := p) (pv := []) hW' (fun _ _ _ => trodAll_mk1 (shut_bool Try.underlying4 true)) (fun sp hsp => trodAll_mk1 (code_back h0 hb (fun x hx => hlt x (by simp [hx])) (fun x hx => hsp x (by simp [hx])))) (fun _ _ => rfl) (by simp) hb (ok_one (by kernel_rfl) rfl (okWide_bool_mk Try.underlying4 true))⟩

theorem FnPlainSpec_holds : Rows.FnPlainSpecSaid :=
  OpenClaim.holds_of_wide 4 Try.f4 rfl rfl rfl rfl rfl rfl rfl ⟨rfl, rfl, rfl, rfl, rfl⟩ rfl rfl rfl rfl rfl (by kernel_rfl) Try.func4 (by kernel_rfl)
    (of_decide_eq_true (by kernel_rfl)) (by unfold Func.isWrapper; first | (rw [if_pos (by decide +kernel)]; kernel_rfl) | (rw [if_neg (by decide +kernel)]; exact ⟨rfl, rfl⟩))
    (fun os started H enc _ => FnPlainSpec_lifted os started H enc)
end Go.Proofs.Yteaaopippeploaa
