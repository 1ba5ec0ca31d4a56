/- Promise 40: proved for every input. No condition. -/
import Derived.Test.YtcbpocpkfmbaoaaT2
import Derived.Test.YtcbpocpkfmbaoaaTDV
import Derived.Test.YtcbpocpkfmbaoaaRC
namespace Go.Proofs.Ytcbpocpkfmbaoaa
open Go.ChangeShapes Go.WideShapes Go.ChangeAt Go.RowKit Go.Joins Go.ChangeMaps

theorem prL_take {l : List UInt8} (h : prL l = true) (k : Nat) : prL (l.take k) = true := by
  unfold prL at *
  rw [List.all_eq_true] at *
  exact fun x hx => h x (List.mem_of_mem_take hx)
theorem vtB_take {s : ByteArray} (h : vtB s = true) (k : Nat) : vtB (s.extract 0 k) = true := by
  have e := ext_take k s.data.toList
  rw [← of_list s] at e
  unfold vtB at *
  simp only [Bool.and_eq_true, decide_eq_true_eq] at *
  refine ⟨by rw [ByteArray.size_extract]; omega, ?_⟩
  rw [e]
  exact prL_take h.2 k
theorem vtB_nl (s : ByteArray) : vtB (s ++ ⟨#[10]⟩) = false := by
  unfold vtB
  rw [ByteArray.data_append, Array.toList_append]
  unfold prL
  rw [List.all_append]
  simp
  intro _ _
  decide
set_option maxRecDepth 100000 in
set_option maxHeartbeats 4000000 in
theorem FnValidText_law (s : Option Addr) (len cap : Nat) (w : World) (hcode : CodeAt s len w.heap.size w) (hcap : len ≤ cap) :
    Calls Try.prog 3 #[.slice s len cap] w fun r w' => r = .returned (.bool true) ∧ Below w.heap.size w w' := by
  by_cases hl : 1048576 < len
  · go_enter Try.func3, Try.ntmps3
    go_wp2
    go_ret
    exact ⟨rfl, (by repeat (first | with_reducible exact Below.refl _ _ | with_reducible assumption | with_reducible refine Below.setCell ?_ (by first | omega | (simp; done) | (simp <;> omega)) _ | with_reducible refine below_drewN ?_ _ | with_reducible refine Below.drew ?_ | with_reducible refine Below.alloc ?_ (by first | omega | (simp; done) | (simp <;> omega)) _))⟩
  go_enter Try.func3, Try.ntmps3
  go_wp2_with (go_at_call 11; (with_reducible refine Calls.mono (DrawValidText_any _ _ _ _ hcode hcap) ?_); rintro r w1 ⟨⟨T, rfl, hT⟩, hB⟩)
  have k1 := fun W => mBn (ValidText_any T (by omega) W)
  have k2 := fun W => mBn (ValidTextS_any T (by omega) W)
  cases hv : vtB T
  · rw [hv] at k1 k2
    have K1 := Lib.hid k1; have K2 := Lib.hid k2
    clear k1 k2
    go_wp2_with (first | (go_at_call 12; (with_reducible refine Calls.mono (K1.out _) ?_); rintro r w1 ⟨rfl, hb⟩; replace hB := hB.trans (hb.mono hB.size)) | (go_at_call 13; (with_reducible refine Calls.mono (K2.out _) ?_); rintro r w1 ⟨rfl, hb⟩; replace hB := hB.trans (hb.mono hB.size)))
    all_goals go_ret
    all_goals exact ⟨rfl, hB⟩
  · have k3 := fun W => mBn (ValidText_any (T.extract 0 (T.size / 2)) (by rw [ByteArray.size_extract]; omega) W)
    have k4 := fun W => mBn (ValidText_any ⟨#[]⟩ (by decide) W)
    have k5 := fun W => mBn (ValidText_any (T ++ ⟨#[10]⟩) (by rw [ByteArray.size_append]; show T.size + 1 ≤ _; omega) W)
    rw [hv] at k1 k2
    rw [vtB_take hv] at k3
    rw [show vtB ⟨#[]⟩ = true by decide] at k4
    rw [vtB_nl] at k5
    have hq : T.size / 2 ≤ T.size := Nat.div_le_self _ _
    have htd : (T.size : Int).tdiv 2 = ((T.size / 2 : Nat) : Int) := tdivN T.size 2
    have hdv : (T.size : Int) / 2 = ((T.size / 2 : Nat) : Int) := by omega
    generalize T.size / 2 = q at *
    have hwq : IntKind.i64.wrap (q : Int) = q := IntWalk.i64_in _ (by omega)
    have K1 := Lib.hid k1; have K2 := Lib.hid k2; have K3 := Lib.hid k3; have K4 := Lib.hid k4; have K5 := Lib.hid k5
    clear k1 k2 k3 k4 k5
    go_wp2_with (first | (go_at_call 12; (with_reducible refine Calls.mono (K1.out _) ?_); rintro r w1 ⟨rfl, hb⟩; replace hB := hB.trans (hb.mono hB.size)) | (go_at_call 13; (with_reducible refine Calls.mono (K2.out _) ?_); rintro r w1 ⟨rfl, hb⟩; replace hB := hB.trans (hb.mono hB.size)) | (go_at_call 12; (with_reducible refine Calls.mono (K3.out _) ?_); rintro r w1 ⟨rfl, hb⟩; replace hB := hB.trans (hb.mono hB.size)) | (go_at_call 12; (with_reducible refine Calls.mono (K4.out _) ?_); rintro r w1 ⟨rfl, hb⟩; replace hB := hB.trans (hb.mono hB.size)) | (go_at_call 12; (with_reducible refine Calls.mono (K5.out _) ?_); rintro r w1 ⟨rfl, hb⟩; replace hB := hB.trans (hb.mono hB.size)))
    all_goals (try go_ret)
    all_goals exact ⟨rfl, hB⟩

set_option maxRecDepth 100000 in
theorem FnValidText_lifted (os : Os) (started : os.Started) (H : Type) (enc : TypeId × Value → H) :
    ReturnsInHanded {} Try.checked os 3 .any (Rows.fnValidTextSpec.pre6 enc Try.prog Try.f3 Rows.fnValidTextRow.domain false) (Rows.fnValidTextSpec.post enc Try.prog Try.f3 false true false false) := by
  refine returnsInHanded_of_change (C := Try.checked) Try.own started (by kernel_rfl) Try.func3
    (ChangeSpec.witness6 (enc := enc) (C := Try.checked) false ⟨#[], #[.slice none 0 0], []⟩ 8 (by kernel_rfl) (by kernel_rfl) (by kernel_rfl) (by kernel_rfl)) ?_
  intro W base args ds gs before hval0 hW hcnd _
  have hval : ∀ (j : Nat) t v, Try.f3.params[j]? = some t → args[j]? = some v → Value.okWide Try.prog W .any base t v := hval0
  have hW' := hW
  obtain ⟨p, q, hA0, hV, rfl, hfz, hnd⟩ := hW
  have hA : DataW.TrodAll enc Try.prog W 0 (fun _ => true) true Try.f3.params.toList args.toList ds p := hA0
  rw [Try.params3] at hA hval
  obtain ⟨v0, d0, rfl, rfl, h0⟩ := trodAll_one hA
  obtain ⟨rfl, rfl⟩ := trodVars_none hV
  obtain ⟨s, len, cap, rfl, hcap, hcode⟩ := open_code (hval 0 22 v0 rfl rfl) h0
  clear hA0 hval0
  have hlt := fun x hx => hW'.lt x hx
  refine (FnValidText_law s len cap W hcode hcap).mono fun e_ W' ⟨he, hb⟩ => ?_
  subst he
  exact ⟨_, rfl, post_of_below (pa := p) (pv := []) hW' (fun _ _ _ => trodAll_mk1 (shut_bool Try.underlying4 true)) (fun sp hsp => trodAll_mk1 (code_back h0 hb (fun x hx => hlt x (by simp [hx])) (fun x hx => hsp x (by simp [hx])))) (fun _ _ => rfl) (by simp) hb (ok_one (by kernel_rfl) rfl (okWide_bool_mk Try.underlying4 true))⟩

theorem FnValidText_holds : Rows.FnValidTextSaid :=
  OpenClaim.holds_of_wide 3 Try.f3 rfl rfl rfl rfl rfl rfl rfl ⟨rfl, rfl, rfl, rfl, rfl⟩ rfl rfl rfl rfl rfl (by kernel_rfl) Try.func3 (by kernel_rfl)
    (of_decide_eq_true (by kernel_rfl)) (by unfold Func.isWrapper; first | (rw [if_pos (by decide +kernel)]; kernel_rfl) | (rw [if_neg (by decide +kernel)]; exact ⟨rfl, rfl⟩))
    (fun os started H enc _ => FnValidText_lifted os started H enc)
end Go.Proofs.Ytcbpocpkfmbaoaa
