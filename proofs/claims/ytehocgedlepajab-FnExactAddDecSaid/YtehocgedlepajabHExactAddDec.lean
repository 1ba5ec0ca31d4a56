/- The exact law of AddDec, proved: for every input the program's function answers as its model. No condition. -/
import Derived.Test.YtehocgedlepajabL1
import Derived.Test.YtehocgedlepajabS14
namespace Go.Proofs.Ytehocgedlepajab
open Go.ChangeShapes Go.WideShapes Go.ChangeAt Go.RowKit Go.Joins

set_option maxHeartbeats 2000000 in
theorem FnExactAddDec_law (n : Bool) (c e : Int) (n' : Bool) (c' e' : Int) (w : World) :
    Calls Try.prog 7 #[.agg #[.bool n, .int .i64 c, .int .i64 e], .agg #[.bool n', .int .i64 c', .int .i64 e']] w fun r w' => r = .returned (.bool true) ∧ Below w.heap.size w w' := by
  have k1 := fun W => AddDecS_any n c e n' c' e' W
  have k2 := fun W => AddDec_any n c e n' c' e' W
  rw [Fd.add_eq] at k1
  generalize Fd.addI ⟨n, c, e⟩ ⟨n', c', e'⟩ = R at *
  obtain ⟨⟨rn, rc, re⟩, rb⟩ := R
  dsimp only at k1 k2
  have K1 := Lib.hid k1; have K2 := Lib.hid k2
  clear k1 k2
  have za := (C3.new w (.bool n) (.int .i64 c) (.int .i64 e) 23).up (.cells #[.bool n', .int .i64 c', .int .i64 e'] 23)
  have zb : C3 ((w.alloc (.cells #[.bool n, .int .i64 c, .int .i64 e] 23)).alloc (.cells #[.bool n', .int .i64 c', .int .i64 e'] 23)) (w.heap.size + 1) (.bool n') (.int .i64 c') (.int .i64 e') := by
    have := C3.new (w.alloc (.cells #[.bool n, .int .i64 c, .int .i64 e] 23)) (.bool n') (.int .i64 c') (.int .i64 e') 23
    simpa using this
  go_enter Try.func7, Try.ntmps7
  go_wp2
  have hB : Below w.heap.size w ((w.alloc (.cells #[.bool n, .int .i64 c, .int .i64 e] 23)).alloc (.cells #[.bool n', .int .i64 c', .int .i64 e'] 23)) := (by repeat (first | with_reducible exact Below.refl _ _ | with_reducible assumption | with_reducible refine Below.setCell ?_ (by first | omega | (simp; done) | (simp <;> omega)) _ | with_reducible refine below_drewN ?_ _ | with_reducible refine Below.drew ?_ | with_reducible refine Below.alloc ?_ (by first | omega | (simp; done) | (simp <;> omega)) _))
  generalize hW : ((w.alloc (.cells #[.bool n, .int .i64 c, .int .i64 e] 23)).alloc (.cells #[.bool n', .int .i64 c', .int .i64 e'] 23)) = W at hB za zb ⊢
  clear hW
  have hBW := hB
  have zz := za
  obtain ⟨x0, x1, x2, x3, x4, x5, x6⟩ := zz
  have zz := zb
  obtain ⟨x0, x1, x2, x3, x4, x5, x6⟩ := zz
  go_cut [5, 6] from 9 (fun s5 s6 wx => ∃ g : Nat, s5 = .pointer (some ⟨g, 0, none⟩) ∧ s6 = .bool rb ∧ W.heap.size ≤ g ∧ C3 wx g (.bool rn) (.int .i64 rc) (.int .i64 re) ∧ Below W.heap.size W wx)
  case first =>
    have hS0 : (∀ b o, b < W.heap.size → W.cell? ⟨b, o, none⟩ = W.cell? ⟨b, o, none⟩) ∧ Below W.heap.size W W := ⟨fun _ _ _ => rfl, Below.refl _ _⟩; go_region_held3 (fun w_ => (∀ b o, b < W.heap.size → w_.cell? ⟨b, o, none⟩ = W.cell? ⟨b, o, none⟩) ∧ Below W.heap.size W w_) (repeat (first | with_reducible assumption | with_reducible refine keepD ?_ | with_reducible refine keepL ?_ _ | with_reducible refine keepS ?_ (by first | omega | (simp; done) | (simp <;> omega)) _ | with_reducible exact keepA (by with_reducible assumption) hb)) (first | (go_at_call_of 17 (Value.agg #[.bool n, .int .i64 c, .int .i64 e]); (with_reducible refine Calls.mono (toDec_any n c e _) ?_); rintro r w1 ⟨rfl, hb⟩; obtain ⟨hc, hf⟩ := bcell hb; have hz := hb.size; (try simp at hz); have hS1 := keepA (by with_reducible assumption) hb; have hzS := hS1.2.size; (try have zN := C3.carry (by first | with_reducible exact C3.new _ _ _ _ _ | with_reducible exact C3.drew (C3.new _ _ _ _ _)) hb); (try have zM := C3.carry (by with_reducible assumption) hb); (try simp only [World.size_alloc] at zN); (try (have zq := zN; obtain ⟨v0, v1, v2, v3, v4, v5, v6⟩ := zq)); (try (have zq := zM; obtain ⟨u0, u1, u2, u3, u4, u5, u6⟩ := zq))) | (go_at_call_of 17 (Value.agg #[.bool n', .int .i64 c', .int .i64 e']); (with_reducible refine Calls.mono (toDec_any n' c' e' _) ?_); rintro r w1 ⟨rfl, hb⟩; obtain ⟨hc, hf⟩ := bcell hb; have hz := hb.size; (try simp at hz); have hS1 := keepA (by with_reducible assumption) hb; have hzS := hS1.2.size; (try have zN := C3.carry (by first | with_reducible exact C3.new _ _ _ _ _ | with_reducible exact C3.drew (C3.new _ _ _ _ _)) hb); (try have zM := C3.carry (by with_reducible assumption) hb); (try simp only [World.size_alloc] at zN); (try (have zq := zN; obtain ⟨v0, v1, v2, v3, v4, v5, v6⟩ := zq)); (try (have zq := zM; obtain ⟨u0, u1, u2, u3, u4, u5, u6⟩ := zq))) | (go_at_call 26; (with_reducible refine Calls.mono (K1.out _) ?_); rintro r w1 ⟨rfl, hb⟩; obtain ⟨hc, hf⟩ := bcell hb; have hz := hb.size; (try simp at hz); have hS1 := keepA (by with_reducible assumption) hb; have hzS := hS1.2.size; (try have zN := C3.carry (by first | with_reducible exact C3.new _ _ _ _ _ | with_reducible exact C3.drew (C3.new _ _ _ _ _)) hb); (try have zM := C3.carry (by with_reducible assumption) hb); (try simp only [World.size_alloc] at zN); (try (have zq := zN; obtain ⟨v0, v1, v2, v3, v4, v5, v6⟩ := zq)); (try (have zq := zM; obtain ⟨u0, u1, u2, u3, u4, u5, u6⟩ := zq))))
    all_goals go_wp2_with fail
    all_goals go_meet
    all_goals go_light
    all_goals have hq := hS1.2
    all_goals refine ⟨_, rfl, rfl, by omega, ?_, (by repeat (first | with_reducible exact Below.refl _ _ | with_reducible assumption | with_reducible refine Below.setCell ?_ (by first | omega | (simp; done) | (simp <;> omega)) _ | with_reducible refine below_drewN ?_ _ | with_reducible refine Below.drew ?_ | with_reducible refine Below.alloc ?_ (by first | omega | (simp; done) | (simp <;> omega)) _))⟩
    all_goals first
      | with_reducible exact C3.new _ _ _ _ _
      | with_reducible exact finP (by with_reducible assumption) _ _ _
  case rest =>
    obtain ⟨g, rfl, rfl, hg, zc, hbc⟩ := hcut
    replace hB := hB.trans (hbc.mono hB.size)
    replace za := C3.carry za hbc
    replace zb := C3.carry zb hbc
    clear hbc
    generalize wc = W2 at *
    have zz := za
    obtain ⟨x0, x1, x2, x3, x4, x5, x6⟩ := zz
    have zz := zb
    obtain ⟨x0, x1, x2, x3, x4, x5, x6⟩ := zz
    go_upto_region 2 with fail
    go_cut [7, 8] from 17 (fun s5 s6 wx => ∃ g : Nat, s5 = .pointer (some ⟨g, 0, none⟩) ∧ s6 = .bool rb ∧ W2.heap.size ≤ g ∧ C3 wx g (.bool rn) (.int .i64 rc) (.int .i64 re) ∧ Below W2.heap.size W2 wx)
    case first =>
      have hS0 : (∀ b o, b < W2.heap.size → W2.cell? ⟨b, o, none⟩ = W2.cell? ⟨b, o, none⟩) ∧ Below W2.heap.size W2 W2 := ⟨fun _ _ _ => rfl, Below.refl _ _⟩; go_region_held3 (fun w_ => (∀ b o, b < W2.heap.size → w_.cell? ⟨b, o, none⟩ = W2.cell? ⟨b, o, none⟩) ∧ Below W2.heap.size W2 w_) (repeat (first | with_reducible assumption | with_reducible refine keepD ?_ | with_reducible refine keepL ?_ _ | with_reducible refine keepS ?_ (by first | omega | (simp; done) | (simp <;> omega)) _ | with_reducible exact keepA (by with_reducible assumption) hb)) (first | (go_at_call_of 17 (Value.agg #[.bool n, .int .i64 c, .int .i64 e]); (with_reducible refine Calls.mono (toDec_any n c e _) ?_); rintro r w1 ⟨rfl, hb⟩; obtain ⟨hc, hf⟩ := bcell hb; have hz := hb.size; (try simp at hz); have hS1 := keepA (by with_reducible assumption) hb; have hzS := hS1.2.size; (try have zN := C3.carry (by first | with_reducible exact C3.new _ _ _ _ _ | with_reducible exact C3.drew (C3.new _ _ _ _ _)) hb); (try have zM := C3.carry (by with_reducible assumption) hb); (try simp only [World.size_alloc] at zN); (try (have zq := zN; obtain ⟨v0, v1, v2, v3, v4, v5, v6⟩ := zq)); (try (have zq := zM; obtain ⟨u0, u1, u2, u3, u4, u5, u6⟩ := zq))) | (go_at_call_of 17 (Value.agg #[.bool n', .int .i64 c', .int .i64 e']); (with_reducible refine Calls.mono (toDec_any n' c' e' _) ?_); rintro r w1 ⟨rfl, hb⟩; obtain ⟨hc, hf⟩ := bcell hb; have hz := hb.size; (try simp at hz); have hS1 := keepA (by with_reducible assumption) hb; have hzS := hS1.2.size; (try have zN := C3.carry (by first | with_reducible exact C3.new _ _ _ _ _ | with_reducible exact C3.drew (C3.new _ _ _ _ _)) hb); (try have zM := C3.carry (by with_reducible assumption) hb); (try simp only [World.size_alloc] at zN); (try (have zq := zN; obtain ⟨v0, v1, v2, v3, v4, v5, v6⟩ := zq)); (try (have zq := zM; obtain ⟨u0, u1, u2, u3, u4, u5, u6⟩ := zq))) | (go_at_call 27; (with_reducible refine Calls.mono (K2.out _) ?_); rintro r w1 ⟨rfl, hb⟩; obtain ⟨hc, hf⟩ := bcell hb; have hz := hb.size; (try simp at hz); have hS1 := keepA (by with_reducible assumption) hb; have hzS := hS1.2.size; (try have zN := C3.carry (by first | with_reducible exact C3.new _ _ _ _ _ | with_reducible exact C3.drew (C3.new _ _ _ _ _)) hb); (try have zM := C3.carry (by with_reducible assumption) hb); (try simp only [World.size_alloc] at zN); (try (have zq := zN; obtain ⟨v0, v1, v2, v3, v4, v5, v6⟩ := zq)); (try (have zq := zM; obtain ⟨u0, u1, u2, u3, u4, u5, u6⟩ := zq))))
      all_goals go_wp2_with fail
      all_goals go_meet
      all_goals go_light
      all_goals have hq := hS1.2
      all_goals refine ⟨_, rfl, rfl, by omega, ?_, (by repeat (first | with_reducible exact Below.refl _ _ | with_reducible assumption | with_reducible refine Below.setCell ?_ (by first | omega | (simp; done) | (simp <;> omega)) _ | with_reducible refine below_drewN ?_ _ | with_reducible refine Below.drew ?_ | with_reducible refine Below.alloc ?_ (by first | omega | (simp; done) | (simp <;> omega)) _))⟩
      all_goals first
        | with_reducible exact C3.new _ _ _ _ _
        | with_reducible exact finP (by with_reducible assumption) _ _ _
    case rest =>
      obtain ⟨h, rfl, rfl, hh, zd, hbd⟩ := hcut
      replace hB := hB.trans (hbd.mono hB.size)
      replace zc := C3.carry zc hbd
      have zz := zc
      obtain ⟨x0, x1, x2, x3, x4, x5, x6⟩ := zz
      have zz := zd
      obtain ⟨y0, y1, y2, y3, y4, y5, y6⟩ := zz
      go_wp2_with (first | (go_at_call 21; (with_reducible refine Calls.mono (eqDec_self _ _ _ _) ?_); rintro r w1 ⟨rfl, hb⟩; have hB : Below w.heap.size w w1 := (by refine Below.trans ?_ (hb.mono (by first | omega | (simp; done) | (simp <;> omega))); repeat (first | with_reducible exact Below.refl _ _ | with_reducible assumption | with_reducible refine Below.setCell ?_ (by first | omega | (simp; done) | (simp <;> omega)) _ | with_reducible refine below_drewN ?_ _ | with_reducible refine Below.drew ?_ | with_reducible refine Below.alloc ?_ (by first | omega | (simp; done) | (simp <;> omega)) _)); have hz := hb.size; (try simp at hz); (try (have zN := C3.carry (by first | with_reducible exact za | with_reducible exact za.up _ | with_reducible exact (za.up _).up _ | with_reducible exact C3.drew za | with_reducible exact (C3.drew za).up _) hb; clear za; have za := zN; clear zN; have zz := za; obtain ⟨x0, x1, x2, x3, x4, x5, x6⟩ := zz)); (try (have zN := C3.carry (by first | with_reducible exact zb | with_reducible exact zb.up _ | with_reducible exact (zb.up _).up _ | with_reducible exact C3.drew zb | with_reducible exact (C3.drew zb).up _) hb; clear zb; have zb := zN; clear zN; have zz := zb; obtain ⟨x0, x1, x2, x3, x4, x5, x6⟩ := zz)); (try (have zN := C3.carry (by first | with_reducible exact zc | with_reducible exact zc.up _ | with_reducible exact (zc.up _).up _ | with_reducible exact C3.drew zc | with_reducible exact (C3.drew zc).up _) hb; clear zc; have zc := zN; clear zN; have zz := zc; obtain ⟨x0, x1, x2, x3, x4, x5, x6⟩ := zz)); (try (have zN := C3.carry (by first | with_reducible exact zd | with_reducible exact zd.up _ | with_reducible exact (zd.up _).up _ | with_reducible exact C3.drew zd | with_reducible exact (C3.drew zd).up _) hb; clear zd; have zd := zN; clear zN; have zz := zd; obtain ⟨x0, x1, x2, x3, x4, x5, x6⟩ := zz)); (try (have zN := C3.carry (by first | with_reducible exact ze | with_reducible exact ze.up _ | with_reducible exact (ze.up _).up _ | with_reducible exact C3.drew ze | with_reducible exact (C3.drew ze).up _) hb; clear ze; have ze := zN; clear zN; have zz := ze; obtain ⟨x0, x1, x2, x3, x4, x5, x6⟩ := zz)); (try (have zN := C3.carry (by first | with_reducible exact zf | with_reducible exact zf.up _ | with_reducible exact (zf.up _).up _ | with_reducible exact C3.drew zf | with_reducible exact (C3.drew zf).up _) hb; clear zf; have zf := zN; clear zN; have zz := zf; obtain ⟨x0, x1, x2, x3, x4, x5, x6⟩ := zz)); (try (first | (have zT := za; clear zT; (first | (have zT := zb; clear zT; (first | (have zT := zc; clear zT; (first | (have zT := zd; clear zT; (first | (have zT := ze; clear zT; (first | (have zT := zf; clear zT; (skip)) | (have zf := C3.carry (C3.new _ _ _ _ _) hb; have zz := zf; obtain ⟨x0, x1, x2, x3, x4, x5, x6⟩ := zz))) | (have ze := C3.carry (C3.new _ _ _ _ _) hb; have zz := ze; obtain ⟨x0, x1, x2, x3, x4, x5, x6⟩ := zz))) | (have zd := C3.carry (C3.new _ _ _ _ _) hb; have zz := zd; obtain ⟨x0, x1, x2, x3, x4, x5, x6⟩ := zz))) | (have zc := C3.carry (C3.new _ _ _ _ _) hb; have zz := zc; obtain ⟨x0, x1, x2, x3, x4, x5, x6⟩ := zz))) | (have zb := C3.carry (C3.new _ _ _ _ _) hb; have zz := zb; obtain ⟨x0, x1, x2, x3, x4, x5, x6⟩ := zz))) | (have za := C3.carry (C3.new _ _ _ _ _) hb; have zz := za; obtain ⟨x0, x1, x2, x3, x4, x5, x6⟩ := zz)))))
      go_ret
      exact ⟨rfl, (by repeat (first | with_reducible exact Below.refl _ _ | with_reducible assumption | with_reducible refine Below.setCell ?_ (by first | omega | (simp; done) | (simp <;> omega)) _ | with_reducible refine below_drewN ?_ _ | with_reducible refine Below.drew ?_ | with_reducible refine Below.alloc ?_ (by first | omega | (simp; done) | (simp <;> omega)) _))⟩

set_option maxRecDepth 100000 in
theorem FnExactAddDec_lifted (os : Os) (started : os.Started) (H : Type) (enc : TypeId × Value → H) :
    ReturnsInHanded {} Try.checked os 7 .any (Rows.fnExactAddDecSpec.pre6 enc Try.prog Try.f7 Rows.fnExactAddDecRow.domain false) (Rows.fnExactAddDecSpec.post enc Try.prog Try.f7 false true false false) := by
  refine returnsInHanded_of_change (C := Try.checked) Try.own started (by kernel_rfl) Try.func7
    (ChangeSpec.witness6 (enc := enc) (C := Try.checked) false ⟨#[], #[.agg #[.bool false, .int .i64 0, .int .i64 0], .agg #[.bool false, .int .i64 0, .int .i64 0]], []⟩ 8 (by kernel_rfl) (by kernel_rfl) (by kernel_rfl) (by kernel_rfl)) ?_
  intro W base args ds gs before hval0 hW hcnd _
  have hval : ∀ (j : Nat) t v, Try.f7.params[j]? = some t → args[j]? = some v → Value.okWide Try.prog W .any base t v := hval0
  have hW' := hW
  obtain ⟨p, q, hA0, hV, rfl, hfz, hnd⟩ := hW
  have hA : DataW.TrodAll enc Try.prog W 0 (fun _ => true) true Try.f7.params.toList args.toList ds p := hA0
  rw [Try.params7] at hA hval
  obtain ⟨v0, v1, d0, d1, p0, p1, rfl, rfl, rfl, h0, h1⟩ := trodAll_two hA
  obtain ⟨rfl, rfl⟩ := trodVars_none hV
  obtain ⟨x0, x1, x2, y0, y1, y2, m, rfl, rfl, rfl, hy0, hy1, hy2⟩ := open_agg3 Try.underlying23 (by kernel_rfl) Try.cellsL (hval 0 23 v0 rfl rfl) h0
  obtain ⟨n, q0, rfl⟩ := DataW.trod_bool Try.underlying4 hy0
  obtain ⟨c, q1, rfl, wc⟩ := DataW.trod_int Try.underlying3 hy1
  obtain ⟨e, q2, rfl, we⟩ := DataW.trod_int Try.underlying3 hy2
  simp at q0 q1 q2
  subst q0 q1 q2
  obtain ⟨x0', x1', x2', y0', y1', y2', m', rfl, rfl, rfl, hy0', hy1', hy2'⟩ := open_agg3 Try.underlying23 (by kernel_rfl) Try.cellsL (hval 1 23 v1 rfl rfl) h1
  obtain ⟨n', q0', rfl⟩ := DataW.trod_bool Try.underlying4 hy0'
  obtain ⟨c', q1', rfl, wc'⟩ := DataW.trod_int Try.underlying3 hy1'
  obtain ⟨e', q2', rfl, we'⟩ := DataW.trod_int Try.underlying3 hy2'
  simp at q0' q1' q2'
  subst q0' q1' q2'
  clear hA0 hval0
  simp only [List.append_nil] at hW'
  refine (FnExactAddDec_law n c e n' c' e' W).mono fun e_ W' ⟨he, hb⟩ => ?_
  subst he
  exact ⟨_, rfl, post_of_below (pa := []) (pv := []) hW' (fun _ _ _ => trodAll_mk1 (shut_bool Try.underlying4 true)) (fun sp _ => trodAll_mk2 (readsDec n wc we) (readsDec n' wc' we')) (fun _ _ => rfl) rfl hb (ok_one (by kernel_rfl) rfl (okWide_bool_mk Try.underlying4 true))⟩

theorem FnExactAddDec_holds : Rows.FnExactAddDecSaid :=
  OpenClaim.holds_of_wide 7 Try.f7 rfl rfl rfl rfl rfl rfl rfl ⟨rfl, rfl, rfl, rfl, rfl⟩ rfl rfl rfl rfl rfl (by kernel_rfl) Try.func7 (by kernel_rfl)
    (of_decide_eq_true (by kernel_rfl)) (by unfold Func.isWrapper; first | (rw [if_pos (by decide +kernel)]; kernel_rfl) | (rw [if_neg (by decide +kernel)]; exact ⟨rfl, rfl⟩))
    (fun os started H enc _ => FnExactAddDec_lifted os started H enc)
end Go.Proofs.Ytehocgedlepajab
