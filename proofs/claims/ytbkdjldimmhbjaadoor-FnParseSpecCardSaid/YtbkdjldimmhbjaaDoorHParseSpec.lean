/- Promise 16: proved for every input. No condition. The tables of the library that the row lists are tied to their text, or pinned. -/
import Derived.Test.YtbkdjldimmhbjaaDoorPS9
import Derived.Test.YtbkdjldimmhbjaaDoorDP1
import Derived.Test.YtbkdjldimmhbjaaDoorRC
import Derived.Test.YtbkdjldimmhbjaaDoorTie
import Derived.Test.YtbkdjldimmhbjaaDoorCards
import Derived.LaidMore
import Derived.Lay
import Derived.OpenShut
import Derived.Stop.Joined
import Derived.SevenTiedAt
namespace Go.Proofs.YtbkdjldimmhbjaaDoor
open Go Go.ChangeShapes Go.WideShapes Go.ChangeAt Go.WideMaps Go.WideElems Go.RowKit Go.Joins Go.ChangeMaps
set_option maxHeartbeats 1000000 in
theorem equalSpec_self (f : ByteArray) (al si : Int) (alt ze : Bool) (wi gr pr : Int) (t : ByteArray) (w : World) :
    Calls Tryd.prog 14 #[.agg #[.string f, .int .i64 al, .int .i64 si, .bool alt, .bool ze, .int .i64 wi, .int .i64 gr, .int .i64 pr, .string t], .agg #[.string f, .int .i64 al, .int .i64 si, .bool alt, .bool ze, .int .i64 wi, .int .i64 gr, .int .i64 pr, .string t]] w fun r w' => r = .returned (.bool true) ∧ Below w.heap.size w w' := by
  go_enter Tryd.func14, Tryd.ntmps14
  go_wp2
  go_ret
  exact ⟨rfl, (by repeat (first | with_reducible exact Below.refl _ _ | with_reducible assumption | with_reducible refine Below.setCell ?_ (by first | omega | (simp; done) | (simp <;> omega)) _ | with_reducible refine below_drewN ?_ _ | with_reducible refine Below.drew ?_ | with_reducible refine Below.alloc ?_ (by first | omega | (simp; done) | (simp <;> omega)) _))⟩


set_option maxHeartbeats 4000000 in
theorem FnParseSpec_law (s : Option Addr) (len cap : Nat) (w : World) (hcode : CodeAt s len w.heap.size w) (hcap : len ≤ cap) :
    Calls Tryd.prog 5 #[.slice s len cap] w fun r w' => r = .returned (.bool true) ∧ Below w.heap.size w w' := by
  by_cases hl : 1048576 < len
  · go_enter Tryd.func5, Tryd.ntmps5
    go_wp2
    go_ret
    exact ⟨rfl, (by repeat (first | with_reducible exact Below.refl _ _ | with_reducible assumption | with_reducible refine Below.setCell ?_ (by first | omega | (simp; done) | (simp <;> omega)) _ | with_reducible refine below_drewN ?_ _ | with_reducible refine Below.drew ?_ | with_reducible refine Below.alloc ?_ (by first | omega | (simp; done) | (simp <;> omega)) _))⟩
  go_enter Tryd.func5, Tryd.ntmps5
  go_wp2_with (go_at_call 13; (with_reducible refine Calls.mono (DrawParseSpec_any _ _ _ _ hcode hcap) ?_); rintro r w1 ⟨⟨x, rfl, hx⟩, hB⟩)
  have hz := hB.size
  have e : (⟨x.data.toList.toArray⟩ : ByteArray) = x := (of_list x).symm
  have k1 := fun W => ParseSpec_any x (by omega) W
  have k2 := fun W => ParseSpecS_any x.data.toList (by rw [Array.length_toList]; show x.size ≤ _; omega) W
  have ht := ps_tie x.data.toList
  rw [e] at k2 ht
  rw [ht] at k1
  have nb : ∀ b : Bool, (b != b) = false := by simp
  cases hok : ((mpG x.data.toList).fine && mpOk (mpG x.data.toList) x.data.toList)
  · have hX : mqV (mpG x.data.toList) x.data.toList = .tuple #[.agg #[.string ⟨#[]⟩, .int .i64 0, .int .i64 0, .bool false, .bool false, .int .i64 0, .int .i64 0, .int .i64 0, .string ⟨#[]⟩], .bool false] := by
      unfold mqV
      rw [hok]
      rfl
    rw [hX] at k1 k2
    have k3 := fun W => equalSpec_self ⟨#[]⟩ 0 0 false false 0 0 0 ⟨#[]⟩ W
    have K1 := Lib.hid k1; have K2 := Lib.hid k2; have K3 := Lib.hid k3
    clear k1 k2 k3 hX e ht hok
    go_wp2_with (first | (go_at_call 11; (with_reducible refine Calls.mono (K1.out _) ?_); rintro r w2 ⟨rfl, hb⟩; have hB1 : Below w.heap.size w w2 := (by refine Below.trans ?_ (hb.mono (by first | omega | (simp; done) | (simp <;> omega))); repeat (first | with_reducible exact Below.refl _ _ | with_reducible assumption | with_reducible refine Below.setCell ?_ (by first | omega | (simp; done) | (simp <;> omega)) _ | with_reducible refine below_drewN ?_ _ | with_reducible refine Below.drew ?_ | with_reducible refine Below.alloc ?_ (by first | omega | (simp; done) | (simp <;> omega)) _)); clear hB; have hB := hB1; clear hB1; have hz := hB.size) | (go_at_call 10; (with_reducible refine Calls.mono (K2.out _) ?_); rintro r w3 ⟨rfl, hb⟩; have hB1 : Below w.heap.size w w3 := (by refine Below.trans ?_ (hb.mono (by first | omega | (simp; done) | (simp <;> omega))); repeat (first | with_reducible exact Below.refl _ _ | with_reducible assumption | with_reducible refine Below.setCell ?_ (by first | omega | (simp; done) | (simp <;> omega)) _ | with_reducible refine below_drewN ?_ _ | with_reducible refine Below.drew ?_ | with_reducible refine Below.alloc ?_ (by first | omega | (simp; done) | (simp <;> omega)) _)); clear hB; have hB := hB1; clear hB1; have hz := hB.size; have zb := C9.carry (C9.new w2 (.string ⟨#[]⟩) (.int .i64 0) (.int .i64 0) (.bool false) (.bool false) (.int .i64 0) (.int .i64 0) (.int .i64 0) (.string ⟨#[]⟩) 25) hb; have zz := zb; obtain ⟨x0, x1, x2, x3, x4, x5, x6, x7, x8, xf, xl⟩ := zz) | (go_at_call 14; (with_reducible refine Calls.mono (K3.out _) ?_); rintro r w4 ⟨rfl, hb⟩; have hB1 : Below w.heap.size w w4 := (by refine Below.trans ?_ (hb.mono (by first | omega | (simp; done) | (simp <;> omega))); repeat (first | with_reducible exact Below.refl _ _ | with_reducible assumption | with_reducible refine Below.setCell ?_ (by first | omega | (simp; done) | (simp <;> omega)) _ | with_reducible refine below_drewN ?_ _ | with_reducible refine Below.drew ?_ | with_reducible refine Below.alloc ?_ (by first | omega | (simp; done) | (simp <;> omega)) _)); clear hB; have hB := hB1; clear hB1; have hz := hB.size; have zN := C9.carry_of zb (by repeat (first | with_reducible assumption | with_reducible apply C9.up)) hb; clear zb x0 x1 x2 x3 x4 x5 x6 x7 x8 xf xl; have zb := zN; clear zN; have zz := zb; obtain ⟨x0, x1, x2, x3, x4, x5, x6, x7, x8, xf, xl⟩ := zz; (first | (have zT := zc; clear zT; have zN := C9.carry_of zc (by repeat (first | with_reducible assumption | with_reducible apply C9.up)) hb; clear zc y0 y1 y2 y3 y4 y5 y6 y7 y8 yf yl; have zc := zN; clear zN; have zz := zc; obtain ⟨y0, y1, y2, y3, y4, y5, y6, y7, y8, yf, yl⟩ := zz) | (have zc := C9.carry (C9.new w3 (.string ⟨#[]⟩) (.int .i64 0) (.int .i64 0) (.bool false) (.bool false) (.int .i64 0) (.int .i64 0) (.int .i64 0) (.string ⟨#[]⟩) 25) hb; have zz := zc; obtain ⟨y0, y1, y2, y3, y4, y5, y6, y7, y8, yf, yl⟩ := zz))))
    all_goals go_ret
    all_goals exact ⟨rfl, (by repeat (first | with_reducible exact Below.refl _ _ | with_reducible assumption | with_reducible refine Below.setCell ?_ (by first | omega | (simp; done) | (simp <;> omega)) _ | with_reducible refine below_drewN ?_ _ | with_reducible refine Below.drew ?_ | with_reducible refine Below.alloc ?_ (by first | omega | (simp; done) | (simp <;> omega)) _))⟩
  · obtain ⟨hv, hs⟩ := okParse hok
    rw [e] at hs
    have hX : mqV (mpG x.data.toList) x.data.toList = .tuple #[.agg #[.string (mpG x.data.toList).f, .int .i64 (mpG x.data.toList).al, .int .i64 (mpG x.data.toList).si, .bool (mpG x.data.toList).alt, .bool (mpG x.data.toList).ze, .int .i64 (mpG x.data.toList).wi, .int .i64 (mpG x.data.toList).gr, .int .i64 (mpG x.data.toList).pr, .string ⟨(mpG x.data.toList).ty.toArray⟩], .bool true] := by
      unfold mqV
      rw [hok]
      rfl
    rw [hX] at k1 k2
    generalize mpG x.data.toList = M at *
    obtain ⟨f, al, si, alt, ze, wi, gr, pr, ty, fine⟩ := M
    dsimp only at k1 k2 hv hs
    generalize (⟨ty.toArray⟩ : ByteArray) = t at *
    have k3 := fun W => equalSpec_self f al si alt ze wi gr pr t W
    have k4 := fun W => SpecText_any f al si alt ze wi gr pr t W
    have k5 := fun W => ValidSpec_any f al si alt ze wi gr pr t W
    rw [hv] at k4 k5
    rw [hs] at k4
    have K1 := Lib.hid k1; have K2 := Lib.hid k2; have K3 := Lib.hid k3; have K4 := Lib.hid k4; have K5 := Lib.hid k5
    clear k1 k2 k3 k4 k5 hX e ht hok hv hs
    go_wp2_with (first | (go_at_call 11; (with_reducible refine Calls.mono (K1.out _) ?_); rintro r w2 ⟨rfl, hb⟩; have hB1 : Below w.heap.size w w2 := (by refine Below.trans ?_ (hb.mono (by first | omega | (simp; done) | (simp <;> omega))); repeat (first | with_reducible exact Below.refl _ _ | with_reducible assumption | with_reducible refine Below.setCell ?_ (by first | omega | (simp; done) | (simp <;> omega)) _ | with_reducible refine below_drewN ?_ _ | with_reducible refine Below.drew ?_ | with_reducible refine Below.alloc ?_ (by first | omega | (simp; done) | (simp <;> omega)) _)); clear hB; have hB := hB1; clear hB1; have hz := hB.size) | (go_at_call 10; (with_reducible refine Calls.mono (K2.out _) ?_); rintro r w3 ⟨rfl, hb⟩; have hB1 : Below w.heap.size w w3 := (by refine Below.trans ?_ (hb.mono (by first | omega | (simp; done) | (simp <;> omega))); repeat (first | with_reducible exact Below.refl _ _ | with_reducible assumption | with_reducible refine Below.setCell ?_ (by first | omega | (simp; done) | (simp <;> omega)) _ | with_reducible refine below_drewN ?_ _ | with_reducible refine Below.drew ?_ | with_reducible refine Below.alloc ?_ (by first | omega | (simp; done) | (simp <;> omega)) _)); clear hB; have hB := hB1; clear hB1; have hz := hB.size; have zb := C9.carry (C9.new w2 (.string f) (.int .i64 al) (.int .i64 si) (.bool alt) (.bool ze) (.int .i64 wi) (.int .i64 gr) (.int .i64 pr) (.string t) 25) hb; have zz := zb; obtain ⟨x0, x1, x2, x3, x4, x5, x6, x7, x8, xf, xl⟩ := zz) | (go_at_call 14; (with_reducible refine Calls.mono (K3.out _) ?_); rintro r w4 ⟨rfl, hb⟩; have hB1 : Below w.heap.size w w4 := (by refine Below.trans ?_ (hb.mono (by first | omega | (simp; done) | (simp <;> omega))); repeat (first | with_reducible exact Below.refl _ _ | with_reducible assumption | with_reducible refine Below.setCell ?_ (by first | omega | (simp; done) | (simp <;> omega)) _ | with_reducible refine below_drewN ?_ _ | with_reducible refine Below.drew ?_ | with_reducible refine Below.alloc ?_ (by first | omega | (simp; done) | (simp <;> omega)) _)); clear hB; have hB := hB1; clear hB1; have hz := hB.size; have zN := C9.carry_of zb (by repeat (first | with_reducible assumption | with_reducible apply C9.up)) hb; clear zb x0 x1 x2 x3 x4 x5 x6 x7 x8 xf xl; have zb := zN; clear zN; have zz := zb; obtain ⟨x0, x1, x2, x3, x4, x5, x6, x7, x8, xf, xl⟩ := zz; (first | (have zT := zc; clear zT; have zN := C9.carry_of zc (by repeat (first | with_reducible assumption | with_reducible apply C9.up)) hb; clear zc y0 y1 y2 y3 y4 y5 y6 y7 y8 yf yl; have zc := zN; clear zN; have zz := zc; obtain ⟨y0, y1, y2, y3, y4, y5, y6, y7, y8, yf, yl⟩ := zz) | (have zc := C9.carry (C9.new w3 (.string f) (.int .i64 al) (.int .i64 si) (.bool alt) (.bool ze) (.int .i64 wi) (.int .i64 gr) (.int .i64 pr) (.string t) 25) hb; have zz := zc; obtain ⟨y0, y1, y2, y3, y4, y5, y6, y7, y8, yf, yl⟩ := zz))) | (go_at_call 15; (with_reducible refine Calls.mono (K4.out _) ?_); rintro r w5 ⟨rfl, hb⟩; have hB1 : Below w.heap.size w w5 := (by refine Below.trans ?_ (hb.mono (by first | omega | (simp; done) | (simp <;> omega))); repeat (first | with_reducible exact Below.refl _ _ | with_reducible assumption | with_reducible refine Below.setCell ?_ (by first | omega | (simp; done) | (simp <;> omega)) _ | with_reducible refine below_drewN ?_ _ | with_reducible refine Below.drew ?_ | with_reducible refine Below.alloc ?_ (by first | omega | (simp; done) | (simp <;> omega)) _)); clear hB; have hB := hB1; clear hB1; have hz := hB.size; have zN := C9.carry_of zb (by repeat (first | with_reducible assumption | with_reducible apply C9.up)) hb; clear zb x0 x1 x2 x3 x4 x5 x6 x7 x8 xf xl; have zb := zN; clear zN; have zz := zb; obtain ⟨x0, x1, x2, x3, x4, x5, x6, x7, x8, xf, xl⟩ := zz) | (go_at_call 16; (with_reducible refine Calls.mono (K5.out _) ?_); rintro r w5 ⟨rfl, hb⟩; have hB1 : Below w.heap.size w w5 := (by refine Below.trans ?_ (hb.mono (by first | omega | (simp; done) | (simp <;> omega))); repeat (first | with_reducible exact Below.refl _ _ | with_reducible assumption | with_reducible refine Below.setCell ?_ (by first | omega | (simp; done) | (simp <;> omega)) _ | with_reducible refine below_drewN ?_ _ | with_reducible refine Below.drew ?_ | with_reducible refine Below.alloc ?_ (by first | omega | (simp; done) | (simp <;> omega)) _)); clear hB; have hB := hB1; clear hB1; have hz := hB.size))
    all_goals go_ret
    all_goals exact ⟨rfl, (by repeat (first | with_reducible exact Below.refl _ _ | with_reducible assumption | with_reducible refine Below.setCell ?_ (by first | omega | (simp; done) | (simp <;> omega)) _ | with_reducible refine below_drewN ?_ _ | with_reducible refine Below.drew ?_ | with_reducible refine Below.alloc ?_ (by first | omega | (simp; done) | (simp <;> omega)) _))⟩

def FnParseSpec_LL : List (String × DataW Unit) := [("math/bits.deBruijn32tab", Rows.laid_math_bits_deBruijn32tab), ("math/bits.deBruijn64tab", Rows.laid_math_bits_deBruijn64tab), ("internal/strconv.uint64pow10", Rows.laid_internal_strconv_uint64pow10)]

set_option maxRecDepth 100000 in
theorem FnParseSpec_lifted (os : Os) (started : os.Started) (H : Type) (enc : TypeId × Value → H) :
    ReturnsInHanded {} Tryd.checked os 5 .any (fun w args => (Rows.fnParseSpecSpec.pre enc Tryd.prog Tryd.f5 [] false w args ∧ laidMetH Tryd.prog FnParseSpec_LL w) ∧ sizedMet enc Tryd.prog Tryd.f5 (OpenSpec.ofChange Rows.fnParseSpecSpec) false w args) (Rows.fnParseSpecSpec.post enc Tryd.prog Tryd.f5 false true false false) := by
  refine returnsInHanded_of_change_and (C := Tryd.checked) (X := fun w _ => laidMetH Tryd.prog FnParseSpec_LL w) (fun _ _ _ hh h => h.of_heap hh) Tryd.own started (by kernel_rfl) Tryd.func5
    (ChangeSpec.witness_shaped (enc := enc) (C := Tryd.checked) (os := os) (X := fun w _ => laidMetH Tryd.prog FnParseSpec_LL w) false (World.laidAll Tryd.prog os FnParseSpec_LL) #[.slice none 0 0] 8 (World.laidAll_os _ _ _) (World.shaped_of_ZipB (by kernel_rfl) (by kernel_rfl)) (by kernel_rfl) (by kernel_rfl) (by kernel_rfl)
      (by rw [MakeChecks.laidMetH_plain _ _ _ (by kernel_rfl)]; exact laidMet_laidAll _ (by kernel_rfl) (by kernel_rfl))) ?_
  intro W base args ds gs before hval0 hW _ _ _ _
  have hval : ∀ (j : Nat) t v, Tryd.f5.params[j]? = some t → args[j]? = some v → Value.okWide Tryd.prog W .any base t v := hval0
  have hW' := hW
  obtain ⟨p, q, hA0, hV, rfl, hfz, hnd⟩ := hW
  have hA : DataW.TrodAll enc Tryd.prog W 0 (fun _ => true) true Tryd.f5.params.toList args.toList ds p := hA0
  rw [Tryd.params5] at hA hval
  obtain ⟨v0, d0, rfl, rfl, h0⟩ := trodAll_one hA
  obtain ⟨rfl, rfl⟩ := trodVars_none hV
  obtain ⟨s, len, cap, rfl, hcap, hcode⟩ := open_code (hval 0 29 v0 rfl rfl) h0
  clear hA0 hval0
  have hlt := fun x hx => hW'.lt x hx
  refine (FnParseSpec_law s len cap W hcode hcap).mono fun e_ W' ⟨he, hb⟩ => ?_
  subst he
  exact ⟨_, rfl, post_of_below (pa := p) (pv := []) hW' (fun _ _ _ => trodAll_mk1 (shut_bool Tryd.underlying4 true)) (fun sp hsp => trodAll_mk1 (code_back h0 hb (fun x hx => hlt x (by simp [hx])) (fun x hx => hsp x (by simp [hx])))) (fun _ _ => rfl) (by simp) hb (ok_one (by kernel_rfl) rfl (okWide_bool_mk Tryd.underlying4 true))⟩

theorem FnParseSpec_holds : Rows.FnParseSpecSaid :=
  OpenClaim.holds_of_wide 5 Tryd.f5 rfl rfl rfl rfl rfl rfl rfl ⟨rfl, rfl, rfl, rfl, rfl⟩ rfl rfl rfl rfl rfl (by kernel_rfl) Tryd.func5 (by kernel_rfl)
    (of_decide_eq_true (by kernel_rfl)) (by unfold Func.isWrapper; first | (rw [if_pos (by decide +kernel)]; kernel_rfl) | (rw [if_neg (by decide +kernel)]; exact ⟨rfl, rfl⟩))
    (fun os started H enc _ => FnParseSpec_lifted os started H enc)

theorem FnParseSpec_card : Rows.FnParseSpecCardSaid :=
  Claim7.holds_tied_plain_at .later [] [.data, .data, .data] true (true, "fee9ba43a5bc92e8161937ef9895e73e8cd13691ba930e1efe09308ff73dae64") false
    FnParseSpec_holds (fun _ h => by cases h) (by kernel_rfl) (fun _ h => by cases h) fnParseSpec_row_tie rfl ⟨rfl, rfl⟩ (by kernel_rfl) rfl
    (fun f fn hf hfn => by
      obtain rfl : f = 5 := Option.some.inj ((show Tryd.prog.funcNamed "loop.example/formatplans/laws.FnParseSpec" = some 5 by kernel_rfl).symm.trans hf) |>.symm
      obtain rfl : fn = Tryd.f5 := (Option.some.inj (Tryd.func5.symm.trans hfn)).symm
      exact ⟨by kernel_rfl, fun j t ht => by
        rw [Tryd.params5] at ht
        have hm : t ∈ [29] := by simpa using Array.mem_of_getElem? ht
        have hall : ([29].all fun u => !Tryd.prog.wantsStandIn u) = true := by kernel_rfl
        exact (show Tryd.prog.wantsStandIn t = false by simpa using List.all_eq_true.1 hall t hm)⟩)
    (by kernel_rfl)
end Go.Proofs.YtbkdjldimmhbjaaDoor
