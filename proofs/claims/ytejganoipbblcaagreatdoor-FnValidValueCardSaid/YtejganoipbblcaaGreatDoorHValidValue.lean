/- Promise 50: proved for every input. No condition. The tables of the library that the row lists are tied to their text, or pinned. -/
import Derived.Test.YtejganoipbblcaaGreatDoorGVD
import Derived.Test.YtejganoipbblcaaGreatDoorGV2
import Derived.Test.YtejganoipbblcaaGreatDoorRC
import Derived.Test.YtejganoipbblcaaGreatDoorZ10
import Derived.Test.YtejganoipbblcaaGreatDoorTie
import Derived.Test.YtejganoipbblcaaGreatDoorCards
import Derived.LaidMore
import Derived.Lib.LaidTab
import Derived.Stop.LaidErr
import Derived.Handy
import Derived.Deep.LoopGhost
import Derived.Lay
import Derived.OpenShut
import Derived.Stop.Joined
import Derived.SevenTiedAt
namespace Go.Proofs.YtejganoipbblcaaGreatDoor
open Go Go.ChangeShapes Go.WideShapes Go.ChangeAt Go.WideMaps Go.WideElems Go.RowKit Go.Joins Go.ChangeMaps
theorem ValidValueS_any (k i : Int) (n : Bool) (c e : Int) (x : ByteArray) (hx : x.size ≤ 9223372036854775807) (w : World) :
    Calls Tryz.prog 28 #[.agg #[.int .i64 k, .int .i64 i, .bool n, .int .i64 c, .int .i64 e, .string x]] w fun r w' => r = .returned (.bool (vvB k i n c e x)) ∧ Below w.heap.size w w' := by
  have k1 := fun W => validValueS_any k i n c e x hx W
  generalize vvB k i n c e x = b at *
  have K1 := Lib.hid k1
  clear k1
  have hB : Below w.heap.size w (w.alloc (.cells #[.int .i64 k, .int .i64 i, .bool n, .int .i64 c, .int .i64 e, .string x] 33)) := Below.alloc (Below.refl _ _) (Nat.le_refl _) _
  go_enter Tryz.func28, Tryz.ntmps28
  go_wp2_with (go_at_call 78; (with_reducible refine Calls.mono (K1.out _) ?_); rintro r w1 ⟨rfl, hb⟩; replace hB := hB.trans (hb.mono hB.size))
  go_ret
  exact ⟨rfl, hB⟩

set_option maxHeartbeats 1000000 in
theorem bare_any (w : World) : Calls Tryz.prog 29 #[] w fun r w' => r = .returned (.agg #[.string ⟨#[]⟩, .int .i64 0, .int .i64 0, .bool false, .bool false, .int .i64 0, .int .i64 0, .int .i64 (-1), .string ⟨#[]⟩]) ∧ Below w.heap.size w w' := by
  go_enter Tryz.func29, Tryz.ntmps29
  go_wp2
  refine bodyPost_ret (v := .agg #[.string ⟨#[]⟩, .int .i64 0, .int .i64 0, .bool false, .bool false, .int .i64 0, .int .i64 0, .int .i64 (-1), .string ⟨#[]⟩]) ?_ rfl ⟨rfl, (by repeat (first | with_reducible exact Below.refl _ _ | with_reducible assumption | with_reducible refine Below.setCell ?_ (by first | omega | (simp; done) | (simp <;> omega)) _ | with_reducible refine below_drewN ?_ _ | with_reducible refine Below.drew ?_ | with_reducible refine Below.alloc ?_ (by first | omega | (simp; done) | (simp <;> omega)) _))⟩
  simp [results, Tryz.results29, go_sem, *]
theorem bare_ok {k i : Int} {n : Bool} {c e : Int} {x : ByteArray} (hv : vvB k i n c e x = true) : fvB ⟨#[]⟩ 0 0 false false 0 0 (-1) ⟨#[]⟩ k i n c e x = true := by
  unfold fvB
  rw [hv]
  rcases kind_of hv with rfl | rfl | rfl <;> rfl
set_option maxRecDepth 100000 in
set_option maxHeartbeats 16000000 in
theorem FnValidValue_law (s : Option Addr) (len cap : Nat) (w : World) (hT : PT w) (hD : DT w) (hcode : CodeAt s len w.heap.size w) (hcap : len ≤ cap) :
    Calls Tryz.prog 8 #[.slice s len cap] w fun r w' => r = .returned (.bool true) ∧ Below w.heap.size w w' := by
  by_cases hl : 1048576 < len
  · go_enter Tryz.func8, Tryz.ntmps8
    go_wp2
    go_ret
    exact ⟨rfl, (by repeat (first | with_reducible exact Below.refl _ _ | with_reducible assumption | with_reducible refine Below.setCell ?_ (by first | omega | (simp; done) | (simp <;> omega)) _ | with_reducible refine below_drewN ?_ _ | with_reducible refine Below.drew ?_ | with_reducible refine Below.alloc ?_ (by first | omega | (simp; done) | (simp <;> omega)) _))⟩
  go_enter Tryz.func8, Tryz.ntmps8
  go_wp2_with (go_at_call 26; (with_reducible refine Calls.mono (DrawValidValue_any _ _ _ _ hcode hcap) ?_); rintro r w1 ⟨⟨k, i, n, c, e, x, rfl, hxs⟩, hB⟩; have hz := hB.size)
  have hx : x.size ≤ 9223372036854775807 := by omega
  have k1 := fun W => ValidValue_any k i n c e x hx W
  have k2 := fun W => ValidValueS_any k i n c e x hx W
  have hz := hB.size
  have zv : C6 (w1.alloc (.cells #[.int .i64 k, .int .i64 i, .bool n, .int .i64 c, .int .i64 e, .string x] 33)) (w1.heap.size) (.int .i64 k) (.int .i64 i) (.bool n) (.int .i64 c) (.int .i64 e) (.string x) := by
    have h := C6.new w1 (.int .i64 k) (.int .i64 i) (.bool n) (.int .i64 c) (.int .i64 e) (.string x) 33
    exact h
  replace hB : Below w.heap.size w (w1.alloc (.cells #[.int .i64 k, .int .i64 i, .bool n, .int .i64 c, .int .i64 e, .string x] 33)) := (hB).alloc (by first | omega | (simp; omega)) _
  have zz := zv; obtain ⟨zv_c0, zv_c1, zv_c2, zv_c3, zv_c4, zv_c5, zv_fz, zv_lt⟩ := zz
  cases hv : vvB k i n c e x
  · rw [hv] at k1 k2
    clear hv
    have K1 := Lib.hid k1; have K2 := Lib.hid k2
    clear k1 k2
    go_wp2_with (first | (go_at_call 27; (with_reducible refine Calls.mono (K1.out _) ?_); rintro r w2 ⟨rfl, hb⟩; replace hB := hB.trans (hb.mono hB.size); have hz := hb.size; replace zv := C6.carry zv hb; have zz := zv; obtain ⟨zv_c0, zv_c1, zv_c2, zv_c3, zv_c4, zv_c5, zv_fz, zv_lt⟩ := zz) | (go_at_call 28; (with_reducible refine Calls.mono (K2.out _) ?_); rintro r w2 ⟨rfl, hb⟩; replace hB := hB.trans (hb.mono hB.size); have hz := hb.size; replace zv := C6.carry zv hb; have zz := zv; obtain ⟨zv_c0, zv_c1, zv_c2, zv_c3, zv_c4, zv_c5, zv_fz, zv_lt⟩ := zz))
    all_goals go_ret
    all_goals exact ⟨rfl, hB⟩
  · have k3 := fun W h h' => FormatValue_any ⟨#[]⟩ 0 0 false false 0 0 (-1) ⟨#[]⟩ k i n c e x hx W h h'
    rw [bare_ok hv] at k3
    generalize fvW ⟨#[]⟩ 0 0 false false 0 0 (-1) ⟨#[]⟩ k i n c e x = X at *
    rw [hv] at k1 k2
    have hk := kind_of hv
    have i1 : 0 ≤ k := by omega
    have i2 : k ≤ 2 := by omega
    clear hv hk
    have K1 := Lib.hid k1; have K2 := Lib.hid k2; have K3 := Lib.hid k3
    clear k1 k2 k3
    go_wp2_with (first | (go_at_call 27; (with_reducible refine Calls.mono (K1.out _) ?_); rintro r w2 ⟨rfl, hb⟩; replace hB := hB.trans (hb.mono hB.size); have hz := hb.size; replace zv := C6.carry zv hb; have zz := zv; obtain ⟨zv_c0, zv_c1, zv_c2, zv_c3, zv_c4, zv_c5, zv_fz, zv_lt⟩ := zz) | (go_at_call 28; (with_reducible refine Calls.mono (K2.out _) ?_); rintro r w2 ⟨rfl, hb⟩; replace hB := hB.trans (hb.mono hB.size); have hz := hb.size; replace zv := C6.carry zv hb; have zz := zv; obtain ⟨zv_c0, zv_c1, zv_c2, zv_c3, zv_c4, zv_c5, zv_fz, zv_lt⟩ := zz))
    obtain ⟨szv0, szv1, szv2, szv3, szv4, szv5⟩ := C6.since zv
    refine wp_region_since (by kernel_rfl) (by kernel_rfl) ?_
    repeat (quiet_step (first | (go_at_call 29; with_reducible exact Calls.since_of (bare_any _)) | (go_at_call 16; with_reducible exact Calls.since_of (K3.out _ (hT.on (hB.trans (Below.mono (Since.h _) hB.size))) (hD.on (hB.trans (Below.mono (Since.h _) hB.size)))))))
    refine wpQuiet_nil ?_
    intro w_ hw_
    obtain ⟨⟨w1, hb⟩, hw2⟩ := hw_
    have hw3 : w1 = w_ := hw2.symm
    clear hw2
    subst hw3
    clear szv0 szv1 szv2 szv3 szv4 szv5
    replace hB := hB.trans (hb.mono hB.size)
    have hz := hb.size
    replace zv := C6.carry zv hb
    have zz := zv; obtain ⟨zv_c0, zv_c1, zv_c2, zv_c3, zv_c4, zv_c5, zv_fz, zv_lt⟩ := zz
    go_wp2
    all_goals go_ret
    all_goals exact ⟨rfl, hB⟩

def FnValidValue_LL : List (String × DataW Unit) := [("math/bits.deBruijn32tab", Rows.laid_math_bits_deBruijn32tab), ("math/bits.deBruijn64tab", Rows.laid_math_bits_deBruijn64tab), ("internal/strconv.uint64pow10", Rows.laid_internal_strconv_uint64pow10), ("unicode/utf8.acceptRanges", Rows.laid_unicode_utf8_acceptRanges), ("unicode.CaseRanges", Rows.laid_unicode_CaseRanges), ("unicode/utf8.first", Rows.laid_unicode_utf8_first)]

set_option maxRecDepth 100000 in
theorem FnValidValue_lifted (os : Os) (started : os.Started) (H : Type) (enc : TypeId × Value → H) :
    ReturnsInHanded {} Tryz.checked os 8 .any (fun w args => (Rows.fnValidValueSpec.pre enc Tryz.prog Tryz.f8 [] false w args ∧ laidMetH Tryz.prog FnValidValue_LL w) ∧ sizedMet enc Tryz.prog Tryz.f8 (OpenSpec.ofChange Rows.fnValidValueSpec) false w args) (Rows.fnValidValueSpec.post enc Tryz.prog Tryz.f8 false true false false) := by
  refine returnsInHanded_of_change_and (C := Tryz.checked) (X := fun w _ => laidMetH Tryz.prog FnValidValue_LL w) (fun _ _ _ hh h => h.of_heap hh) Tryz.own started (by kernel_rfl) Tryz.func8
    (ChangeSpec.witness_shaped (enc := enc) (C := Tryz.checked) (os := os) (X := fun w _ => laidMetH Tryz.prog FnValidValue_LL w) false (World.laidAll Tryz.prog os FnValidValue_LL) #[.slice none 0 0] 8 (World.laidAll_os _ _ _) (World.shaped_of_ZipB (by kernel_rfl) (by kernel_rfl)) (by kernel_rfl) (by kernel_rfl) (by kernel_rfl)
      (by rw [MakeChecks.laidMetH_plain _ _ _ (by kernel_rfl)]; exact laidMet_laidAll _ (by kernel_rfl) (by kernel_rfl))) ?_
  intro W base args ds gs before hval0 hW _ _ hL _
  rw [MakeChecks.laidMetH_plain _ _ _ (by kernel_rfl)] at hL
  have hT := p10_is hL
  have hD := dt_ofZ hL
  have hval : ∀ (j : Nat) t v, Tryz.f8.params[j]? = some t → args[j]? = some v → Value.okWide Tryz.prog W .any base t v := hval0
  have hW' := hW
  obtain ⟨p, q, hA0, hV, rfl, hfz, hnd⟩ := hW
  have hA : DataW.TrodAll enc Tryz.prog W 0 (fun _ => true) true Tryz.f8.params.toList args.toList ds p := hA0
  rw [Tryz.params8] at hA hval
  obtain ⟨v0, d0, rfl, rfl, h0⟩ := trodAll_one hA
  obtain ⟨rfl, rfl⟩ := trodVars_none hV
  obtain ⟨s, len, cap, rfl, hcap, hcode⟩ := open_code (hval 0 22 v0 rfl rfl) h0
  clear hA0 hval0
  have hlt := fun x hx => hW'.lt x hx
  refine (FnValidValue_law s len cap W hT hD hcode hcap).mono fun e_ W' ⟨he, hb⟩ => ?_
  subst he
  exact ⟨_, rfl, post_of_below (pa := p) (pv := []) hW' (fun _ _ _ => trodAll_mk1 (shut_bool Tryz.underlying4 true)) (fun sp hsp => trodAll_mk1 (code_back h0 hb (fun x hx => hlt x (by simp [hx])) (fun x hx => hsp x (by simp [hx])))) (fun _ _ => rfl) (by simp) hb (ok_one (by kernel_rfl) rfl (okWide_bool_mk Tryz.underlying4 true))⟩


theorem and_t {a b : Bool} (h : a = true) (k : b = true) : (a && b) = true := by rw [h, k]; rfl
theorem FnValidValue_q1 : (Rows.fnValidValueRow.wf (OpenSpec.ofChange Rows.fnValidValueSpec)) = true := by kernel_rfl
theorem FnValidValue_q2 : (laidOutB Tryz.prog) = true := by kernel_rfl
theorem FnValidValue_q3 : (mapsRowed Tryz.prog) = true := by kernel_rfl
theorem FnValidValue_q4 : (Tryz.f8.params.all (Tryz.prog.readableRec ·)) = true := by kernel_rfl
theorem FnValidValue_q5 : (namedTie Tryz.prog Rows.fnValidValueRow.named Rows.fnValidValueSpec.vars) = true := by kernel_rfl
theorem FnValidValue_q6 : ((Rows.fnValidValueRow.stops == [])) = true := by kernel_rfl
theorem FnValidValue_q7 : ((Tryz.prog.stops == [])) = true := by kernel_rfl
theorem FnValidValue_q8 : ((Rows.fnValidValueRow.knobs == [])) = true := by kernel_rfl
theorem FnValidValue_q9 : ((Tryz.prog.stopKnobs == [])) = true := by kernel_rfl
theorem FnValidValue_q10 : ((Rows.fnValidValueRow.inPlace == Tryz.prog.inPlace 8)) = true := by kernel_rfl
theorem FnValidValue_q11 : ((Rows.fnValidValueRow.unfollowed == Tryz.prog.unfollowed 8)) = true := by kernel_rfl
theorem FnValidValue_q12 : ((Rows.fnValidValueRow.recurses == Tryz.prog.recurses 8)) = true := by kernel_rfl
theorem FnValidValue_q13 : ((Rows.fnValidValueRow.named == Tryz.prog.varsNamed 8)) = true := by kernel_rfl
theorem FnValidValue_q14 : ((Rows.fnValidValueRow.maps == (Tryz.f8.params.toList ++ Rows.fnValidValueSpec.plain.varTypes Tryz.prog).any (Tryz.prog.mapsRec ·))) = true := by kernel_rfl
theorem FnValidValue_q15 : ((Rows.fnValidValueRow.ifaces == (Tryz.f8.params.toList ++ Rows.fnValidValueSpec.plain.varTypes Tryz.prog).any (Tryz.prog.ifacesRec ·))) = true := by kernel_rfl
theorem FnValidValue_q16 : ((Rows.fnValidValueRow.mapsOut == Tryz.prog.mapsAmong Tryz.f8.resultTypes.toList)) = true := by kernel_rfl
theorem FnValidValue_q17 : ((Rows.fnValidValueRow.loops == (Tryz.f8.params.toList ++ Rows.fnValidValueSpec.plain.varTypes Tryz.prog).any (Tryz.prog.loopsFrom ·))) = true := by kernel_rfl
theorem FnValidValue_q18 : ((Rows.fnValidValueRow.wideKeys == (Tryz.f8.params.toList ++ Rows.fnValidValueSpec.plain.varTypes Tryz.prog ++ Tryz.f8.resultTypes.toList).any (Tryz.prog.wideKeysFrom ·))) = true := by kernel_rfl
theorem FnValidValue_q19 : (Rows.fnValidValueSpec.vars.all (Tryz.prog.varReadable ·)) = true := by kernel_rfl
theorem FnValidValue_q20 : (Tryz.f8.resultTypes.all (fun t => Tryz.prog.readableRec t && decide (t < Tryz.prog.types.size))) = true := by kernel_rfl
theorem FnValidValue_q21 : ((Rows.fnValidValueRow.ifacesOut == Tryz.f8.resultTypes.toList.any (Tryz.prog.ifacesRec ·))) = true := by kernel_rfl
theorem FnValidValue_q22 : ((Rows.fnValidValueRow.loopsOut == Tryz.f8.resultTypes.toList.any (Tryz.prog.loopsFrom ·))) = true := by kernel_rfl
theorem FnValidValue_q23 : ((Rows.fnValidValueRow.plainKeys == Tryz.prog.plainKeys)) = true := by kernel_rfl
theorem FnValidValue_q24 : (Rows.fnValidValueRow.shortTexts.isNone) = true := by kernel_rfl
theorem FnValidValue_q25 : (Tryz.prog.stopsHeard) = true := by kernel_rfl
theorem FnValidValue_q26 : (Tryz.prog.mayEnter) = true := by kernel_rfl
theorem FnValidValue_q27 : ((Rows.fnValidValueRow.lifted == Tryz.prog.liftsFinal)) = true := by kernel_rfl
theorem FnValidValue_q28 : ((Tryz.prog.make == some Rows.fnValidValueRow.make)) = true := by kernel_rfl
theorem FnValidValue_q29 : ((Rows.fnValidValueRow.kinds == (if Rows.fnValidValueRow.domain.isEmpty then [] else Tryz.f8.params.toList.map fun t => match Tryz.prog.underlying t with | some (.int k) => some k | _ => none))) = true := by kernel_rfl
theorem FnValidValue_q30 : ((Rows.fnValidValueRow.pinned == Rows.fnValidValueRow.pinnedBy)) = true := by kernel_rfl
theorem FnValidValue_q31 : ((Rows.fnValidValueRow.veiled == (Tryz.f8.params.toList ++ Rows.fnValidValueSpec.plain.varTypes Tryz.prog ++ Tryz.f8.resultTypes.toList).any (Tryz.prog.veiledRec ·))) = true := by kernel_rfl
theorem FnValidValue_q32 : (Rows.fnValidValueRow.veiledFits Tryz.prog Tryz.f8.params.toList (Tryz.f8.params.toList ++ Rows.fnValidValueSpec.plain.varTypes Tryz.prog ++ Tryz.f8.resultTypes.toList)) = true := by kernel_rfl
set_option maxRecDepth 100000 in
theorem FnValidValue_jf : joinedFacts Tryz.prog 8 Tryz.f8 Rows.fnValidValueSpec Rows.fnValidValueRow = true := by
  unfold joinedFacts
  exact and_t (and_t (and_t (and_t (and_t (and_t (and_t (and_t (and_t (and_t (and_t (and_t (and_t (and_t (and_t (and_t (and_t (and_t (and_t (and_t (and_t (and_t (and_t (and_t (and_t (and_t (and_t (and_t (and_t (and_t (and_t (FnValidValue_q1) FnValidValue_q2) FnValidValue_q3) FnValidValue_q4) FnValidValue_q5) FnValidValue_q6) FnValidValue_q7) FnValidValue_q8) FnValidValue_q9) FnValidValue_q10) FnValidValue_q11) FnValidValue_q12) FnValidValue_q13) FnValidValue_q14) FnValidValue_q15) FnValidValue_q16) FnValidValue_q17) FnValidValue_q18) FnValidValue_q19) FnValidValue_q20) FnValidValue_q21) FnValidValue_q22) FnValidValue_q23) FnValidValue_q24) FnValidValue_q25) FnValidValue_q26) FnValidValue_q27) FnValidValue_q28) FnValidValue_q29) FnValidValue_q30) FnValidValue_q31) FnValidValue_q32
theorem FnValidValue_fn : Tryz.prog.funcNamed Rows.fnValidValueRow.func = some 8 := by kernel_rfl
theorem FnValidValue_fn2 : Tryz.prog.funcNamed "loop.example/formatplans/laws.FnValidValue" = some 8 := by kernel_rfl
theorem FnValidValue_lo : false = Tryz.prog.looks [] := by kernel_rfl
theorem FnValidValue_wf : Rows.fnValidValueRow.wfByText (OpenSpec.ofChange Rows.fnValidValueSpec) = true := by kernel_rfl
theorem FnValidValue_go : false = Rows.fnValidValueRow.goesBy Tryz.prog := by kernel_rfl
theorem FnValidValue_wr : Tryz.f8.isWrapper Tryz.prog Rows.fnValidValueRow.wrapper Rows.fnValidValueRow.mainSum := by unfold Func.isWrapper; first | (rw [if_pos (by decide +kernel)]; kernel_rfl) | (rw [if_neg (by decide +kernel)]; exact ⟨rfl, rfl⟩)
theorem FnValidValue_mi : Tryz.prog.mainIs = some (true, "6933efefb6e096d9a2a014b580faf256fe9a780daa6d240b09c62b53f6401334".toList) := by kernel_rfl
theorem FnValidValue_st : ([22].all fun u => !Tryz.prog.wantsStandIn u) = true := by kernel_rfl
theorem FnValidValue_holds : Rows.FnValidValueSaid :=
  OpenClaim.holds_of_wide 8 Tryz.f8 rfl rfl rfl rfl rfl rfl rfl ⟨rfl, rfl, rfl, rfl, rfl⟩ rfl rfl rfl rfl rfl FnValidValue_fn Tryz.func8 FnValidValue_jf
    (of_decide_eq_true (by kernel_rfl)) FnValidValue_wr
    (fun os started H enc _ => FnValidValue_lifted os started H enc)

theorem FnValidValue_card : Rows.FnValidValueCardSaid :=
  Claim7.holds_tied_plain_at .later [] [.data, .data, .data, .data, .pinned, .pinned] true (true, "6933efefb6e096d9a2a014b580faf256fe9a780daa6d240b09c62b53f6401334") false
    FnValidValue_holds (fun _ h => by cases h) FnValidValue_wf (fun _ h => by cases h) fnValidValue_row_tie rfl ⟨rfl, rfl⟩ FnValidValue_mi rfl
    (fun f fn hf hfn => by
      obtain rfl : f = 8 := Option.some.inj (FnValidValue_fn2.symm.trans hf) |>.symm
      obtain rfl : fn = Tryz.f8 := (Option.some.inj (Tryz.func8.symm.trans hfn)).symm
      exact ⟨FnValidValue_lo, fun j t ht => by
        rw [Tryz.params8] at ht
        have hm : t ∈ [22] := by simpa using Array.mem_of_getElem? ht
        have hall := FnValidValue_st
        exact (show Tryz.prog.wantsStandIn t = false by simpa using List.all_eq_true.1 hall t hm)⟩)
    FnValidValue_go
end Go.Proofs.YtejganoipbblcaaGreatDoor
