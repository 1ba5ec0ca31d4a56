/- The exact law of FormatReal, proved: for every input the program answers as its model. The tables of the library that the row lists are tied to their text, or pinned. -/
import Derived.Test.YtfnmlcgnbmphlaaGreatDoorG15
import Derived.Test.YtfnmlcgnbmphlaaGreatDoorGSP
import Derived.Test.YtfnmlcgnbmphlaaGreatDoorL1
import Derived.Test.YtfnmlcgnbmphlaaGreatDoorZ10
import Derived.Test.YtfnmlcgnbmphlaaGreatDoorTie
import Derived.Test.YtfnmlcgnbmphlaaGreatDoorCards
import Derived.LaidMore
import Derived.Lib.LaidTab
import Derived.Stop.LaidErr
import Derived.Lay
import Derived.OpenShut
import Derived.Stop.Joined
import Derived.SevenTiedAt
namespace Go.Proofs.YtfnmlcgnbmphlaaGreatDoor
open Go Go.ChangeShapes Go.WideShapes Go.ChangeAt Go.WideMaps Go.WideElems Go.RowKit Go.Joins Go.ChangeMaps


set_option maxRecDepth 100000 in
set_option maxHeartbeats 8000000 in
theorem FnExactFormatReal_law (f : ByteArray) (al si : Int) (alt ze : Bool) (wi gr pr : Int) (t : ByteArray) (n : Bool) (c e : Int) (w : World) (hT : PT w) (hf : f.size ≤ 9223372036854775807) (ht : t.size ≤ 9223372036854775807) :
    Calls Tryz.prog 6 #[.agg #[.string f, .int .i64 al, .int .i64 si, .bool alt, .bool ze, .int .i64 wi, .int .i64 gr, .int .i64 pr, .string t], .agg #[.bool n, .int .i64 c, .int .i64 e]] w fun r w' => r = .returned (.bool true) ∧ Below w.heap.size w w' := by
  obtain ⟨R, k1, k2, _, _⟩ := FormatReal_both f al si alt ze wi gr pr t n c e
  have K1 := Lib.hid k1; have K2 := Lib.hid k2
  clear k1 k2
  have za := (C9.new w (.string f) (.int .i64 al) (.int .i64 si) (.bool alt) (.bool ze) (.int .i64 wi) (.int .i64 gr) (.int .i64 pr) (.string t) 38).up (.cells #[.bool n, .int .i64 c, .int .i64 e] 39)
  have zd : C3 ((w.alloc (.cells #[.string f, .int .i64 al, .int .i64 si, .bool alt, .bool ze, .int .i64 wi, .int .i64 gr, .int .i64 pr, .string t] 38)).alloc (.cells #[.bool n, .int .i64 c, .int .i64 e] 39)) (w.heap.size + 1) (.bool n) (.int .i64 c) (.int .i64 e) := by
    have h := C3.new (w.alloc (.cells #[.string f, .int .i64 al, .int .i64 si, .bool alt, .bool ze, .int .i64 wi, .int .i64 gr, .int .i64 pr, .string t] 38)) (.bool n) (.int .i64 c) (.int .i64 e) 39
    rw [show (w.alloc (.cells #[.string f, .int .i64 al, .int .i64 si, .bool alt, .bool ze, .int .i64 wi, .int .i64 gr, .int .i64 pr, .string t] 38)).heap.size = w.heap.size + 1 by simp] at h
    exact h
  have hB : Below w.heap.size w ((w.alloc (.cells #[.string f, .int .i64 al, .int .i64 si, .bool alt, .bool ze, .int .i64 wi, .int .i64 gr, .int .i64 pr, .string t] 38)).alloc (.cells #[.bool n, .int .i64 c, .int .i64 e] 39)) := ((Below.refl _ _).alloc (Nat.le_refl _) _).alloc (by simp) _
  have zz := za
  obtain ⟨za_x0, za_x1, za_x2, za_x3, za_x4, za_x5, za_x6, za_x7, za_x8, za_xf, za_xl⟩ := zz
  have zz := zd
  obtain ⟨zd_0, zd_1, zd_2, zd_3, zd_4, zd_5, zd_6⟩ := zz
  go_enter Tryz.func6, Tryz.ntmps6
  go_wp2_with (first | (go_at_call 30; (with_reducible refine Calls.mono (szSpec_any _ _ _ _ _ _ _ _ _ _ hf ht) ?_); rintro r w1 ⟨⟨z, rfl⟩, hb⟩; replace hB := hB.trans (hb.mono hB.size); have hz := hb.size; replace za := C9.carry za hb; have zz := za; obtain ⟨za_x0, za_x1, za_x2, za_x3, za_x4, za_x5, za_x6, za_x7, za_x8, za_xf, za_xl⟩ := zz; replace zd := C3.carry zd hb; have zz := zd; obtain ⟨zd_0, zd_1, zd_2, zd_3, zd_4, zd_5, zd_6⟩ := zz))
  all_goals (try (go_ret; exact ⟨rfl, hB⟩))
  obtain ⟨sza0, sza1, sza2, sza3, sza4, sza5, sza6, sza7, sza8⟩ := C9.since za
  obtain ⟨szd0, szd1, szd2⟩ := C3.since zd
  refine wp_region_since (by kernel_rfl) (by kernel_rfl) ?_
  repeat (quiet_step (first | (go_at_call 32; with_reducible exact Calls.since_of (toSpec_any _ _ _ _ _ _ _ _ _ _)) | (go_at_call 33; with_reducible exact Calls.since_of (toDec_any _ _ _ _)) | (go_at_call 31; with_reducible exact Calls.since_of (K2.out _))))
  refine wpQuiet_nil ?_
  intro w_ hw_
  obtain ⟨⟨w1, hb⟩, hw2⟩ := hw_
  have hw3 : w1 = w_ := hw2.symm
  clear hw2
  subst hw3
  clear sza0 sza1 sza2 sza3 sza4 sza5 sza6 sza7 sza8 szd0 szd1 szd2
  replace hB := hB.trans (hb.mono hB.size)
  have hz := hb.size
  replace za := C9.carry za hb
  have zz := za
  obtain ⟨za_x0, za_x1, za_x2, za_x3, za_x4, za_x5, za_x6, za_x7, za_x8, za_xf, za_xl⟩ := zz
  replace zd := C3.carry zd hb
  have zz := zd
  obtain ⟨zd_0, zd_1, zd_2, zd_3, zd_4, zd_5, zd_6⟩ := zz
  go_wp2
  obtain ⟨sza0, sza1, sza2, sza3, sza4, sza5, sza6, sza7, sza8⟩ := C9.since za
  obtain ⟨szd0, szd1, szd2⟩ := C3.since zd
  refine wp_region_since (by kernel_rfl) (by kernel_rfl) ?_
  repeat (quiet_step (first | (go_at_call 32; with_reducible exact Calls.since_of (toSpec_any _ _ _ _ _ _ _ _ _ _)) | (go_at_call 33; with_reducible exact Calls.since_of (toDec_any _ _ _ _)) | (go_at_call 34; with_reducible exact Calls.since_of (K1.out _ (hT.on (hB.trans (Below.mono (Since.h _) hB.size)))))))
  refine wpQuiet_nil ?_
  intro w_ hw_
  obtain ⟨⟨w1, hb⟩, hw2⟩ := hw_
  have hw3 : w1 = w_ := hw2.symm
  clear hw2
  subst hw3
  clear sza0 sza1 sza2 sza3 sza4 sza5 sza6 sza7 sza8 szd0 szd1 szd2
  replace hB := hB.trans (hb.mono hB.size)
  have hz := hb.size
  replace za := C9.carry za hb
  have zz := za
  obtain ⟨za_x0, za_x1, za_x2, za_x3, za_x4, za_x5, za_x6, za_x7, za_x8, za_xf, za_xl⟩ := zz
  replace zd := C3.carry zd hb
  have zz := zd
  obtain ⟨zd_0, zd_1, zd_2, zd_3, zd_4, zd_5, zd_6⟩ := zz
  go_wp2
  all_goals go_ret
  all_goals exact ⟨rfl, hB⟩

def FnExactFormatReal_LL : List (String × DataW Unit) := [("math/bits.deBruijn32tab", Rows.laid_math_bits_deBruijn32tab), ("math/bits.deBruijn64tab", Rows.laid_math_bits_deBruijn64tab), ("internal/strconv.uint64pow10", Rows.laid_internal_strconv_uint64pow10), ("unicode/utf8.acceptRanges", Rows.laid_unicode_utf8_acceptRanges), ("unicode.CaseRanges", Rows.laid_unicode_CaseRanges), ("unicode/utf8.first", Rows.laid_unicode_utf8_first)]

set_option maxRecDepth 100000 in
theorem FnExactFormatReal_lifted (os : Os) (started : os.Started) (H : Type) (enc : TypeId × Value → H) :
    ReturnsInHanded {} Tryz.checked os 6 .any (fun w args => (Rows.fnExactFormatRealSpec.pre enc Tryz.prog Tryz.f6 [] false w args ∧ laidMetH Tryz.prog FnExactFormatReal_LL w) ∧ sizedMet enc Tryz.prog Tryz.f6 (OpenSpec.ofChange Rows.fnExactFormatRealSpec) false w args) (Rows.fnExactFormatRealSpec.post enc Tryz.prog Tryz.f6 false true false false) := by
  refine returnsInHanded_of_change_and (C := Tryz.checked) (X := fun w _ => laidMetH Tryz.prog FnExactFormatReal_LL w) (fun _ _ _ hh h => h.of_heap hh) Tryz.own started (by kernel_rfl) Tryz.func6
    (ChangeSpec.witness_shaped (enc := enc) (C := Tryz.checked) (os := os) (X := fun w _ => laidMetH Tryz.prog FnExactFormatReal_LL w) false (World.laidAll Tryz.prog os FnExactFormatReal_LL) #[.agg #[.string ⟨#[]⟩, .int .i64 0, .int .i64 0, .bool false, .bool false, .int .i64 0, .int .i64 0, .int .i64 0, .string ⟨#[]⟩], .agg #[.bool false, .int .i64 0, .int .i64 0]] 8 (World.laidAll_os _ _ _) (World.shaped_of_ZipB (by kernel_rfl) (by kernel_rfl)) (by kernel_rfl) (by kernel_rfl) (by kernel_rfl)
      (by rw [MakeChecks.laidMetH_plain _ _ _ (by kernel_rfl)]; exact laidMet_laidAll _ (by kernel_rfl) (by kernel_rfl))) ?_
  intro W base args ds gs before hval0 hW _ _ hL _
  rw [MakeChecks.laidMetH_plain _ _ _ (by kernel_rfl)] at hL
  have hT := p10_is hL
  have hval : ∀ (j : Nat) t v, Tryz.f6.params[j]? = some t → args[j]? = some v → Value.okWide Tryz.prog W .any base t v := hval0
  have hW' := hW
  obtain ⟨p, q, hA0, hV, rfl, hfz, hnd⟩ := hW
  have hA : DataW.TrodAll enc Tryz.prog W 0 (fun _ => true) true Tryz.f6.params.toList args.toList ds p := hA0
  rw [Tryz.params6] at hA hval
  obtain ⟨v0, v1, d0, d1, p0, p1, rfl, rfl, rfl, h0, h1⟩ := trodAll_two hA
  obtain ⟨rfl, rfl⟩ := trodVars_none hV
  obtain ⟨f, al, si, alt, ze, wi, gr, pr, t, rfl, hf, ht⟩ := open_spec (hval 0 38 v0 rfl rfl) h0
  obtain ⟨dx0, dx1, dx2, dy0, dy1, dy2, dm, rfl, rfl, rfl, hy0, hy1, hy2⟩ := open_agg3 Tryz.underlying39 (by kernel_rfl) Tryz.cellsL (hval 1 39 v1 rfl rfl) h1
  obtain ⟨n, q0, rfl⟩ := DataW.trod_bool Tryz.underlying4 hy0
  obtain ⟨c, q1, rfl, wc⟩ := DataW.trod_int Tryz.underlying3 hy1
  obtain ⟨e, q2, rfl, we⟩ := DataW.trod_int Tryz.underlying3 hy2
  simp at q0 q1 q2
  subst q0 q1 q2
  clear hA0 hval0
  have hlt := fun x hx => hW'.lt x hx
  refine (FnExactFormatReal_law f al si alt ze wi gr pr t n c e W hT hf ht).mono fun e_ W' ⟨he, hb⟩ => ?_
  subst he
  exact ⟨_, rfl, post_of_below (pa := (p0 ++ [])) (pv := []) hW' (fun _ _ _ => trodAll_mk1 (shut_bool Tryz.underlying4 true)) (fun sp hsp => trodAll_mk2 (spec_back h0 hb (fun x hx => hlt x (by simp [hx])) (fun x hx => hsp x (by simp [hx]))) (readsDec n wc we)) (fun _ _ => rfl) (by simp) hb (ok_one (by kernel_rfl) rfl (okWide_bool_mk Tryz.underlying4 true))⟩


theorem and_t {a b : Bool} (h : a = true) (k : b = true) : (a && b) = true := by rw [h, k]; rfl
theorem FnExactFormatReal_q1 : (Rows.fnExactFormatRealRow.wf (OpenSpec.ofChange Rows.fnExactFormatRealSpec)) = true := by kernel_rfl
theorem FnExactFormatReal_q2 : (laidOutB Tryz.prog) = true := by kernel_rfl
theorem FnExactFormatReal_q3 : (mapsRowed Tryz.prog) = true := by kernel_rfl
theorem FnExactFormatReal_q4 : (Tryz.f6.params.all (Tryz.prog.readableRec ·)) = true := by kernel_rfl
theorem FnExactFormatReal_q5 : (namedTie Tryz.prog Rows.fnExactFormatRealRow.named Rows.fnExactFormatRealSpec.vars) = true := by kernel_rfl
theorem FnExactFormatReal_q6 : ((Rows.fnExactFormatRealRow.stops == [])) = true := by kernel_rfl
theorem FnExactFormatReal_q7 : ((Tryz.prog.stops == [])) = true := by kernel_rfl
theorem FnExactFormatReal_q8 : ((Rows.fnExactFormatRealRow.knobs == [])) = true := by kernel_rfl
theorem FnExactFormatReal_q9 : ((Tryz.prog.stopKnobs == [])) = true := by kernel_rfl
theorem FnExactFormatReal_q10 : ((Rows.fnExactFormatRealRow.inPlace == Tryz.prog.inPlace 6)) = true := by kernel_rfl
theorem FnExactFormatReal_q11 : ((Rows.fnExactFormatRealRow.unfollowed == Tryz.prog.unfollowed 6)) = true := by kernel_rfl
theorem FnExactFormatReal_q12 : ((Rows.fnExactFormatRealRow.recurses == Tryz.prog.recurses 6)) = true := by kernel_rfl
theorem FnExactFormatReal_q13 : ((Rows.fnExactFormatRealRow.named == Tryz.prog.varsNamed 6)) = true := by kernel_rfl
theorem FnExactFormatReal_q14 : ((Rows.fnExactFormatRealRow.maps == (Tryz.f6.params.toList ++ Rows.fnExactFormatRealSpec.plain.varTypes Tryz.prog).any (Tryz.prog.mapsRec ·))) = true := by kernel_rfl
theorem FnExactFormatReal_q15 : ((Rows.fnExactFormatRealRow.ifaces == (Tryz.f6.params.toList ++ Rows.fnExactFormatRealSpec.plain.varTypes Tryz.prog).any (Tryz.prog.ifacesRec ·))) = true := by kernel_rfl
theorem FnExactFormatReal_q16 : ((Rows.fnExactFormatRealRow.mapsOut == Tryz.prog.mapsAmong Tryz.f6.resultTypes.toList)) = true := by kernel_rfl
theorem FnExactFormatReal_q17 : ((Rows.fnExactFormatRealRow.loops == (Tryz.f6.params.toList ++ Rows.fnExactFormatRealSpec.plain.varTypes Tryz.prog).any (Tryz.prog.loopsFrom ·))) = true := by kernel_rfl
theorem FnExactFormatReal_q18 : ((Rows.fnExactFormatRealRow.wideKeys == (Tryz.f6.params.toList ++ Rows.fnExactFormatRealSpec.plain.varTypes Tryz.prog ++ Tryz.f6.resultTypes.toList).any (Tryz.prog.wideKeysFrom ·))) = true := by kernel_rfl
theorem FnExactFormatReal_q19 : (Rows.fnExactFormatRealSpec.vars.all (Tryz.prog.varReadable ·)) = true := by kernel_rfl
theorem FnExactFormatReal_q20 : (Tryz.f6.resultTypes.all (fun t => Tryz.prog.readableRec t && decide (t < Tryz.prog.types.size))) = true := by kernel_rfl
theorem FnExactFormatReal_q21 : ((Rows.fnExactFormatRealRow.ifacesOut == Tryz.f6.resultTypes.toList.any (Tryz.prog.ifacesRec ·))) = true := by kernel_rfl
theorem FnExactFormatReal_q22 : ((Rows.fnExactFormatRealRow.loopsOut == Tryz.f6.resultTypes.toList.any (Tryz.prog.loopsFrom ·))) = true := by kernel_rfl
theorem FnExactFormatReal_q23 : ((Rows.fnExactFormatRealRow.plainKeys == Tryz.prog.plainKeys)) = true := by kernel_rfl
theorem FnExactFormatReal_q24 : (Rows.fnExactFormatRealRow.shortTexts.isNone) = true := by kernel_rfl
theorem FnExactFormatReal_q25 : (Tryz.prog.stopsHeard) = true := by kernel_rfl
theorem FnExactFormatReal_q26 : (Tryz.prog.mayEnter) = true := by kernel_rfl
theorem FnExactFormatReal_q27 : ((Rows.fnExactFormatRealRow.lifted == Tryz.prog.liftsFinal)) = true := by kernel_rfl
theorem FnExactFormatReal_q28 : ((Tryz.prog.make == some Rows.fnExactFormatRealRow.make)) = true := by kernel_rfl
theorem FnExactFormatReal_q29 : ((Rows.fnExactFormatRealRow.kinds == (if Rows.fnExactFormatRealRow.domain.isEmpty then [] else Tryz.f6.params.toList.map fun t => match Tryz.prog.underlying t with | some (.int k) => some k | _ => none))) = true := by kernel_rfl
theorem FnExactFormatReal_q30 : ((Rows.fnExactFormatRealRow.pinned == Rows.fnExactFormatRealRow.pinnedBy)) = true := by kernel_rfl
theorem FnExactFormatReal_q31 : ((Rows.fnExactFormatRealRow.veiled == (Tryz.f6.params.toList ++ Rows.fnExactFormatRealSpec.plain.varTypes Tryz.prog ++ Tryz.f6.resultTypes.toList).any (Tryz.prog.veiledRec ·))) = true := by kernel_rfl
theorem FnExactFormatReal_q32 : (Rows.fnExactFormatRealRow.veiledFits Tryz.prog Tryz.f6.params.toList (Tryz.f6.params.toList ++ Rows.fnExactFormatRealSpec.plain.varTypes Tryz.prog ++ Tryz.f6.resultTypes.toList)) = true := by kernel_rfl
set_option maxRecDepth 100000 in
theorem FnExactFormatReal_jf : joinedFacts Tryz.prog 6 Tryz.f6 Rows.fnExactFormatRealSpec Rows.fnExactFormatRealRow = true := by
  unfold joinedFacts
  exact and_t (and_t (and_t (and_t (and_t (and_t (and_t (and_t (and_t (and_t (and_t (and_t (and_t (and_t (and_t (and_t (and_t (and_t (and_t (and_t (and_t (and_t (and_t (and_t (and_t (and_t (and_t (and_t (and_t (and_t (and_t (FnExactFormatReal_q1) FnExactFormatReal_q2) FnExactFormatReal_q3) FnExactFormatReal_q4) FnExactFormatReal_q5) FnExactFormatReal_q6) FnExactFormatReal_q7) FnExactFormatReal_q8) FnExactFormatReal_q9) FnExactFormatReal_q10) FnExactFormatReal_q11) FnExactFormatReal_q12) FnExactFormatReal_q13) FnExactFormatReal_q14) FnExactFormatReal_q15) FnExactFormatReal_q16) FnExactFormatReal_q17) FnExactFormatReal_q18) FnExactFormatReal_q19) FnExactFormatReal_q20) FnExactFormatReal_q21) FnExactFormatReal_q22) FnExactFormatReal_q23) FnExactFormatReal_q24) FnExactFormatReal_q25) FnExactFormatReal_q26) FnExactFormatReal_q27) FnExactFormatReal_q28) FnExactFormatReal_q29) FnExactFormatReal_q30) FnExactFormatReal_q31) FnExactFormatReal_q32
theorem FnExactFormatReal_fn : Tryz.prog.funcNamed Rows.fnExactFormatRealRow.func = some 6 := by kernel_rfl
theorem FnExactFormatReal_fn2 : Tryz.prog.funcNamed "loop.example/formatplans/laws.FnExactFormatReal" = some 6 := by kernel_rfl
theorem FnExactFormatReal_lo : true = Tryz.prog.looks [] := by kernel_rfl
theorem FnExactFormatReal_wf : Rows.fnExactFormatRealRow.wfByText (OpenSpec.ofChange Rows.fnExactFormatRealSpec) = true := by kernel_rfl
theorem FnExactFormatReal_go : false = Rows.fnExactFormatRealRow.goesBy Tryz.prog := by kernel_rfl
theorem FnExactFormatReal_wr : Tryz.f6.isWrapper Tryz.prog Rows.fnExactFormatRealRow.wrapper Rows.fnExactFormatRealRow.mainSum := by unfold Func.isWrapper; first | (rw [if_pos (by decide +kernel)]; kernel_rfl) | (rw [if_neg (by decide +kernel)]; exact ⟨rfl, rfl⟩)
theorem FnExactFormatReal_mi : Tryz.prog.mainIs = some (true, "8f7518b87d0328598f400ec743c92fd0d89262f96a59c2231889ca683f752c83".toList) := by kernel_rfl
theorem FnExactFormatReal_st : ([38, 39].all fun u => !Tryz.prog.wantsStandIn u) = true := by kernel_rfl
theorem FnExactFormatReal_holds : Rows.FnExactFormatRealSaid :=
  OpenClaim.holds_of_wide 6 Tryz.f6 rfl rfl rfl rfl rfl rfl rfl ⟨rfl, rfl, rfl, rfl, rfl⟩ rfl rfl rfl rfl rfl FnExactFormatReal_fn Tryz.func6 FnExactFormatReal_jf
    (of_decide_eq_true (by kernel_rfl)) FnExactFormatReal_wr
    (fun os started H enc _ => FnExactFormatReal_lifted os started H enc)

theorem FnExactFormatReal_card : Rows.FnExactFormatRealCardSaid :=
  Claim7.holds_tied_plain_at .later [] [.data, .data, .data, .data, .pinned, .pinned] true (true, "8f7518b87d0328598f400ec743c92fd0d89262f96a59c2231889ca683f752c83") true
    FnExactFormatReal_holds (fun _ h => by cases h) FnExactFormatReal_wf (fun _ h => by cases h) fnExactFormatReal_row_tie rfl ⟨rfl, rfl⟩ FnExactFormatReal_mi rfl
    (fun f fn hf hfn => by
      obtain rfl : f = 6 := Option.some.inj (FnExactFormatReal_fn2.symm.trans hf) |>.symm
      obtain rfl : fn = Tryz.f6 := (Option.some.inj (Tryz.func6.symm.trans hfn)).symm
      exact ⟨FnExactFormatReal_lo, fun j t ht => by
        rw [Tryz.params6] at ht
        have hm : t ∈ [38, 39] := by simpa using Array.mem_of_getElem? ht
        have hall := FnExactFormatReal_st
        exact (show Tryz.prog.wantsStandIn t = false by simpa using List.all_eq_true.1 hall t hm)⟩)
    FnExactFormatReal_go
end Go.Proofs.YtfnmlcgnbmphlaaGreatDoor
