/- The exact law of FormatValue, proved: for every input the program answers as its model. The tables of the library that the row lists are tied to their text, or pinned. -/
import Derived.Test.YtejganoipbblcaaGreatDoorGV2
import Derived.Test.YtejganoipbblcaaGreatDoorL1
import Derived.Test.YtejganoipbblcaaGreatDoorZ10
import Derived.Test.YtejganoipbblcaaGreatDoorTie
import Derived.Test.YtejganoipbblcaaGreatDoorCards
import Derived.LaidMore
import Derived.Lib.LaidTab
import Derived.Stop.LaidErr
import Derived.Lay
import Derived.OpenShut
import Derived.Stop.Joined
import Derived.SevenTiedAt
namespace Go.Proofs.YtejganoipbblcaaGreatDoor
open Go Go.ChangeShapes Go.WideShapes Go.ChangeAt Go.WideMaps Go.WideElems Go.RowKit Go.Joins Go.ChangeMaps
set_option maxRecDepth 100000 in
set_option maxHeartbeats 4000000 in
theorem szValue_ex (k i : Int) (n : Bool) (c e : Int) (x : ByteArray) (L : Int) (w : World) :
    Calls Tryz.prog 35 #[.agg #[.int .i64 k, .int .i64 i, .bool n, .int .i64 c, .int .i64 e, .string x], .int .i64 L] w fun r w' => (∃ z, r = .returned (.int .i64 z)) ∧ Below w.heap.size w w' := by
  go_enter Tryz.func35, Tryz.ntmps35
  go_wp2
  all_goals go_ret
  all_goals exact ⟨⟨_, rfl⟩, (by repeat (first | with_reducible exact Below.refl _ _ | with_reducible assumption | with_reducible refine Below.setCell ?_ (by first | omega | (simp; done) | (simp <;> omega)) _ | with_reducible refine below_drewN ?_ _ | with_reducible refine Below.drew ?_ | with_reducible refine Below.alloc ?_ (by first | omega | (simp; done) | (simp <;> omega)) _))⟩
set_option maxRecDepth 100000 in
set_option maxHeartbeats 4000000 in
theorem toValue_any (k i : Int) (n : Bool) (c e : Int) (x : ByteArray) (w : World) :
    Calls Tryz.prog 37 #[.agg #[.int .i64 k, .int .i64 i, .bool n, .int .i64 c, .int .i64 e, .string x]] w fun r w' => r = .returned (.agg #[.int .i64 k, .int .i64 i, .bool n, .int .i64 c, .int .i64 e, .string x]) ∧ Below w.heap.size w w' := by
  have k1 := fun W => toDec_any n c e W
  have K1 := Lib.hid k1
  clear k1
  go_enter Tryz.func37, Tryz.ntmps37
  go_wp2_with (go_at_call 85; (with_reducible refine Calls.mono (K1.out _) ?_); rintro r w1 ⟨rfl, hb⟩; obtain ⟨q1, q2⟩ := bcellV hb; have hz := hb.size; (try simp at hz); have hB : Below w.heap.size w w1 := (by refine Below.trans ?_ (hb.mono (by first | omega | (simp; done) | (simp <;> omega))); repeat (first | with_reducible exact Below.refl _ _ | with_reducible assumption | with_reducible refine Below.setCell ?_ (by first | omega | (simp; done) | (simp <;> omega)) _ | with_reducible refine below_drewN ?_ _ | with_reducible refine Below.drew ?_ | with_reducible refine Below.alloc ?_ (by first | omega | (simp; done) | (simp <;> omega)) _)))
  all_goals refine bodyPost_ret (v := .agg #[.int .i64 k, .int .i64 i, .bool n, .int .i64 c, .int .i64 e, .string x]) ?_ rfl ⟨rfl, (by repeat (first | with_reducible exact Below.refl _ _ | with_reducible assumption | with_reducible refine Below.setCell ?_ (by first | omega | (simp; done) | (simp <;> omega)) _ | with_reducible refine below_drewN ?_ _ | with_reducible refine Below.drew ?_ | with_reducible refine Below.alloc ?_ (by first | omega | (simp; done) | (simp <;> omega)) _))⟩
  all_goals simp [results, Tryz.results37, go_sem, *]

set_option maxRecDepth 100000 in
set_option maxHeartbeats 8000000 in
theorem FnExactFormatValue_law (f : ByteArray) (al si : Int) (alt ze : Bool) (wi gr pr : Int) (t : ByteArray) (k i : Int) (n : Bool) (c e : Int) (x : ByteArray) (w : World) (hT : PT w) (hD : DT w) (hf : f.size ≤ 9223372036854775807) (ht : t.size ≤ 9223372036854775807) (hx : x.size ≤ 9223372036854775807) :
    Calls Tryz.prog 10 #[.agg #[.string f, .int .i64 al, .int .i64 si, .bool alt, .bool ze, .int .i64 wi, .int .i64 gr, .int .i64 pr, .string t], .agg #[.int .i64 k, .int .i64 i, .bool n, .int .i64 c, .int .i64 e, .string x]] w fun r w' => r = .returned (.bool true) ∧ Below w.heap.size w w' := by
  have k1 := fun W h h' => FormatValue_any f al si alt ze wi gr pr t k i n c e x hx W h h'
  have k2 := fun W => FormatValueS_any f al si alt ze wi gr pr t k i n c e x hx W
  generalize fvW f al si alt ze wi gr pr t k i n c e x = X at *
  generalize fvB f al si alt ze wi gr pr t k i n c e x = b at *
  have K1 := Lib.hid k1; have K2 := Lib.hid k2
  clear k1 k2
  have za := (C9.new w (.string f) (.int .i64 al) (.int .i64 si) (.bool alt) (.bool ze) (.int .i64 wi) (.int .i64 gr) (.int .i64 pr) (.string t) 53).up (.cells #[.int .i64 k, .int .i64 i, .bool n, .int .i64 c, .int .i64 e, .string x] 56)
  have zv : C6 ((w.alloc (.cells #[.string f, .int .i64 al, .int .i64 si, .bool alt, .bool ze, .int .i64 wi, .int .i64 gr, .int .i64 pr, .string t] 53)).alloc (.cells #[.int .i64 k, .int .i64 i, .bool n, .int .i64 c, .int .i64 e, .string x] 56)) (w.heap.size + 1) (.int .i64 k) (.int .i64 i) (.bool n) (.int .i64 c) (.int .i64 e) (.string x) := by
    have h := C6.new (w.alloc (.cells #[.string f, .int .i64 al, .int .i64 si, .bool alt, .bool ze, .int .i64 wi, .int .i64 gr, .int .i64 pr, .string t] 53)) (.int .i64 k) (.int .i64 i) (.bool n) (.int .i64 c) (.int .i64 e) (.string x) 56
    rw [show (w.alloc (.cells #[.string f, .int .i64 al, .int .i64 si, .bool alt, .bool ze, .int .i64 wi, .int .i64 gr, .int .i64 pr, .string t] 53)).heap.size = w.heap.size + 1 by simp] at h
    exact h
  have hB : Below w.heap.size w ((w.alloc (.cells #[.string f, .int .i64 al, .int .i64 si, .bool alt, .bool ze, .int .i64 wi, .int .i64 gr, .int .i64 pr, .string t] 53)).alloc (.cells #[.int .i64 k, .int .i64 i, .bool n, .int .i64 c, .int .i64 e, .string x] 56)) := ((Below.refl _ _).alloc (Nat.le_refl _) _).alloc (by simp) _
  have zz := za
  obtain ⟨za_x0, za_x1, za_x2, za_x3, za_x4, za_x5, za_x6, za_x7, za_x8, za_xf, za_xl⟩ := zz
  have zz := zv; obtain ⟨zv_c0, zv_c1, zv_c2, zv_c3, zv_c4, zv_c5, zv_fz, zv_lt⟩ := zz
  go_enter Tryz.func10, Tryz.ntmps10
  go_wp2_with (first | (go_at_call 34; (with_reducible refine Calls.mono (szSpec_any _ _ _ _ _ _ _ _ _ _ hf ht) ?_); rintro r w1 ⟨⟨z, rfl⟩, hb⟩; replace hB := hB.trans (hb.mono hB.size); have hz := hb.size; replace za := C9.carry za hb; have zz := za; obtain ⟨za_x0, za_x1, za_x2, za_x3, za_x4, za_x5, za_x6, za_x7, za_x8, za_xf, za_xl⟩ := zz; replace zv := C6.carry zv hb; have zz := zv; obtain ⟨zv_c0, zv_c1, zv_c2, zv_c3, zv_c4, zv_c5, zv_fz, zv_lt⟩ := zz) | (go_at_call 35; (with_reducible refine Calls.mono (szValue_ex _ _ _ _ _ _ _ _) ?_); rintro r w1 ⟨⟨z2, rfl⟩, hb⟩; replace hB := hB.trans (hb.mono hB.size); have hz := hb.size; replace za := C9.carry za hb; have zz := za; obtain ⟨za_x0, za_x1, za_x2, za_x3, za_x4, za_x5, za_x6, za_x7, za_x8, za_xf, za_xl⟩ := zz; replace zv := C6.carry zv hb; have zz := zv; obtain ⟨zv_c0, zv_c1, zv_c2, zv_c3, zv_c4, zv_c5, zv_fz, zv_lt⟩ := zz))
  all_goals (try (go_ret; exact ⟨rfl, hB⟩))
  obtain ⟨sza0, sza1, sza2, sza3, sza4, sza5, sza6, sza7, sza8⟩ := C9.since za
  obtain ⟨szv0, szv1, szv2, szv3, szv4, szv5⟩ := C6.since zv
  refine wp_region_since (by kernel_rfl) (by kernel_rfl) ?_
  repeat (quiet_step (first | (go_at_call 36; with_reducible exact Calls.since_of (toSpec_any _ _ _ _ _ _ _ _ _ _)) | (go_at_call 37; with_reducible exact Calls.since_of (toValue_any _ _ _ _ _ _ _)) | (go_at_call 31; with_reducible exact Calls.since_of (K2.out _))))
  refine wpQuiet_nil ?_
  intro w_ hw_
  obtain ⟨⟨w1, hb⟩, hw2⟩ := hw_
  have hw3 : w1 = w_ := hw2.symm
  clear hw2
  subst hw3
  clear sza0 sza1 sza2 sza3 sza4 sza5 sza6 sza7 sza8 szv0 szv1 szv2 szv3 szv4 szv5
  replace hB := hB.trans (hb.mono hB.size)
  have hz := hb.size
  replace za := C9.carry za hb
  have zz := za; obtain ⟨za_x0, za_x1, za_x2, za_x3, za_x4, za_x5, za_x6, za_x7, za_x8, za_xf, za_xl⟩ := zz
  replace zv := C6.carry zv hb
  have zz := zv; obtain ⟨zv_c0, zv_c1, zv_c2, zv_c3, zv_c4, zv_c5, zv_fz, zv_lt⟩ := zz
  go_wp2
  obtain ⟨sza0, sza1, sza2, sza3, sza4, sza5, sza6, sza7, sza8⟩ := C9.since za
  obtain ⟨szv0, szv1, szv2, szv3, szv4, szv5⟩ := C6.since zv
  refine wp_region_since (by kernel_rfl) (by kernel_rfl) ?_
  repeat (quiet_step (first | (go_at_call 36; with_reducible exact Calls.since_of (toSpec_any _ _ _ _ _ _ _ _ _ _)) | (go_at_call 37; with_reducible exact Calls.since_of (toValue_any _ _ _ _ _ _ _)) | (go_at_call 16; with_reducible exact Calls.since_of (K1.out _ (hT.on (hB.trans (Below.mono (Since.h _) hB.size))) (hD.on (hB.trans (Below.mono (Since.h _) hB.size)))))))
  refine wpQuiet_nil ?_
  intro w_ hw_
  obtain ⟨⟨w1, hb⟩, hw2⟩ := hw_
  have hw3 : w1 = w_ := hw2.symm
  clear hw2
  subst hw3
  clear sza0 sza1 sza2 sza3 sza4 sza5 sza6 sza7 sza8 szv0 szv1 szv2 szv3 szv4 szv5
  replace hB := hB.trans (hb.mono hB.size)
  have hz := hb.size
  replace za := C9.carry za hb
  have zz := za; obtain ⟨za_x0, za_x1, za_x2, za_x3, za_x4, za_x5, za_x6, za_x7, za_x8, za_xf, za_xl⟩ := zz
  replace zv := C6.carry zv hb
  have zz := zv; obtain ⟨zv_c0, zv_c1, zv_c2, zv_c3, zv_c4, zv_c5, zv_fz, zv_lt⟩ := zz
  go_wp2
  all_goals go_ret
  all_goals exact ⟨rfl, hB⟩

def FnExactFormatValue_LL : List (String × DataW Unit) := [("math/bits.deBruijn32tab", Rows.laid_math_bits_deBruijn32tab), ("math/bits.deBruijn64tab", Rows.laid_math_bits_deBruijn64tab), ("internal/strconv.uint64pow10", Rows.laid_internal_strconv_uint64pow10), ("unicode/utf8.acceptRanges", Rows.laid_unicode_utf8_acceptRanges), ("unicode.CaseRanges", Rows.laid_unicode_CaseRanges), ("unicode/utf8.first", Rows.laid_unicode_utf8_first)]

set_option maxRecDepth 100000 in
theorem FnExactFormatValue_lifted (os : Os) (started : os.Started) (H : Type) (enc : TypeId × Value → H) :
    ReturnsInHanded {} Tryz.checked os 10 .any (fun w args => (Rows.fnExactFormatValueSpec.pre enc Tryz.prog Tryz.f10 [] false w args ∧ laidMetH Tryz.prog FnExactFormatValue_LL w) ∧ sizedMet enc Tryz.prog Tryz.f10 (OpenSpec.ofChange Rows.fnExactFormatValueSpec) false w args) (Rows.fnExactFormatValueSpec.post enc Tryz.prog Tryz.f10 false true false false) := by
  refine returnsInHanded_of_change_and (C := Tryz.checked) (X := fun w _ => laidMetH Tryz.prog FnExactFormatValue_LL w) (fun _ _ _ hh h => h.of_heap hh) Tryz.own started (by kernel_rfl) Tryz.func10
    (ChangeSpec.witness_shaped (enc := enc) (C := Tryz.checked) (os := os) (X := fun w _ => laidMetH Tryz.prog FnExactFormatValue_LL w) false (World.laidAll Tryz.prog os FnExactFormatValue_LL) #[.agg #[.string ⟨#[]⟩, .int .i64 0, .int .i64 0, .bool false, .bool false, .int .i64 0, .int .i64 0, .int .i64 0, .string ⟨#[]⟩], .agg #[.int .i64 0, .int .i64 0, .bool false, .int .i64 0, .int .i64 0, .string ⟨#[]⟩]] 8 (World.laidAll_os _ _ _) (World.shaped_of_ZipB (by kernel_rfl) (by kernel_rfl)) (by kernel_rfl) (by kernel_rfl) (by kernel_rfl)
      (by rw [MakeChecks.laidMetH_plain _ _ _ (by kernel_rfl)]; exact laidMet_laidAll _ (by kernel_rfl) (by kernel_rfl))) ?_
  intro W base args ds gs before hval0 hW _ _ hL _
  rw [MakeChecks.laidMetH_plain _ _ _ (by kernel_rfl)] at hL
  have hT := p10_is hL
  have hD := dt_ofZ hL
  have hval : ∀ (j : Nat) t v, Tryz.f10.params[j]? = some t → args[j]? = some v → Value.okWide Tryz.prog W .any base t v := hval0
  have hW' := hW
  obtain ⟨p, q, hA0, hV, rfl, hfz, hnd⟩ := hW
  have hA : DataW.TrodAll enc Tryz.prog W 0 (fun _ => true) true Tryz.f10.params.toList args.toList ds p := hA0
  rw [Tryz.params10] at hA hval
  obtain ⟨v0, v1, d0, d1, p0, p1, rfl, rfl, rfl, h0, h1⟩ := trodAll_two hA
  obtain ⟨rfl, rfl⟩ := trodVars_none hV
  obtain ⟨f, al, si, alt, ze, wi, gr, pr, t, rfl, hf, ht⟩ := open_spec (hval 0 53 v0 rfl rfl) h0
  obtain ⟨k, i, n, c, e, x, rfl, hx⟩ := open_value (hval 1 56 v1 rfl rfl) h1
  clear hA0 hval0
  have hlt := fun x hx => hW'.lt x hx
  refine (FnExactFormatValue_law f al si alt ze wi gr pr t k i n c e x W hT hD hf ht hx).mono fun e_ W' ⟨he, hb⟩ => ?_
  subst he
  exact ⟨_, rfl, post_of_below (pa := (p0 ++ p1)) (pv := []) hW' (fun _ _ _ => trodAll_mk1 (shut_bool Tryz.underlying4 true)) (fun sp hsp => trodAll_mk2 (spec_back h0 hb (fun x hx => hlt x (by simp [hx])) (fun x hx => hsp x (by simp [hx]))) (value_back h1 hb (fun x hx => hlt x (by simp [hx])) (fun x hx => hsp x (by simp [hx])))) (fun _ _ => rfl) (by simp) hb (ok_one (by kernel_rfl) rfl (okWide_bool_mk Tryz.underlying4 true))⟩


theorem and_t {a b : Bool} (h : a = true) (k : b = true) : (a && b) = true := by rw [h, k]; rfl
theorem FnExactFormatValue_q1 : (Rows.fnExactFormatValueRow.wf (OpenSpec.ofChange Rows.fnExactFormatValueSpec)) = true := by kernel_rfl
theorem FnExactFormatValue_q2 : (laidOutB Tryz.prog) = true := by kernel_rfl
theorem FnExactFormatValue_q3 : (mapsRowed Tryz.prog) = true := by kernel_rfl
theorem FnExactFormatValue_q4 : (Tryz.f10.params.all (Tryz.prog.readableRec ·)) = true := by kernel_rfl
theorem FnExactFormatValue_q5 : (namedTie Tryz.prog Rows.fnExactFormatValueRow.named Rows.fnExactFormatValueSpec.vars) = true := by kernel_rfl
theorem FnExactFormatValue_q6 : ((Rows.fnExactFormatValueRow.stops == [])) = true := by kernel_rfl
theorem FnExactFormatValue_q7 : ((Tryz.prog.stops == [])) = true := by kernel_rfl
theorem FnExactFormatValue_q8 : ((Rows.fnExactFormatValueRow.knobs == [])) = true := by kernel_rfl
theorem FnExactFormatValue_q9 : ((Tryz.prog.stopKnobs == [])) = true := by kernel_rfl
theorem FnExactFormatValue_q10 : ((Rows.fnExactFormatValueRow.inPlace == Tryz.prog.inPlace 10)) = true := by kernel_rfl
theorem FnExactFormatValue_q11 : ((Rows.fnExactFormatValueRow.unfollowed == Tryz.prog.unfollowed 10)) = true := by kernel_rfl
theorem FnExactFormatValue_q12 : ((Rows.fnExactFormatValueRow.recurses == Tryz.prog.recurses 10)) = true := by kernel_rfl
theorem FnExactFormatValue_q13 : ((Rows.fnExactFormatValueRow.named == Tryz.prog.varsNamed 10)) = true := by kernel_rfl
theorem FnExactFormatValue_q14 : ((Rows.fnExactFormatValueRow.maps == (Tryz.f10.params.toList ++ Rows.fnExactFormatValueSpec.plain.varTypes Tryz.prog).any (Tryz.prog.mapsRec ·))) = true := by kernel_rfl
theorem FnExactFormatValue_q15 : ((Rows.fnExactFormatValueRow.ifaces == (Tryz.f10.params.toList ++ Rows.fnExactFormatValueSpec.plain.varTypes Tryz.prog).any (Tryz.prog.ifacesRec ·))) = true := by kernel_rfl
theorem FnExactFormatValue_q16 : ((Rows.fnExactFormatValueRow.mapsOut == Tryz.prog.mapsAmong Tryz.f10.resultTypes.toList)) = true := by kernel_rfl
theorem FnExactFormatValue_q17 : ((Rows.fnExactFormatValueRow.loops == (Tryz.f10.params.toList ++ Rows.fnExactFormatValueSpec.plain.varTypes Tryz.prog).any (Tryz.prog.loopsFrom ·))) = true := by kernel_rfl
theorem FnExactFormatValue_q18 : ((Rows.fnExactFormatValueRow.wideKeys == (Tryz.f10.params.toList ++ Rows.fnExactFormatValueSpec.plain.varTypes Tryz.prog ++ Tryz.f10.resultTypes.toList).any (Tryz.prog.wideKeysFrom ·))) = true := by kernel_rfl
theorem FnExactFormatValue_q19 : (Rows.fnExactFormatValueSpec.vars.all (Tryz.prog.varReadable ·)) = true := by kernel_rfl
theorem FnExactFormatValue_q20 : (Tryz.f10.resultTypes.all (fun t => Tryz.prog.readableRec t && decide (t < Tryz.prog.types.size))) = true := by kernel_rfl
theorem FnExactFormatValue_q21 : ((Rows.fnExactFormatValueRow.ifacesOut == Tryz.f10.resultTypes.toList.any (Tryz.prog.ifacesRec ·))) = true := by kernel_rfl
theorem FnExactFormatValue_q22 : ((Rows.fnExactFormatValueRow.loopsOut == Tryz.f10.resultTypes.toList.any (Tryz.prog.loopsFrom ·))) = true := by kernel_rfl
theorem FnExactFormatValue_q23 : ((Rows.fnExactFormatValueRow.plainKeys == Tryz.prog.plainKeys)) = true := by kernel_rfl
theorem FnExactFormatValue_q24 : (Rows.fnExactFormatValueRow.shortTexts.isNone) = true := by kernel_rfl
theorem FnExactFormatValue_q25 : (Tryz.prog.stopsHeard) = true := by kernel_rfl
theorem FnExactFormatValue_q26 : (Tryz.prog.mayEnter) = true := by kernel_rfl
theorem FnExactFormatValue_q27 : ((Rows.fnExactFormatValueRow.lifted == Tryz.prog.liftsFinal)) = true := by kernel_rfl
theorem FnExactFormatValue_q28 : ((Tryz.prog.make == some Rows.fnExactFormatValueRow.make)) = true := by kernel_rfl
theorem FnExactFormatValue_q29 : ((Rows.fnExactFormatValueRow.kinds == (if Rows.fnExactFormatValueRow.domain.isEmpty then [] else Tryz.f10.params.toList.map fun t => match Tryz.prog.underlying t with | some (.int k) => some k | _ => none))) = true := by kernel_rfl
theorem FnExactFormatValue_q30 : ((Rows.fnExactFormatValueRow.pinned == Rows.fnExactFormatValueRow.pinnedBy)) = true := by kernel_rfl
theorem FnExactFormatValue_q31 : ((Rows.fnExactFormatValueRow.veiled == (Tryz.f10.params.toList ++ Rows.fnExactFormatValueSpec.plain.varTypes Tryz.prog ++ Tryz.f10.resultTypes.toList).any (Tryz.prog.veiledRec ·))) = true := by kernel_rfl
theorem FnExactFormatValue_q32 : (Rows.fnExactFormatValueRow.veiledFits Tryz.prog Tryz.f10.params.toList (Tryz.f10.params.toList ++ Rows.fnExactFormatValueSpec.plain.varTypes Tryz.prog ++ Tryz.f10.resultTypes.toList)) = true := by kernel_rfl
set_option maxRecDepth 100000 in
theorem FnExactFormatValue_jf : joinedFacts Tryz.prog 10 Tryz.f10 Rows.fnExactFormatValueSpec Rows.fnExactFormatValueRow = true := by
  unfold joinedFacts
  exact and_t (and_t (and_t (and_t (and_t (and_t (and_t (and_t (and_t (and_t (and_t (and_t (and_t (and_t (and_t (and_t (and_t (and_t (and_t (and_t (and_t (and_t (and_t (and_t (and_t (and_t (and_t (and_t (and_t (and_t (and_t (FnExactFormatValue_q1) FnExactFormatValue_q2) FnExactFormatValue_q3) FnExactFormatValue_q4) FnExactFormatValue_q5) FnExactFormatValue_q6) FnExactFormatValue_q7) FnExactFormatValue_q8) FnExactFormatValue_q9) FnExactFormatValue_q10) FnExactFormatValue_q11) FnExactFormatValue_q12) FnExactFormatValue_q13) FnExactFormatValue_q14) FnExactFormatValue_q15) FnExactFormatValue_q16) FnExactFormatValue_q17) FnExactFormatValue_q18) FnExactFormatValue_q19) FnExactFormatValue_q20) FnExactFormatValue_q21) FnExactFormatValue_q22) FnExactFormatValue_q23) FnExactFormatValue_q24) FnExactFormatValue_q25) FnExactFormatValue_q26) FnExactFormatValue_q27) FnExactFormatValue_q28) FnExactFormatValue_q29) FnExactFormatValue_q30) FnExactFormatValue_q31) FnExactFormatValue_q32
theorem FnExactFormatValue_fn : Tryz.prog.funcNamed Rows.fnExactFormatValueRow.func = some 10 := by kernel_rfl
theorem FnExactFormatValue_fn2 : Tryz.prog.funcNamed "loop.example/formatplans/laws.FnExactFormatValue" = some 10 := by kernel_rfl
theorem FnExactFormatValue_lo : false = Tryz.prog.looks [] := by kernel_rfl
theorem FnExactFormatValue_wf : Rows.fnExactFormatValueRow.wfByText (OpenSpec.ofChange Rows.fnExactFormatValueSpec) = true := by kernel_rfl
theorem FnExactFormatValue_go : false = Rows.fnExactFormatValueRow.goesBy Tryz.prog := by kernel_rfl
theorem FnExactFormatValue_wr : Tryz.f10.isWrapper Tryz.prog Rows.fnExactFormatValueRow.wrapper Rows.fnExactFormatValueRow.mainSum := by unfold Func.isWrapper; first | (rw [if_pos (by decide +kernel)]; kernel_rfl) | (rw [if_neg (by decide +kernel)]; exact ⟨rfl, rfl⟩)
theorem FnExactFormatValue_mi : Tryz.prog.mainIs = some (true, "6933efefb6e096d9a2a014b580faf256fe9a780daa6d240b09c62b53f6401334".toList) := by kernel_rfl
theorem FnExactFormatValue_st : ([53, 56].all fun u => !Tryz.prog.wantsStandIn u) = true := by kernel_rfl
theorem FnExactFormatValue_holds : Rows.FnExactFormatValueSaid :=
  OpenClaim.holds_of_wide 10 Tryz.f10 rfl rfl rfl rfl rfl rfl rfl ⟨rfl, rfl, rfl, rfl, rfl⟩ rfl rfl rfl rfl rfl FnExactFormatValue_fn Tryz.func10 FnExactFormatValue_jf
    (of_decide_eq_true (by kernel_rfl)) FnExactFormatValue_wr
    (fun os started H enc _ => FnExactFormatValue_lifted os started H enc)

theorem FnExactFormatValue_card : Rows.FnExactFormatValueCardSaid :=
  Claim7.holds_tied_plain_at .later [] [.data, .data, .data, .data, .pinned, .pinned] true (true, "6933efefb6e096d9a2a014b580faf256fe9a780daa6d240b09c62b53f6401334") false
    FnExactFormatValue_holds (fun _ h => by cases h) FnExactFormatValue_wf (fun _ h => by cases h) fnExactFormatValue_row_tie rfl ⟨rfl, rfl⟩ FnExactFormatValue_mi rfl
    (fun f fn hf hfn => by
      obtain rfl : f = 10 := Option.some.inj (FnExactFormatValue_fn2.symm.trans hf) |>.symm
      obtain rfl : fn = Tryz.f10 := (Option.some.inj (Tryz.func10.symm.trans hfn)).symm
      exact ⟨FnExactFormatValue_lo, fun j t ht => by
        rw [Tryz.params10] at ht
        have hm : t ∈ [53, 56] := by simpa using Array.mem_of_getElem? ht
        have hall := FnExactFormatValue_st
        exact (show Tryz.prog.wantsStandIn t = false by simpa using List.all_eq_true.1 hall t hm)⟩)
    FnExactFormatValue_go
end Go.Proofs.YtejganoipbblcaaGreatDoor
