/- Promise 33: proved for every input. No condition. The tables of the library that the row lists are tied to their text, or pinned. -/
import Derived.Test.YtebheehjhnaklaaGreatDoorRP3
import Derived.Test.YtebheehjhnaklaaGreatDoorRC
import Derived.Test.YtebheehjhnaklaaGreatDoorHSh
import Derived.Test.YtebheehjhnaklaaGreatDoorEVZ
import Derived.Test.YtebheehjhnaklaaGreatDoorTie
import Derived.Test.YtebheehjhnaklaaGreatDoorCards
import Derived.LaidMore
import Derived.Lib.LaidTab
import Derived.Stop.LaidErr
import Derived.Handy
import Derived.Deep.LoopGhost
import Derived.Lay
import Derived.OpenShut
import Derived.Stop.Joined
import Derived.SevenTiedAt
namespace Go.Proofs.YtebheehjhnaklaaGreatDoor
open Go Go.ChangeShapes Go.WideShapes Go.ChangeAt Go.WideMaps Go.WideElems Go.RowKit Go.Joins Go.ChangeMaps

def FnGeneralText_LL : List (String × DataW Unit) := [("math/bits.deBruijn32tab", Rows.laid_math_bits_deBruijn32tab), ("math/bits.deBruijn64tab", Rows.laid_math_bits_deBruijn64tab), ("internal/strconv.uint64pow10", Rows.laid_internal_strconv_uint64pow10), ("unicode/utf8.acceptRanges", Rows.laid_unicode_utf8_acceptRanges), ("strconv.ErrRange", Rows.laid_strconv_ErrRange), ("strconv.ErrSyntax", Rows.laid_strconv_ErrSyntax), ("unicode/utf8.first", Rows.laid_unicode_utf8_first)]

set_option maxRecDepth 100000 in
theorem FnGeneralText_lifted (os : Os) (started : os.Started) (H : Type) (enc : TypeId × Value → H) :
    ReturnsInHanded {} Tryz.checked os 4 .any (fun w args => (Rows.fnGeneralTextSpec.pre enc Tryz.prog Tryz.f4 [] false w args ∧ laidMetH Tryz.prog FnGeneralText_LL w) ∧ sizedMet enc Tryz.prog Tryz.f4 (OpenSpec.ofChange Rows.fnGeneralTextSpec) false w args) (Rows.fnGeneralTextSpec.post enc Tryz.prog Tryz.f4 false true false false) := by
  refine in_handed_shaped (C := Tryz.checked) (X := fun w _ => laidMetH Tryz.prog FnGeneralText_LL w) (fun _ _ _ hh h => h.of_heap hh) Tryz.own started (by kernel_rfl) Tryz.func4
    (ChangeSpec.witness_shaped (enc := enc) (C := Tryz.checked) (os := os) (X := fun w _ => laidMetH Tryz.prog FnGeneralText_LL w) false (World.laidAll Tryz.prog os FnGeneralText_LL) #[.slice none 0 0] 8 (World.laidAll_os _ _ _) (World.shaped_of_ZipB (by kernel_rfl) (by kernel_rfl)) (by kernel_rfl) (by kernel_rfl) (by kernel_rfl)
      (by rw [MakeChecks.laidMetH_plain _ _ _ (by kernel_rfl)]; exact laidMet_laidAll _ (by kernel_rfl) (by kernel_rfl))) ?_
  intro W base args ds gs before hval0 hW _ _ hL hSh _
  rw [MakeChecks.laidMetH_plain _ _ _ (by kernel_rfl)] at hL
  have hT := p10_is hL
  have hM := hasMax_of hSh
  have hE := erv_of hL
  have hval : ∀ (j : Nat) t v, Tryz.f4.params[j]? = some t → args[j]? = some v → Value.okWide Tryz.prog W .any base t v := hval0
  have hW' := hW
  obtain ⟨p, q, hA0, hV, rfl, hfz, hnd⟩ := hW
  have hA : DataW.TrodAll enc Tryz.prog W 0 (fun _ => true) true Tryz.f4.params.toList args.toList ds p := hA0
  rw [Tryz.params4] at hA hval
  obtain ⟨v0, d0, rfl, rfl, h0⟩ := trodAll_one hA
  obtain ⟨rfl, rfl⟩ := trodVars_none hV
  obtain ⟨s, len, cap, rfl, hcap, hcode⟩ := open_code (hval 0 22 v0 rfl rfl) h0
  clear hA0 hval0
  have hlt := fun x hx => hW'.lt x hx
  refine (FnGeneralText_law s len cap W hT hM hE hcode hcap).mono fun e_ W' ⟨he, hb⟩ => ?_
  subst he
  exact ⟨_, rfl, post_of_below (pa := p) (pv := []) hW' (fun _ _ _ => trodAll_mk1 (shut_bool Tryz.underlying4 true)) (fun sp hsp => trodAll_mk1 (code_back h0 hb (fun x hx => hlt x (by simp [hx])) (fun x hx => hsp x (by simp [hx])))) (fun _ _ => rfl) (by simp) hb (ok_one (by kernel_rfl) rfl (okWide_bool_mk Tryz.underlying4 true))⟩


theorem and_t {a b : Bool} (h : a = true) (k : b = true) : (a && b) = true := by rw [h, k]; rfl
theorem FnGeneralText_q1 : (Rows.fnGeneralTextRow.wf (OpenSpec.ofChange Rows.fnGeneralTextSpec)) = true := by kernel_rfl
theorem FnGeneralText_q2 : (laidOutB Tryz.prog) = true := by kernel_rfl
theorem FnGeneralText_q3 : (mapsRowed Tryz.prog) = true := by kernel_rfl
theorem FnGeneralText_q4 : (Tryz.f4.params.all (Tryz.prog.readableRec ·)) = true := by kernel_rfl
theorem FnGeneralText_q5 : (namedTie Tryz.prog Rows.fnGeneralTextRow.named Rows.fnGeneralTextSpec.vars) = true := by kernel_rfl
theorem FnGeneralText_q6 : ((Rows.fnGeneralTextRow.stops == [])) = true := by kernel_rfl
theorem FnGeneralText_q7 : ((Tryz.prog.stops == [])) = true := by kernel_rfl
theorem FnGeneralText_q8 : ((Rows.fnGeneralTextRow.knobs == [])) = true := by kernel_rfl
theorem FnGeneralText_q9 : ((Tryz.prog.stopKnobs == [])) = true := by kernel_rfl
theorem FnGeneralText_q10 : ((Rows.fnGeneralTextRow.inPlace == Tryz.prog.inPlace 4)) = true := by kernel_rfl
theorem FnGeneralText_q11 : ((Rows.fnGeneralTextRow.unfollowed == Tryz.prog.unfollowed 4)) = true := by kernel_rfl
theorem FnGeneralText_q12 : ((Rows.fnGeneralTextRow.recurses == Tryz.prog.recurses 4)) = true := by kernel_rfl
theorem FnGeneralText_q13 : ((Rows.fnGeneralTextRow.named == Tryz.prog.varsNamed 4)) = true := by kernel_rfl
theorem FnGeneralText_q14 : ((Rows.fnGeneralTextRow.maps == (Tryz.f4.params.toList ++ Rows.fnGeneralTextSpec.plain.varTypes Tryz.prog).any (Tryz.prog.mapsRec ·))) = true := by kernel_rfl
theorem FnGeneralText_q15 : ((Rows.fnGeneralTextRow.ifaces == (Tryz.f4.params.toList ++ Rows.fnGeneralTextSpec.plain.varTypes Tryz.prog).any (Tryz.prog.ifacesRec ·))) = true := by kernel_rfl
theorem FnGeneralText_q16 : ((Rows.fnGeneralTextRow.mapsOut == Tryz.prog.mapsAmong Tryz.f4.resultTypes.toList)) = true := by kernel_rfl
theorem FnGeneralText_q17 : ((Rows.fnGeneralTextRow.loops == (Tryz.f4.params.toList ++ Rows.fnGeneralTextSpec.plain.varTypes Tryz.prog).any (Tryz.prog.loopsFrom ·))) = true := by kernel_rfl
theorem FnGeneralText_q18 : ((Rows.fnGeneralTextRow.wideKeys == (Tryz.f4.params.toList ++ Rows.fnGeneralTextSpec.plain.varTypes Tryz.prog ++ Tryz.f4.resultTypes.toList).any (Tryz.prog.wideKeysFrom ·))) = true := by kernel_rfl
theorem FnGeneralText_q19 : (Rows.fnGeneralTextSpec.vars.all (Tryz.prog.varReadable ·)) = true := by kernel_rfl
theorem FnGeneralText_q20 : (Tryz.f4.resultTypes.all (fun t => Tryz.prog.readableRec t && decide (t < Tryz.prog.types.size))) = true := by kernel_rfl
theorem FnGeneralText_q21 : ((Rows.fnGeneralTextRow.ifacesOut == Tryz.f4.resultTypes.toList.any (Tryz.prog.ifacesRec ·))) = true := by kernel_rfl
theorem FnGeneralText_q22 : ((Rows.fnGeneralTextRow.loopsOut == Tryz.f4.resultTypes.toList.any (Tryz.prog.loopsFrom ·))) = true := by kernel_rfl
theorem FnGeneralText_q23 : ((Rows.fnGeneralTextRow.plainKeys == Tryz.prog.plainKeys)) = true := by kernel_rfl
theorem FnGeneralText_q24 : (Rows.fnGeneralTextRow.shortTexts.isNone) = true := by kernel_rfl
theorem FnGeneralText_q25 : (Tryz.prog.stopsHeard) = true := by kernel_rfl
theorem FnGeneralText_q26 : (Tryz.prog.mayEnter) = true := by kernel_rfl
theorem FnGeneralText_q27 : ((Rows.fnGeneralTextRow.lifted == Tryz.prog.liftsFinal)) = true := by kernel_rfl
theorem FnGeneralText_q28 : ((Tryz.prog.make == some Rows.fnGeneralTextRow.make)) = true := by kernel_rfl
theorem FnGeneralText_q29 : ((Rows.fnGeneralTextRow.kinds == (if Rows.fnGeneralTextRow.domain.isEmpty then [] else Tryz.f4.params.toList.map fun t => match Tryz.prog.underlying t with | some (.int k) => some k | _ => none))) = true := by kernel_rfl
theorem FnGeneralText_q30 : ((Rows.fnGeneralTextRow.pinned == Rows.fnGeneralTextRow.pinnedBy)) = true := by kernel_rfl
theorem FnGeneralText_q31 : ((Rows.fnGeneralTextRow.veiled == (Tryz.f4.params.toList ++ Rows.fnGeneralTextSpec.plain.varTypes Tryz.prog ++ Tryz.f4.resultTypes.toList).any (Tryz.prog.veiledRec ·))) = true := by kernel_rfl
theorem FnGeneralText_q32 : (Rows.fnGeneralTextRow.veiledFits Tryz.prog Tryz.f4.params.toList (Tryz.f4.params.toList ++ Rows.fnGeneralTextSpec.plain.varTypes Tryz.prog ++ Tryz.f4.resultTypes.toList)) = true := by kernel_rfl
set_option maxRecDepth 100000 in
theorem FnGeneralText_jf : joinedFacts Tryz.prog 4 Tryz.f4 Rows.fnGeneralTextSpec Rows.fnGeneralTextRow = true := by
  unfold joinedFacts
  exact and_t (and_t (and_t (and_t (and_t (and_t (and_t (and_t (and_t (and_t (and_t (and_t (and_t (and_t (and_t (and_t (and_t (and_t (and_t (and_t (and_t (and_t (and_t (and_t (and_t (and_t (and_t (and_t (and_t (and_t (and_t (FnGeneralText_q1) FnGeneralText_q2) FnGeneralText_q3) FnGeneralText_q4) FnGeneralText_q5) FnGeneralText_q6) FnGeneralText_q7) FnGeneralText_q8) FnGeneralText_q9) FnGeneralText_q10) FnGeneralText_q11) FnGeneralText_q12) FnGeneralText_q13) FnGeneralText_q14) FnGeneralText_q15) FnGeneralText_q16) FnGeneralText_q17) FnGeneralText_q18) FnGeneralText_q19) FnGeneralText_q20) FnGeneralText_q21) FnGeneralText_q22) FnGeneralText_q23) FnGeneralText_q24) FnGeneralText_q25) FnGeneralText_q26) FnGeneralText_q27) FnGeneralText_q28) FnGeneralText_q29) FnGeneralText_q30) FnGeneralText_q31) FnGeneralText_q32
theorem FnGeneralText_fn : Tryz.prog.funcNamed Rows.fnGeneralTextRow.func = some 4 := by kernel_rfl
theorem FnGeneralText_fn2 : Tryz.prog.funcNamed "loop.example/formatplans/laws.FnGeneralText" = some 4 := by kernel_rfl
theorem FnGeneralText_lo : true = Tryz.prog.looks [] := by kernel_rfl
theorem FnGeneralText_wf : Rows.fnGeneralTextRow.wfByText (OpenSpec.ofChange Rows.fnGeneralTextSpec) = true := by kernel_rfl
theorem FnGeneralText_go : false = Rows.fnGeneralTextRow.goesBy Tryz.prog := by kernel_rfl
theorem FnGeneralText_wr : Tryz.f4.isWrapper Tryz.prog Rows.fnGeneralTextRow.wrapper Rows.fnGeneralTextRow.mainSum := by unfold Func.isWrapper; first | (rw [if_pos (by decide +kernel)]; kernel_rfl) | (rw [if_neg (by decide +kernel)]; exact ⟨rfl, rfl⟩)
theorem FnGeneralText_mi : Tryz.prog.mainIs = some (true, "aea915812a0d0f122e6bca150b7452ef1f20cf4dede436ee42f3f7ea2614f74d".toList) := by kernel_rfl
theorem FnGeneralText_st : ([22].all fun u => !Tryz.prog.wantsStandIn u) = true := by kernel_rfl
theorem FnGeneralText_holds : Rows.FnGeneralTextSaid :=
  OpenClaim.holds_of_wide 4 Tryz.f4 rfl rfl rfl rfl rfl rfl rfl ⟨rfl, rfl, rfl, rfl, rfl⟩ rfl rfl rfl rfl rfl FnGeneralText_fn Tryz.func4 FnGeneralText_jf
    (of_decide_eq_true (by kernel_rfl)) FnGeneralText_wr
    (fun os started H enc _ => FnGeneralText_lifted os started H enc)

theorem FnGeneralText_card : Rows.FnGeneralTextCardSaid :=
  Claim7.holds_tied_plain_at .later [] [.data, .data, .data, .data, .sentinel, .sentinel, .pinned] true (true, "aea915812a0d0f122e6bca150b7452ef1f20cf4dede436ee42f3f7ea2614f74d") true
    FnGeneralText_holds (fun _ h => by cases h) FnGeneralText_wf (fun _ h => by cases h) fnGeneralText_row_tie rfl ⟨rfl, rfl⟩ FnGeneralText_mi rfl
    (fun f fn hf hfn => by
      obtain rfl : f = 4 := Option.some.inj (FnGeneralText_fn2.symm.trans hf) |>.symm
      obtain rfl : fn = Tryz.f4 := (Option.some.inj (Tryz.func4.symm.trans hfn)).symm
      exact ⟨FnGeneralText_lo, fun j t ht => by
        rw [Tryz.params4] at ht
        have hm : t ∈ [22] := by simpa using Array.mem_of_getElem? ht
        have hall := FnGeneralText_st
        exact (show Tryz.prog.wantsStandIn t = false by simpa using List.all_eq_true.1 hall t hm)⟩)
    FnGeneralText_go
end Go.Proofs.YtebheehjhnaklaaGreatDoor
