import Derived.Test.YtebheehjhnaklaaGreatDoorRP5
import Derived.Test.YtebheehjhnaklaaGreatDoorRC
import Derived.Test.YtebheehjhnaklaaGreatDoorHSh
import Derived.Test.YtebheehjhnaklaaGreatDoorEVZ
import Derived.Test.YtebheehjhnaklaaGreatDoorTie
import Derived.Test.YtebheehjhnaklaaGreatDoorCards
import Derived.LaidMore
import Derived.Lib.LaidTab
import Derived.Stop.LaidErr
import Derived.Handy
import Derived.Deep.LoopGhost
import Derived.Lay
import Derived.OpenShut
import Derived.Stop.Joined
import Derived.SevenTiedAt
/- Promise 39: proved for every input. No condition. The tables of the library that the row lists are tied to their text, or pinned. -/
namespace Go.Proofs.YtebheehjhnaklaaGreatDoor
open Go Go.ChangeShapes Go.WideShapes Go.ChangeAt Go.WideMaps Go.WideElems Go.RowKit Go.Joins Go.ChangeMaps
def FnReadReal_LL : List (String × DataW Unit) := [("math/bits.deBruijn32tab", Rows.laid_math_bits_deBruijn32tab), ("math/bits.deBruijn64tab", Rows.laid_math_bits_deBruijn64tab), ("internal/strconv.uint64pow10", Rows.laid_internal_strconv_uint64pow10), ("unicode/utf8.acceptRanges", Rows.laid_unicode_utf8_acceptRanges), ("strconv.ErrRange", Rows.laid_strconv_ErrRange), ("strconv.ErrSyntax", Rows.laid_strconv_ErrSyntax), ("unicode/utf8.first", Rows.laid_unicode_utf8_first)]
set_option maxRecDepth 100000 in
theorem FnReadReal_lifted (os : Os) (started : os.Started) (H : Type) (enc : TypeId × Value → H) :
    ReturnsInHanded {} Tryz.checked os 5 .any (fun w args => (Rows.fnReadRealSpec.pre enc Tryz.prog Tryz.f5 [] false w args ∧ laidMetH Tryz.prog FnReadReal_LL w) ∧ sizedMet enc Tryz.prog Tryz.f5 (OpenSpec.ofChange Rows.fnReadRealSpec) false w args) (Rows.fnReadRealSpec.post enc Tryz.prog Tryz.f5 false true false false) := by
  refine in_handed_shaped (C := Tryz.checked) (X := fun w _ => laidMetH Tryz.prog FnReadReal_LL w) (fun _ _ _ hh h => h.of_heap hh) Tryz.own started (by kernel_rfl) Tryz.func5
    (ChangeSpec.witness_shaped (enc := enc) (C := Tryz.checked) (os := os) (X := fun w _ => laidMetH Tryz.prog FnReadReal_LL w) false (World.laidAll Tryz.prog os FnReadReal_LL) #[.slice none 0 0] 8 (World.laidAll_os _ _ _) (World.shaped_of_ZipB (by kernel_rfl) (by kernel_rfl)) (by kernel_rfl) (by kernel_rfl) (by kernel_rfl)
      (by rw [MakeChecks.laidMetH_plain _ _ _ (by kernel_rfl)]; exact laidMet_laidAll _ (by kernel_rfl) (by kernel_rfl))) ?_
  intro W base args ds gs before hval0 hW _ _ hL hSh _
  rw [MakeChecks.laidMetH_plain _ _ _ (by kernel_rfl)] at hL
  have hT := p10_is hL
  have hM := hasMax_of hSh
  have hE := erv_of hL
  have hval : ∀ (j : Nat) t v, Tryz.f5.params[j]? = some t → args[j]? = some v → Value.okWide Tryz.prog W .any base t v := hval0
  have hW' := hW
  obtain ⟨p, q, hA0, hV, rfl, hfz, hnd⟩ := hW
  have hA : DataW.TrodAll enc Tryz.prog W 0 (fun _ => true) true Tryz.f5.params.toList args.toList ds p := hA0
  rw [Tryz.params5] at hA hval
  obtain ⟨v0, d0, rfl, rfl, h0⟩ := trodAll_one hA
  obtain ⟨rfl, rfl⟩ := trodVars_none hV
  obtain ⟨s, len, cap, rfl, hcap, hcode⟩ := open_code (hval 0 22 v0 rfl rfl) h0
  clear hA0 hval0
  have hlt := fun x hx => hW'.lt x hx
  refine (FnReadReal_law s len cap W hT hM hE hcode hcap).mono fun e_ W' ⟨he, hb⟩ => ?_
  subst he
  exact ⟨_, rfl, post_of_below (pa := p) (pv := []) hW' (fun _ _ _ => trodAll_mk1 (shut_bool Tryz.underlying4 true)) (fun sp hsp => trodAll_mk1 (code_back h0 hb (fun x hx => hlt x (by simp [hx])) (fun x hx => hsp x (by simp [hx])))) (fun _ _ => rfl) (by simp) hb (ok_one (by kernel_rfl) rfl (okWide_bool_mk Tryz.underlying4 true))⟩

theorem and_t {a b : Bool} (h : a = true) (k : b = true) : (a && b) = true := by rw [h, k]; rfl
theorem FnReadReal_q1 : (Rows.fnReadRealRow.wf (OpenSpec.ofChange Rows.fnReadRealSpec)) = true := by kernel_rfl
theorem FnReadReal_q2 : (laidOutB Tryz.prog) = true := by kernel_rfl
theorem FnReadReal_q3 : (mapsRowed Tryz.prog) = true := by kernel_rfl
theorem FnReadReal_q4 : (Tryz.f5.params.all (Tryz.prog.readableRec ·)) = true := by kernel_rfl
theorem FnReadReal_q5 : (namedTie Tryz.prog Rows.fnReadRealRow.named Rows.fnReadRealSpec.vars) = true := by kernel_rfl
theorem FnReadReal_q6 : ((Rows.fnReadRealRow.stops == [])) = true := by kernel_rfl
theorem FnReadReal_q7 : ((Tryz.prog.stops == [])) = true := by kernel_rfl
theorem FnReadReal_q8 : ((Rows.fnReadRealRow.knobs == [])) = true := by kernel_rfl
theorem FnReadReal_q9 : ((Tryz.prog.stopKnobs == [])) = true := by kernel_rfl
theorem FnReadReal_q10 : ((Rows.fnReadRealRow.inPlace == Tryz.prog.inPlace 5)) = true := by kernel_rfl
theorem FnReadReal_q11 : ((Rows.fnReadRealRow.unfollowed == Tryz.prog.unfollowed 5)) = true := by kernel_rfl
theorem FnReadReal_q12 : ((Rows.fnReadRealRow.recurses == Tryz.prog.recurses 5)) = true := by kernel_rfl
theorem FnReadReal_q13 : ((Rows.fnReadRealRow.named == Tryz.prog.varsNamed 5)) = true := by kernel_rfl
theorem FnReadReal_q14 : ((Rows.fnReadRealRow.maps == (Tryz.f5.params.toList ++ Rows.fnReadRealSpec.plain.varTypes Tryz.prog).any (Tryz.prog.mapsRec ·))) = true := by kernel_rfl
theorem FnReadReal_q15 : ((Rows.fnReadRealRow.ifaces == (Tryz.f5.params.toList ++ Rows.fnReadRealSpec.plain.varTypes Tryz.prog).any (Tryz.prog.ifacesRec ·))) = true := by kernel_rfl
theorem FnReadReal_q16 : ((Rows.fnReadRealRow.mapsOut == Tryz.prog.mapsAmong Tryz.f5.resultTypes.toList)) = true := by kernel_rfl
theorem FnReadReal_q17 : ((Rows.fnReadRealRow.loops == (Tryz.f5.params.toList ++ Rows.fnReadRealSpec.plain.varTypes Tryz.prog).any (Tryz.prog.loopsFrom ·))) = true := by kernel_rfl
theorem FnReadReal_q18 : ((Rows.fnReadRealRow.wideKeys == (Tryz.f5.params.toList ++ Rows.fnReadRealSpec.plain.varTypes Tryz.prog ++ Tryz.f5.resultTypes.toList).any (Tryz.prog.wideKeysFrom ·))) = true := by kernel_rfl
theorem FnReadReal_q19 : (Rows.fnReadRealSpec.vars.all (Tryz.prog.varReadable ·)) = true := by kernel_rfl
theorem FnReadReal_q20 : (Tryz.f5.resultTypes.all (fun t => Tryz.prog.readableRec t && decide (t < Tryz.prog.types.size))) = true := by kernel_rfl
theorem FnReadReal_q21 : ((Rows.fnReadRealRow.ifacesOut == Tryz.f5.resultTypes.toList.any (Tryz.prog.ifacesRec ·))) = true := by kernel_rfl
theorem FnReadReal_q22 : ((Rows.fnReadRealRow.loopsOut == Tryz.f5.resultTypes.toList.any (Tryz.prog.loopsFrom ·))) = true := by kernel_rfl
theorem FnReadReal_q23 : ((Rows.fnReadRealRow.plainKeys == Tryz.prog.plainKeys)) = true := by kernel_rfl
theorem FnReadReal_q24 : (Rows.fnReadRealRow.shortTexts.isNone) = true := by kernel_rfl
theorem FnReadReal_q25 : (Tryz.prog.stopsHeard) = true := by kernel_rfl
theorem FnReadReal_q26 : (Tryz.prog.mayEnter) = true := by kernel_rfl
theorem FnReadReal_q27 : ((Rows.fnReadRealRow.lifted == Tryz.prog.liftsFinal)) = true := by kernel_rfl
theorem FnReadReal_q28 : ((Tryz.prog.make == some Rows.fnReadRealRow.make)) = true := by kernel_rfl
theorem FnReadReal_q29 : ((Rows.fnReadRealRow.kinds == (if Rows.fnReadRealRow.domain.isEmpty then [] else Tryz.f5.params.toList.map fun t => match Tryz.prog.underlying t with | some (.int k) => some k | _ => none))) = true := by kernel_rfl
theorem FnReadReal_q30 : ((Rows.fnReadRealRow.pinned == Rows.fnReadRealRow.pinnedBy)) = true := by kernel_rfl
theorem FnReadReal_q31 : ((Rows.fnReadRealRow.veiled == (Tryz.f5.params.toList ++ Rows.fnReadRealSpec.plain.varTypes Tryz.prog ++ Tryz.f5.resultTypes.toList).any (Tryz.prog.veiledRec ·))) = true := by kernel_rfl
theorem FnReadReal_q32 : (Rows.fnReadRealRow.veiledFits Tryz.prog Tryz.f5.params.toList (Tryz.f5.params.toList ++ Rows.fnReadRealSpec.plain.varTypes Tryz.prog ++ Tryz.f5.resultTypes.toList)) = true := by kernel_rfl
set_option maxRecDepth 100000 in
theorem FnReadReal_jf : joinedFacts Tryz.prog 5 Tryz.f5 Rows.fnReadRealSpec Rows.fnReadRealRow = true := by
  unfold joinedFacts
  exact and_t (and_t (and_t (and_t (and_t (and_t (and_t (and_t (and_t (and_t (and_t (and_t (and_t (and_t (and_t (and_t (and_t (and_t (and_t (and_t (and_t (and_t (and_t (and_t (and_t (and_t (and_t (and_t (and_t (and_t (and_t (FnReadReal_q1) FnReadReal_q2) FnReadReal_q3) FnReadReal_q4) FnReadReal_q5) FnReadReal_q6) FnReadReal_q7) FnReadReal_q8) FnReadReal_q9) FnReadReal_q10) FnReadReal_q11) FnReadReal_q12) FnReadReal_q13) FnReadReal_q14) FnReadReal_q15) FnReadReal_q16) FnReadReal_q17) FnReadReal_q18) FnReadReal_q19) FnReadReal_q20) FnReadReal_q21) FnReadReal_q22) FnReadReal_q23) FnReadReal_q24) FnReadReal_q25) FnReadReal_q26) FnReadReal_q27) FnReadReal_q28) FnReadReal_q29) FnReadReal_q30) FnReadReal_q31) FnReadReal_q32
theorem FnReadReal_fn : Tryz.prog.funcNamed Rows.fnReadRealRow.func = some 5 := by kernel_rfl
theorem FnReadReal_fn2 : Tryz.prog.funcNamed "loop.example/formatplans/laws.FnReadReal" = some 5 := by kernel_rfl
theorem FnReadReal_lo : true = Tryz.prog.looks [] := by kernel_rfl
theorem FnReadReal_wf : Rows.fnReadRealRow.wfByText (OpenSpec.ofChange Rows.fnReadRealSpec) = true := by kernel_rfl
theorem FnReadReal_go : false = Rows.fnReadRealRow.goesBy Tryz.prog := by kernel_rfl
theorem FnReadReal_wr : Tryz.f5.isWrapper Tryz.prog Rows.fnReadRealRow.wrapper Rows.fnReadRealRow.mainSum := by unfold Func.isWrapper; first | (rw [if_pos (by decide +kernel)]; kernel_rfl) | (rw [if_neg (by decide +kernel)]; exact ⟨rfl, rfl⟩)
theorem FnReadReal_mi : Tryz.prog.mainIs = some (true, "aea915812a0d0f122e6bca150b7452ef1f20cf4dede436ee42f3f7ea2614f74d".toList) := by kernel_rfl
theorem FnReadReal_st : ([22].all fun u => !Tryz.prog.wantsStandIn u) = true := by kernel_rfl
theorem FnReadReal_holds : Rows.FnReadRealSaid :=
  OpenClaim.holds_of_wide 5 Tryz.f5 rfl rfl rfl rfl rfl rfl rfl ⟨rfl, rfl, rfl, rfl, rfl⟩ rfl rfl rfl rfl rfl FnReadReal_fn Tryz.func5 FnReadReal_jf
    (of_decide_eq_true (by kernel_rfl)) FnReadReal_wr
    (fun os started H enc _ => FnReadReal_lifted os started H enc)
theorem FnReadReal_card : Rows.FnReadRealCardSaid :=
  Claim7.holds_tied_plain_at .later [] [.data, .data, .data, .data, .sentinel, .sentinel, .pinned] true (true, "aea915812a0d0f122e6bca150b7452ef1f20cf4dede436ee42f3f7ea2614f74d") true
    FnReadReal_holds (fun _ h => by cases h) FnReadReal_wf (fun _ h => by cases h) fnReadReal_row_tie rfl ⟨rfl, rfl⟩ FnReadReal_mi rfl
    (fun f fn hf hfn => by
      obtain rfl : f = 5 := Option.some.inj (FnReadReal_fn2.symm.trans hf) |>.symm
      obtain rfl : fn = Tryz.f5 := (Option.some.inj (Tryz.func5.symm.trans hfn)).symm
      exact ⟨FnReadReal_lo, fun j t ht => by
        rw [Tryz.params5] at ht
        have hm : t ∈ [22] := by simpa using Array.mem_of_getElem? ht
        have hall := FnReadReal_st
        exact (show Tryz.prog.wantsStandIn t = false by simpa using List.all_eq_true.1 hall t hm)⟩)
    FnReadReal_go
end Go.Proofs.YtebheehjhnaklaaGreatDoor
