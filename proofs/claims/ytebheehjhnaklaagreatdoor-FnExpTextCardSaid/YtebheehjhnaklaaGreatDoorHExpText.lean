import Derived.Test.YtebheehjhnaklaaGreatDoorRP2L
import Derived.Test.YtebheehjhnaklaaGreatDoorRC
import Derived.Test.YtebheehjhnaklaaGreatDoorHSh
import Derived.Test.YtebheehjhnaklaaGreatDoorEVZ
import Derived.Test.YtebheehjhnaklaaGreatDoorTie
import Derived.Test.YtebheehjhnaklaaGreatDoorCards
import Derived.LaidMore
import Derived.Lib.LaidTab
import Derived.Stop.LaidErr
import Derived.Handy
import Derived.Deep.LoopGhost
import Derived.Lay
import Derived.OpenShut
import Derived.Stop.Joined
import Derived.SevenTiedAt
/- Promise 32: proved for every input. No condition. The tables of the library that the row lists are tied to their text, or pinned. -/
namespace Go.Proofs.YtebheehjhnaklaaGreatDoor
open Go Go.ChangeShapes Go.WideShapes Go.ChangeAt Go.WideMaps Go.WideElems Go.RowKit Go.Joins Go.ChangeMaps
def FnExpText_LL : List (String × DataW Unit) := [("math/bits.deBruijn32tab", Rows.laid_math_bits_deBruijn32tab), ("math/bits.deBruijn64tab", Rows.laid_math_bits_deBruijn64tab), ("internal/strconv.uint64pow10", Rows.laid_internal_strconv_uint64pow10), ("unicode/utf8.acceptRanges", Rows.laid_unicode_utf8_acceptRanges), ("strconv.ErrRange", Rows.laid_strconv_ErrRange), ("strconv.ErrSyntax", Rows.laid_strconv_ErrSyntax), ("unicode/utf8.first", Rows.laid_unicode_utf8_first)]
set_option maxRecDepth 100000 in
theorem FnExpText_lifted (os : Os) (started : os.Started) (H : Type) (enc : TypeId × Value → H) :
    ReturnsInHanded {} Tryz.checked os 3 .any (fun w args => (Rows.fnExpTextSpec.pre enc Tryz.prog Tryz.f3 [] false w args ∧ laidMetH Tryz.prog FnExpText_LL w) ∧ sizedMet enc Tryz.prog Tryz.f3 (OpenSpec.ofChange Rows.fnExpTextSpec) false w args) (Rows.fnExpTextSpec.post enc Tryz.prog Tryz.f3 false true false false) := by
  refine in_handed_shaped (C := Tryz.checked) (X := fun w _ => laidMetH Tryz.prog FnExpText_LL w) (fun _ _ _ hh h => h.of_heap hh) Tryz.own started (by kernel_rfl) Tryz.func3
    (ChangeSpec.witness_shaped (enc := enc) (C := Tryz.checked) (os := os) (X := fun w _ => laidMetH Tryz.prog FnExpText_LL w) false (World.laidAll Tryz.prog os FnExpText_LL) #[.slice none 0 0] 8 (World.laidAll_os _ _ _) (World.shaped_of_ZipB (by kernel_rfl) (by kernel_rfl)) (by kernel_rfl) (by kernel_rfl) (by kernel_rfl)
      (by rw [MakeChecks.laidMetH_plain _ _ _ (by kernel_rfl)]; exact laidMet_laidAll _ (by kernel_rfl) (by kernel_rfl))) ?_
  intro W base args ds gs before hval0 hW _ _ hL hSh _
  rw [MakeChecks.laidMetH_plain _ _ _ (by kernel_rfl)] at hL
  have hT := p10_is hL
  have hM := hasMax_of hSh
  have hE := erv_of hL
  have hval : ∀ (j : Nat) t v, Tryz.f3.params[j]? = some t → args[j]? = some v → Value.okWide Tryz.prog W .any base t v := hval0
  have hW' := hW
  obtain ⟨p, q, hA0, hV, rfl, hfz, hnd⟩ := hW
  have hA : DataW.TrodAll enc Tryz.prog W 0 (fun _ => true) true Tryz.f3.params.toList args.toList ds p := hA0
  rw [Tryz.params3] at hA hval
  obtain ⟨v0, d0, rfl, rfl, h0⟩ := trodAll_one hA
  obtain ⟨rfl, rfl⟩ := trodVars_none hV
  obtain ⟨s, len, cap, rfl, hcap, hcode⟩ := open_code (hval 0 22 v0 rfl rfl) h0
  clear hA0 hval0
  have hlt := fun x hx => hW'.lt x hx
  refine (FnExpText_law s len cap W hT hM hE hcode hcap).mono fun e_ W' ⟨he, hb⟩ => ?_
  subst he
  exact ⟨_, rfl, post_of_below (pa := p) (pv := []) hW' (fun _ _ _ => trodAll_mk1 (shut_bool Tryz.underlying4 true)) (fun sp hsp => trodAll_mk1 (code_back h0 hb (fun x hx => hlt x (by simp [hx])) (fun x hx => hsp x (by simp [hx])))) (fun _ _ => rfl) (by simp) hb (ok_one (by kernel_rfl) rfl (okWide_bool_mk Tryz.underlying4 true))⟩

theorem and_t {a b : Bool} (h : a = true) (k : b = true) : (a && b) = true := by rw [h, k]; rfl
theorem FnExpText_q1 : (Rows.fnExpTextRow.wf (OpenSpec.ofChange Rows.fnExpTextSpec)) = true := by kernel_rfl
theorem FnExpText_q2 : (laidOutB Tryz.prog) = true := by kernel_rfl
theorem FnExpText_q3 : (mapsRowed Tryz.prog) = true := by kernel_rfl
theorem FnExpText_q4 : (Tryz.f3.params.all (Tryz.prog.readableRec ·)) = true := by kernel_rfl
theorem FnExpText_q5 : (namedTie Tryz.prog Rows.fnExpTextRow.named Rows.fnExpTextSpec.vars) = true := by kernel_rfl
theorem FnExpText_q6 : ((Rows.fnExpTextRow.stops == [])) = true := by kernel_rfl
theorem FnExpText_q7 : ((Tryz.prog.stops == [])) = true := by kernel_rfl
theorem FnExpText_q8 : ((Rows.fnExpTextRow.knobs == [])) = true := by kernel_rfl
theorem FnExpText_q9 : ((Tryz.prog.stopKnobs == [])) = true := by kernel_rfl
theorem FnExpText_q10 : ((Rows.fnExpTextRow.inPlace == Tryz.prog.inPlace 3)) = true := by kernel_rfl
theorem FnExpText_q11 : ((Rows.fnExpTextRow.unfollowed == Tryz.prog.unfollowed 3)) = true := by kernel_rfl
theorem FnExpText_q12 : ((Rows.fnExpTextRow.recurses == Tryz.prog.recurses 3)) = true := by kernel_rfl
theorem FnExpText_q13 : ((Rows.fnExpTextRow.named == Tryz.prog.varsNamed 3)) = true := by kernel_rfl
theorem FnExpText_q14 : ((Rows.fnExpTextRow.maps == (Tryz.f3.params.toList ++ Rows.fnExpTextSpec.plain.varTypes Tryz.prog).any (Tryz.prog.mapsRec ·))) = true := by kernel_rfl
theorem FnExpText_q15 : ((Rows.fnExpTextRow.ifaces == (Tryz.f3.params.toList ++ Rows.fnExpTextSpec.plain.varTypes Tryz.prog).any (Tryz.prog.ifacesRec ·))) = true := by kernel_rfl
theorem FnExpText_q16 : ((Rows.fnExpTextRow.mapsOut == Tryz.prog.mapsAmong Tryz.f3.resultTypes.toList)) = true := by kernel_rfl
theorem FnExpText_q17 : ((Rows.fnExpTextRow.loops == (Tryz.f3.params.toList ++ Rows.fnExpTextSpec.plain.varTypes Tryz.prog).any (Tryz.prog.loopsFrom ·))) = true := by kernel_rfl
theorem FnExpText_q18 : ((Rows.fnExpTextRow.wideKeys == (Tryz.f3.params.toList ++ Rows.fnExpTextSpec.plain.varTypes Tryz.prog ++ Tryz.f3.resultTypes.toList).any (Tryz.prog.wideKeysFrom ·))) = true := by kernel_rfl
theorem FnExpText_q19 : (Rows.fnExpTextSpec.vars.all (Tryz.prog.varReadable ·)) = true := by kernel_rfl
theorem FnExpText_q20 : (Tryz.f3.resultTypes.all (fun t => Tryz.prog.readableRec t && decide (t < Tryz.prog.types.size))) = true := by kernel_rfl
theorem FnExpText_q21 : ((Rows.fnExpTextRow.ifacesOut == Tryz.f3.resultTypes.toList.any (Tryz.prog.ifacesRec ·))) = true := by kernel_rfl
theorem FnExpText_q22 : ((Rows.fnExpTextRow.loopsOut == Tryz.f3.resultTypes.toList.any (Tryz.prog.loopsFrom ·))) = true := by kernel_rfl
theorem FnExpText_q23 : ((Rows.fnExpTextRow.plainKeys == Tryz.prog.plainKeys)) = true := by kernel_rfl
theorem FnExpText_q24 : (Rows.fnExpTextRow.shortTexts.isNone) = true := by kernel_rfl
theorem FnExpText_q25 : (Tryz.prog.stopsHeard) = true := by kernel_rfl
theorem FnExpText_q26 : (Tryz.prog.mayEnter) = true := by kernel_rfl
theorem FnExpText_q27 : ((Rows.fnExpTextRow.lifted == Tryz.prog.liftsFinal)) = true := by kernel_rfl
theorem FnExpText_q28 : ((Tryz.prog.make == some Rows.fnExpTextRow.make)) = true := by kernel_rfl
theorem FnExpText_q29 : ((Rows.fnExpTextRow.kinds == (if Rows.fnExpTextRow.domain.isEmpty then [] else Tryz.f3.params.toList.map fun t => match Tryz.prog.underlying t with | some (.int k) => some k | _ => none))) = true := by kernel_rfl
theorem FnExpText_q30 : ((Rows.fnExpTextRow.pinned == Rows.fnExpTextRow.pinnedBy)) = true := by kernel_rfl
theorem FnExpText_q31 : ((Rows.fnExpTextRow.veiled == (Tryz.f3.params.toList ++ Rows.fnExpTextSpec.plain.varTypes Tryz.prog ++ Tryz.f3.resultTypes.toList).any (Tryz.prog.veiledRec ·))) = true := by kernel_rfl
theorem FnExpText_q32 : (Rows.fnExpTextRow.veiledFits Tryz.prog Tryz.f3.params.toList (Tryz.f3.params.toList ++ Rows.fnExpTextSpec.plain.varTypes Tryz.prog ++ Tryz.f3.resultTypes.toList)) = true := by kernel_rfl
set_option maxRecDepth 100000 in
theorem FnExpText_jf : joinedFacts Tryz.prog 3 Tryz.f3 Rows.fnExpTextSpec Rows.fnExpTextRow = true := by
  unfold joinedFacts
  exact and_t (and_t (and_t (and_t (and_t (and_t (and_t (and_t (and_t (and_t (and_t (and_t (and_t (and_t (and_t (and_t (and_t (and_t (and_t (and_t (and_t (and_t (and_t (and_t (and_t (and_t (and_t (and_t (and_t (and_t (and_t (FnExpText_q1) FnExpText_q2) FnExpText_q3) FnExpText_q4) FnExpText_q5) FnExpText_q6) FnExpText_q7) FnExpText_q8) FnExpText_q9) FnExpText_q10) FnExpText_q11) FnExpText_q12) FnExpText_q13) FnExpText_q14) FnExpText_q15) FnExpText_q16) FnExpText_q17) FnExpText_q18) FnExpText_q19) FnExpText_q20) FnExpText_q21) FnExpText_q22) FnExpText_q23) FnExpText_q24) FnExpText_q25) FnExpText_q26) FnExpText_q27) FnExpText_q28) FnExpText_q29) FnExpText_q30) FnExpText_q31) FnExpText_q32
theorem FnExpText_fn : Tryz.prog.funcNamed Rows.fnExpTextRow.func = some 3 := by kernel_rfl
theorem FnExpText_fn2 : Tryz.prog.funcNamed "loop.example/formatplans/laws.FnExpText" = some 3 := by kernel_rfl
theorem FnExpText_lo : true = Tryz.prog.looks [] := by kernel_rfl
theorem FnExpText_wf : Rows.fnExpTextRow.wfByText (OpenSpec.ofChange Rows.fnExpTextSpec) = true := by kernel_rfl
theorem FnExpText_go : false = Rows.fnExpTextRow.goesBy Tryz.prog := by kernel_rfl
theorem FnExpText_wr : Tryz.f3.isWrapper Tryz.prog Rows.fnExpTextRow.wrapper Rows.fnExpTextRow.mainSum := by unfold Func.isWrapper; first | (rw [if_pos (by decide +kernel)]; kernel_rfl) | (rw [if_neg (by decide +kernel)]; exact ⟨rfl, rfl⟩)
theorem FnExpText_mi : Tryz.prog.mainIs = some (true, "aea915812a0d0f122e6bca150b7452ef1f20cf4dede436ee42f3f7ea2614f74d".toList) := by kernel_rfl
theorem FnExpText_st : ([22].all fun u => !Tryz.prog.wantsStandIn u) = true := by kernel_rfl
theorem FnExpText_holds : Rows.FnExpTextSaid :=
  OpenClaim.holds_of_wide 3 Tryz.f3 rfl rfl rfl rfl rfl rfl rfl ⟨rfl, rfl, rfl, rfl, rfl⟩ rfl rfl rfl rfl rfl FnExpText_fn Tryz.func3 FnExpText_jf
    (of_decide_eq_true (by kernel_rfl)) FnExpText_wr
    (fun os started H enc _ => FnExpText_lifted os started H enc)
theorem FnExpText_card : Rows.FnExpTextCardSaid :=
  Claim7.holds_tied_plain_at .later [] [.data, .data, .data, .data, .sentinel, .sentinel, .pinned] true (true, "aea915812a0d0f122e6bca150b7452ef1f20cf4dede436ee42f3f7ea2614f74d") true
    FnExpText_holds (fun _ h => by cases h) FnExpText_wf (fun _ h => by cases h) fnExpText_row_tie rfl ⟨rfl, rfl⟩ FnExpText_mi rfl
    (fun f fn hf hfn => by
      obtain rfl : f = 3 := Option.some.inj (FnExpText_fn2.symm.trans hf) |>.symm
      obtain rfl : fn = Tryz.f3 := (Option.some.inj (Tryz.func3.symm.trans hfn)).symm
      exact ⟨FnExpText_lo, fun j t ht => by
        rw [Tryz.params3] at ht
        have hm : t ∈ [22] := by simpa using Array.mem_of_getElem? ht
        have hall := FnExpText_st
        exact (show Tryz.prog.wantsStandIn t = false by simpa using List.all_eq_true.1 hall t hm)⟩)
    FnExpText_go
end Go.Proofs.YtebheehjhnaklaaGreatDoor
