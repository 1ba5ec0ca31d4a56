/- The exact law of ReadReal, proved: for every input the program answers as its model. The tables of the library that the row lists are tied to their text, or pinned. -/
import Derived.Test.YtebheehjhnaklaaDoorRR9
import Derived.Test.YtebheehjhnaklaaDoorRC
import Derived.Test.YtebheehjhnaklaaDoorHSh
import Derived.Test.YtebheehjhnaklaaDoorHSH2
import Derived.Test.YtebheehjhnaklaaDoorTie
import Derived.Test.YtebheehjhnaklaaDoorCards
import Derived.LaidMore
import Derived.Lib.LaidTab
import Derived.Stop.LaidErr
import Derived.Handy
import Derived.Deep.LoopGhost
import Derived.Lay
import Derived.OpenShut
import Derived.Stop.Joined
import Derived.SevenTiedAt
namespace Go.Proofs.YtebheehjhnaklaaDoor
open Go Go.ChangeShapes Go.WideShapes Go.ChangeAt Go.WideMaps Go.WideElems Go.RowKit Go.Joins Go.ChangeMaps
theorem star_es : "*" ++ "errors.errorString" = "*errors.errorString" := by decide
theorem row_es (u : TypeId) (h : Tryd.prog.typeName? 3 u = some "*errors.errorString") : u = 88 :=
  typeName_ptr_named (nm := "errors.errorString") (by rw [star_es]; kernel_rfl) (by kernel_rfl) (by decide) u (by rw [star_es]; exact h)
theorem cells_es : Tryd.prog.cellsOf 90 = 1 := by kernel_rfl
theorem cells_str : Tryd.prog.cellsOf 9 = 1 := by kernel_rfl
theorem under_err : ∃ ms, Tryd.prog.underlying 43 = some (.interface ms) := ⟨_, Tryd.underlying43⟩
theorem erv_one {n : String} {g : Nat} {text : List UInt8} {r : List (String × DataW Unit)} {W : World} (h : laidMet Tryd.prog ((n, .iface "*errors.errorString" (.ptr (.agg [.lit (.string text)]))) :: r) W)
    (hg : Tryd.prog.globalNamed n = some g) (ht : (Tryd.prog.globals[g]?).map (·.type) = some 43) : ∃ t p, W.cell? ⟨g, 0, none⟩ = some (.iface t p) := by
  obtain ⟨ms, hm⟩ := under_err
  obtain ⟨a1, s1, hv, _⟩ := laid_sentinel h hg ht hm row_es Tryd.underlying88 Tryd.underlying90 rfl rfl Tryd.underlying9 cells_es cells_str
  exact ⟨_, _, by simpa using World.var?_cell hg hv 0⟩
theorem erv_of {W : World} {a b c d : String × DataW Unit} {r : List (String × DataW Unit)}
    (h : laidMet Tryd.prog (a :: b :: c :: d :: ("strconv.ErrRange", Rows.laid_strconv_ErrRange) :: ("strconv.ErrSyntax", Rows.laid_strconv_ErrSyntax) :: r) W) : ErV W := by
  have h4 := laidMet.tail (laidMet.tail (laidMet.tail (laidMet.tail h)))
  have h5 := laidMet.tail h4
  exact ⟨erv_one h5 (by kernel_rfl) (by kernel_rfl), erv_one h4 (by kernel_rfl) (by kernel_rfl)⟩
set_option maxHeartbeats 1000000 in
theorem eqDec_any (n : Bool) (c e : Int) (w : World) :
    Calls Tryd.prog 6 #[.agg #[.bool n, .int .i64 c, .int .i64 e], .agg #[.bool n, .int .i64 c, .int .i64 e]] w fun r w' => r = .returned (.bool true) ∧ Below w.heap.size w w' := by
  have h1 : ∀ b : Bool, (b == b) = true := fun b => by simp
  have h2 : ∀ x : Int, (x == x) = true := fun x => by simp
  have h3 : ∀ b : Bool, (b != b) = false := fun b => by simp
  have h4 : ∀ x : Int, (x != x) = false := fun x => by simp
  go_enter Tryd.func6, Tryd.ntmps6
  go_wp2
  all_goals go_ret
  all_goals exact ⟨rfl, (by repeat (first | with_reducible exact Below.refl _ _ | with_reducible assumption | with_reducible refine Below.setCell ?_ (by first | omega | (simp; done) | (simp <;> omega)) _ | with_reducible refine below_drewN ?_ _ | with_reducible refine Below.drew ?_ | with_reducible refine Below.alloc ?_ (by first | omega | (simp; done) | (simp <;> omega)) _))⟩
set_option maxRecDepth 100000 in
set_option maxHeartbeats 4000000 in
theorem FnExactReadReal_law (s : ByteArray) (w : World) (hM : HasMax w) (hE : ErV w) (hs : s.size ≤ maxLen) :
    Calls Tryd.prog 3 #[.string s] w fun r w' => r = .returned (.bool true) ∧ Below w.heap.size w w' := by
  unfold maxLen at hs
  have hB := Below.refl w.heap.size w
  by_cases hl : 1048576 < s.size
  · have i1 : (1048576 : Int) < s.size := by omega
    go_enter Tryd.func3, Tryd.ntmps3
    go_wp2
    go_ret
    exact ⟨rfl, hB⟩
  · have i1 : ¬ ((1048576 : Int) < s.size) := by omega
    obtain ⟨T, rfl⟩ : ∃ T : List UInt8, s = ⟨T.toArray⟩ := ⟨s.data.toList, of_list s⟩
    have k1 := fun W (h : HasMax W) (h2 : ErV W) => ReadReal_any T W h h2
    have k2 := fun W => ReadRealS_any T W
    generalize rrX T = F at *
    have k3 := fun W => eqDec_any F.1.n F.1.c F.1.e W
    have hXB : ∀ b : Bool, (b != b) = false := fun b => by simp
    have K1 := Lib.hid k1; have K2 := Lib.hid k2; have K3 := Lib.hid k3
    clear k1 k2 k3
    go_enter Tryd.func3, Tryd.ntmps3
    go_wp2_with (go_at_call 4; (with_reducible refine Calls.mono (K2.out _) ?_); rintro r w1 ⟨rfl, hb⟩; replace hB := hB.trans (hb.mono hB.size); have hz := hB.size)
    have zb := C3.new w1 (.bool F.1.n) (.int .i64 F.1.c) (.int .i64 F.1.e) 23
    replace hB : Below w.heap.size w (w1.alloc (.cells #[.bool F.1.n, .int .i64 F.1.c, .int .i64 F.1.e] 23)) := hB.alloc (by omega) _
    with_reducible refine Calls.mono (K1.out _ (hM.on hB) (hE.on hB)) ?_
    rintro r w2 ⟨rfl, hb⟩
    replace hB := hB.trans (hb.mono hB.size)
    have hz := hB.size
    replace zb := C3.carry zb hb
    have zz := zb; obtain ⟨x0, x1, x2, x3, x4, x5, x6⟩ := zz
    go_wp2_with (go_at_call 6; (with_reducible refine Calls.mono (K3.out _) ?_); rintro r w3 ⟨rfl, hb⟩; replace hB := (hB.alloc (by omega) _).trans (hb.mono (by simp; omega)))
    all_goals go_ret
    all_goals exact ⟨rfl, hB⟩

def FnExactReadReal_LL : List (String × DataW Unit) := [("math/bits.deBruijn32tab", Rows.laid_math_bits_deBruijn32tab), ("math/bits.deBruijn64tab", Rows.laid_math_bits_deBruijn64tab), ("internal/strconv.uint64pow10", Rows.laid_internal_strconv_uint64pow10), ("unicode/utf8.acceptRanges", Rows.laid_unicode_utf8_acceptRanges), ("strconv.ErrRange", Rows.laid_strconv_ErrRange), ("strconv.ErrSyntax", Rows.laid_strconv_ErrSyntax), ("unicode/utf8.first", Rows.laid_unicode_utf8_first)]

set_option maxRecDepth 100000 in
theorem FnExactReadReal_lifted (os : Os) (started : os.Started) (H : Type) (enc : TypeId × Value → H) :
    ReturnsInHanded {} Tryd.checked os 3 .any (fun w args => (Rows.fnExactReadRealSpec.pre enc Tryd.prog Tryd.f3 [] false w args ∧ laidMetH Tryd.prog FnExactReadReal_LL w) ∧ sizedMet enc Tryd.prog Tryd.f3 (OpenSpec.ofChange Rows.fnExactReadRealSpec) false w args) (Rows.fnExactReadRealSpec.post enc Tryd.prog Tryd.f3 false true false false) := by
  refine in_handed_shaped (C := Tryd.checked) (X := fun w _ => laidMetH Tryd.prog FnExactReadReal_LL w) (fun _ _ _ hh h => h.of_heap hh) Tryd.own started (by kernel_rfl) Tryd.func3
    (ChangeSpec.witness_shaped (enc := enc) (C := Tryd.checked) (os := os) (X := fun w _ => laidMetH Tryd.prog FnExactReadReal_LL w) false (World.laidAll Tryd.prog os FnExactReadReal_LL) #[.string ⟨#[]⟩] 8 (World.laidAll_os _ _ _) (World.shaped_of_ZipB (by kernel_rfl) (by kernel_rfl)) (by kernel_rfl) (by kernel_rfl) (by kernel_rfl)
      (by rw [MakeChecks.laidMetH_plain _ _ _ (by kernel_rfl)]; exact laidMet_laidAll _ (by kernel_rfl) (by kernel_rfl))) ?_
  intro W base args ds gs before hval0 hW _ _ hL hSh _
  rw [MakeChecks.laidMetH_plain _ _ _ (by kernel_rfl)] at hL
  have hM := hasMax_of hSh
  have hE := erv_of hL
  have hval : ∀ (j : Nat) t v, Tryd.f3.params[j]? = some t → args[j]? = some v → Value.okWide Tryd.prog W .any base t v := hval0
  have hW' := hW
  obtain ⟨p, q, hA0, hV, rfl, hfz, hnd⟩ := hW
  have hA : DataW.TrodAll enc Tryd.prog W 0 (fun _ => true) true Tryd.f3.params.toList args.toList ds p := hA0
  rw [Tryd.params3] at hA hval
  obtain ⟨v0, d0, rfl, rfl, h0⟩ := trodAll_one hA
  obtain ⟨rfl, rfl⟩ := trodVars_none hV
  obtain ⟨s, rfl, rfl, rfl, hss⟩ := open_string Tryd.underlying9 (hval 0 9 v0 rfl rfl) h0
  clear hA0 hval0
  have hlt := fun x hx => hW'.lt x hx
  refine (FnExactReadReal_law s W hM hE hss).mono fun e_ W' ⟨he, hb⟩ => ?_
  subst he
  exact ⟨_, rfl, post_of_below (pa := []) (pv := []) hW' (fun _ _ _ => trodAll_mk1 (shut_bool Tryd.underlying4 true)) (fun sp hsp => trodAll_mk1 (shut_string Tryd.underlying9 hss)) (fun _ _ => rfl) (by simp) hb (ok_one (by kernel_rfl) rfl (okWide_bool_mk Tryd.underlying4 true))⟩


theorem and_t {a b : Bool} (h : a = true) (k : b = true) : (a && b) = true := by rw [h, k]; rfl
theorem FnExactReadReal_q1 : (Rows.fnExactReadRealRow.wf (OpenSpec.ofChange Rows.fnExactReadRealSpec)) = true := by kernel_rfl
theorem FnExactReadReal_q2 : (laidOutB Tryd.prog) = true := by kernel_rfl
theorem FnExactReadReal_q3 : (mapsRowed Tryd.prog) = true := by kernel_rfl
theorem FnExactReadReal_q4 : (Tryd.f3.params.all (Tryd.prog.readableRec ·)) = true := by kernel_rfl
theorem FnExactReadReal_q5 : (namedTie Tryd.prog Rows.fnExactReadRealRow.named Rows.fnExactReadRealSpec.vars) = true := by kernel_rfl
theorem FnExactReadReal_q6 : ((Rows.fnExactReadRealRow.stops == [])) = true := by kernel_rfl
theorem FnExactReadReal_q7 : ((Tryd.prog.stops == [])) = true := by kernel_rfl
theorem FnExactReadReal_q8 : ((Rows.fnExactReadRealRow.knobs == [])) = true := by kernel_rfl
theorem FnExactReadReal_q9 : ((Tryd.prog.stopKnobs == [])) = true := by kernel_rfl
theorem FnExactReadReal_q10 : ((Rows.fnExactReadRealRow.inPlace == Tryd.prog.inPlace 3)) = true := by kernel_rfl
theorem FnExactReadReal_q11 : ((Rows.fnExactReadRealRow.unfollowed == Tryd.prog.unfollowed 3)) = true := by kernel_rfl
theorem FnExactReadReal_q12 : ((Rows.fnExactReadRealRow.recurses == Tryd.prog.recurses 3)) = true := by kernel_rfl
theorem FnExactReadReal_q13 : ((Rows.fnExactReadRealRow.named == Tryd.prog.varsNamed 3)) = true := by kernel_rfl
theorem FnExactReadReal_q14 : ((Rows.fnExactReadRealRow.maps == (Tryd.f3.params.toList ++ Rows.fnExactReadRealSpec.plain.varTypes Tryd.prog).any (Tryd.prog.mapsRec ·))) = true := by kernel_rfl
theorem FnExactReadReal_q15 : ((Rows.fnExactReadRealRow.ifaces == (Tryd.f3.params.toList ++ Rows.fnExactReadRealSpec.plain.varTypes Tryd.prog).any (Tryd.prog.ifacesRec ·))) = true := by kernel_rfl
theorem FnExactReadReal_q16 : ((Rows.fnExactReadRealRow.mapsOut == Tryd.prog.mapsAmong Tryd.f3.resultTypes.toList)) = true := by kernel_rfl
theorem FnExactReadReal_q17 : ((Rows.fnExactReadRealRow.loops == (Tryd.f3.params.toList ++ Rows.fnExactReadRealSpec.plain.varTypes Tryd.prog).any (Tryd.prog.loopsFrom ·))) = true := by kernel_rfl
theorem FnExactReadReal_q18 : ((Rows.fnExactReadRealRow.wideKeys == (Tryd.f3.params.toList ++ Rows.fnExactReadRealSpec.plain.varTypes Tryd.prog ++ Tryd.f3.resultTypes.toList).any (Tryd.prog.wideKeysFrom ·))) = true := by kernel_rfl
theorem FnExactReadReal_q19 : (Rows.fnExactReadRealSpec.vars.all (Tryd.prog.varReadable ·)) = true := by kernel_rfl
theorem FnExactReadReal_q20 : (Tryd.f3.resultTypes.all (fun t => Tryd.prog.readableRec t && decide (t < Tryd.prog.types.size))) = true := by kernel_rfl
theorem FnExactReadReal_q21 : ((Rows.fnExactReadRealRow.ifacesOut == Tryd.f3.resultTypes.toList.any (Tryd.prog.ifacesRec ·))) = true := by kernel_rfl
theorem FnExactReadReal_q22 : ((Rows.fnExactReadRealRow.loopsOut == Tryd.f3.resultTypes.toList.any (Tryd.prog.loopsFrom ·))) = true := by kernel_rfl
theorem FnExactReadReal_q23 : ((Rows.fnExactReadRealRow.plainKeys == Tryd.prog.plainKeys)) = true := by kernel_rfl
theorem FnExactReadReal_q24 : (Rows.fnExactReadRealRow.shortTexts.isNone) = true := by kernel_rfl
theorem FnExactReadReal_q25 : (Tryd.prog.stopsHeard) = true := by kernel_rfl
theorem FnExactReadReal_q26 : (Tryd.prog.mayEnter) = true := by kernel_rfl
theorem FnExactReadReal_q27 : ((Rows.fnExactReadRealRow.lifted == Tryd.prog.liftsFinal)) = true := by kernel_rfl
theorem FnExactReadReal_q28 : ((Tryd.prog.make == some Rows.fnExactReadRealRow.make)) = true := by kernel_rfl
theorem FnExactReadReal_q29 : ((Rows.fnExactReadRealRow.kinds == (if Rows.fnExactReadRealRow.domain.isEmpty then [] else Tryd.f3.params.toList.map fun t => match Tryd.prog.underlying t with | some (.int k) => some k | _ => none))) = true := by kernel_rfl
theorem FnExactReadReal_q30 : ((Rows.fnExactReadRealRow.pinned == Rows.fnExactReadRealRow.pinnedBy)) = true := by kernel_rfl
theorem FnExactReadReal_q31 : ((Rows.fnExactReadRealRow.veiled == (Tryd.f3.params.toList ++ Rows.fnExactReadRealSpec.plain.varTypes Tryd.prog ++ Tryd.f3.resultTypes.toList).any (Tryd.prog.veiledRec ·))) = true := by kernel_rfl
theorem FnExactReadReal_q32 : (Rows.fnExactReadRealRow.veiledFits Tryd.prog Tryd.f3.params.toList (Tryd.f3.params.toList ++ Rows.fnExactReadRealSpec.plain.varTypes Tryd.prog ++ Tryd.f3.resultTypes.toList)) = true := by kernel_rfl
set_option maxRecDepth 100000 in
theorem FnExactReadReal_jf : joinedFacts Tryd.prog 3 Tryd.f3 Rows.fnExactReadRealSpec Rows.fnExactReadRealRow = true := by
  unfold joinedFacts
  exact and_t (and_t (and_t (and_t (and_t (and_t (and_t (and_t (and_t (and_t (and_t (and_t (and_t (and_t (and_t (and_t (and_t (and_t (and_t (and_t (and_t (and_t (and_t (and_t (and_t (and_t (and_t (and_t (and_t (and_t (and_t (FnExactReadReal_q1) FnExactReadReal_q2) FnExactReadReal_q3) FnExactReadReal_q4) FnExactReadReal_q5) FnExactReadReal_q6) FnExactReadReal_q7) FnExactReadReal_q8) FnExactReadReal_q9) FnExactReadReal_q10) FnExactReadReal_q11) FnExactReadReal_q12) FnExactReadReal_q13) FnExactReadReal_q14) FnExactReadReal_q15) FnExactReadReal_q16) FnExactReadReal_q17) FnExactReadReal_q18) FnExactReadReal_q19) FnExactReadReal_q20) FnExactReadReal_q21) FnExactReadReal_q22) FnExactReadReal_q23) FnExactReadReal_q24) FnExactReadReal_q25) FnExactReadReal_q26) FnExactReadReal_q27) FnExactReadReal_q28) FnExactReadReal_q29) FnExactReadReal_q30) FnExactReadReal_q31) FnExactReadReal_q32
theorem FnExactReadReal_fn : Tryd.prog.funcNamed Rows.fnExactReadRealRow.func = some 3 := by kernel_rfl
theorem FnExactReadReal_fn2 : Tryd.prog.funcNamed "loop.example/formatplans/laws.FnExactReadReal" = some 3 := by kernel_rfl
theorem FnExactReadReal_lo : true = Tryd.prog.looks [] := by kernel_rfl
theorem FnExactReadReal_wf : Rows.fnExactReadRealRow.wfByText (OpenSpec.ofChange Rows.fnExactReadRealSpec) = true := by kernel_rfl
theorem FnExactReadReal_go : false = Rows.fnExactReadRealRow.goesBy Tryd.prog := by kernel_rfl
theorem FnExactReadReal_wr : Tryd.f3.isWrapper Tryd.prog Rows.fnExactReadRealRow.wrapper Rows.fnExactReadRealRow.mainSum := by unfold Func.isWrapper; first | (rw [if_pos (by decide +kernel)]; kernel_rfl) | (rw [if_neg (by decide +kernel)]; exact ⟨rfl, rfl⟩)
theorem FnExactReadReal_mi : Tryd.prog.mainIs = some (true, "85c42d07f77de9832c675bfc94914c92c9abb022cdbdd8f18339bbe18f53123e".toList) := by kernel_rfl
theorem FnExactReadReal_st : ([9].all fun u => !Tryd.prog.wantsStandIn u) = true := by kernel_rfl
theorem FnExactReadReal_holds : Rows.FnExactReadRealSaid :=
  OpenClaim.holds_of_wide 3 Tryd.f3 rfl rfl rfl rfl rfl rfl rfl ⟨rfl, rfl, rfl, rfl, rfl⟩ rfl rfl rfl rfl rfl FnExactReadReal_fn Tryd.func3 FnExactReadReal_jf
    (of_decide_eq_true (by kernel_rfl)) FnExactReadReal_wr
    (fun os started H enc _ => FnExactReadReal_lifted os started H enc)

theorem FnExactReadReal_card : Rows.FnExactReadRealCardSaid :=
  Claim7.holds_tied_plain_at .later [] [.data, .data, .data, .data, .sentinel, .sentinel, .pinned] true (true, "85c42d07f77de9832c675bfc94914c92c9abb022cdbdd8f18339bbe18f53123e") true
    FnExactReadReal_holds (fun _ h => by cases h) FnExactReadReal_wf (fun _ h => by cases h) fnExactReadReal_row_tie rfl ⟨rfl, rfl⟩ FnExactReadReal_mi rfl
    (fun f fn hf hfn => by
      obtain rfl : f = 3 := Option.some.inj (FnExactReadReal_fn2.symm.trans hf) |>.symm
      obtain rfl : fn = Tryd.f3 := (Option.some.inj (Tryd.func3.symm.trans hfn)).symm
      exact ⟨FnExactReadReal_lo, fun j t ht => by
        rw [Tryd.params3] at ht
        have hm : t ∈ [9] := by simpa using Array.mem_of_getElem? ht
        have hall := FnExactReadReal_st
        exact (show Tryd.prog.wantsStandIn t = false by simpa using List.all_eq_true.1 hall t hm)⟩)
    FnExactReadReal_go
end Go.Proofs.YtebheehjhnaklaaDoor
