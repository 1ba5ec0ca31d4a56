/- Promise 25: proved for every input. No condition. The tables of the library that the row lists are tied to their text, or pinned. -/
import Derived.Test.YtkpdpohnbnpelaaDoorN18
import Derived.Test.YtkpdpohnbnpelaaDoorHSh
import Derived.Test.YtkpdpohnbnpelaaDoorTie
import Derived.Test.YtkpdpohnbnpelaaDoorCards
import Derived.LaidMore
import Derived.Lay
import Derived.OpenShut
import Derived.Stop.Joined
import Derived.SevenTiedAt
namespace Go.Proofs.YtkpdpohnbnpelaaDoor
open Go Go.ChangeShapes Go.WideShapes Go.ChangeAt Go.WideMaps Go.WideElems Go.RowKit Go.Joins Go.ChangeMaps

theorem countByte_any (s : ByteArray) (c : UInt8) (w : World) (hs : s.size ≤ 1000) :
    Calls Tryd.prog 29 #[.string s, .int .u8 c.toNat] w fun r w' => r = .returned (.int .i64 ((s.size : Int) - (wo c s.data.toList).length)) ∧ Below w.heap.size w w' := by
  have k1 := fun W => drop_any s c W hs
  have hz : (⟨(wo c s.data.toList).toArray⟩ : ByteArray).size = (wo c s.data.toList).length := rfl
  have hle := wo_len c s.data.toList
  have hls : s.data.toList.length = s.size := by rw [Array.length_toList]; rfl
  generalize wo c s.data.toList = D at *
  have K1 := Lib.hid k1
  clear k1
  go_enter Tryd.func29, Tryd.ntmps29
  go_wp2_with (go_at_call 65; (with_reducible refine Calls.mono (K1.out _) ?_); rintro r w1 ⟨rfl, rfl⟩)
  go_ret
  exact ⟨rfl, Below.refl _ _⟩

set_option maxRecDepth 100000 in
set_option maxHeartbeats 8000000 in
theorem FnUngroupDigits_law (s : Option Addr) (len cap : Nat) (w : World) (hM : HasMax w) (hcode : CodeAt s len w.heap.size w) (hcap : len ≤ cap) :
    Calls Tryd.prog 10 #[.slice s len cap] w fun r w' => r = .returned (.bool true) ∧ Below w.heap.size w w' := by
  by_cases hl : 1048576 < len
  · go_enter Tryd.func10, Tryd.ntmps10
    go_wp2
    go_ret
    exact ⟨rfl, (by repeat (first | with_reducible exact Below.refl _ _ | with_reducible assumption | with_reducible refine Below.setCell ?_ (by first | omega | (simp; done) | (simp <;> omega)) _ | with_reducible refine below_drewN ?_ _ | with_reducible refine Below.drew ?_ | with_reducible refine Below.alloc ?_ (by first | omega | (simp; done) | (simp <;> omega)) _))⟩
  go_enter Tryd.func10, Tryd.ntmps10
  go_wp2_with (go_at_call 30; (with_reducible refine Calls.mono (DrawUngroupDigits_any _ _ _ _ hcode hcap) ?_); rintro r w1 ⟨⟨t, n, sep, rfl, ht, hsep⟩, hB⟩; have hz := hB.size)
  have hM1 := hM.on hB
  have hB0 := hB
  clear hB hM
  have hB := Below.refl w1.heap.size w1
  have k1 := fun W (h : HasMax W) => UngroupDigits_any t n sep W (by omega) (by omega) h
  have k2 := fun W => mBn (UngroupDigitsS_any t n sep W (by omega) (by omega))
  cases hok : ungT t n sep
  · have hX : ungX t n sep = ⟨#[]⟩ := by unfold ungX; rw [hok]; rfl
    rw [hok, hX] at k1 k2
    have K1 := Lib.hid k1; have K2 := Lib.hid k2
    clear k1 k2 hX hok
    go_wp2_with (first | (go_at_call 17; (with_reducible refine Calls.mono (K1.out _ (hM1.on hB)) ?_); rintro r w2 ⟨rfl, hb⟩; replace hB := hB.trans (hb.mono hB.size)) | (go_at_call 16; (with_reducible refine Calls.mono (K2.out _) ?_); rintro r w2 ⟨rfl, hb⟩; replace hB := hB.trans (hb.mono hB.size)))
    all_goals go_ret
    all_goals exact ⟨rfl, hB0.trans (hB.mono hB0.size)⟩
  · have hv : t.size ≤ 80 ∧ 1 ≤ n ∧ n ≤ 9 ∧ sep.size = 1 := by
      by_cases hv : t.size ≤ 80 ∧ 1 ≤ n ∧ n ≤ 9 ∧ sep.size = 1
      · exact hv
      · rw [ungT_no hv] at hok; cases hok
    obtain ⟨h0, h1, h2, h3⟩ := hv
    obtain ⟨n, rfl⟩ := Int.eq_ofNat_of_zero_le (show 0 ≤ n by omega)
    obtain ⟨c, rfl⟩ := one_byte h3
    rw [hok] at k1 k2
    have hX : ungX t n ⟨#[c]⟩ = ⟨(wo c t.data.toList).toArray⟩ := by unfold ungX; rw [hok]; rfl
    rw [hX] at k1 k2
    rw [ungT_yes h0 (by omega) (by omega)] at hok
    have hg : grp n [c] (wo c t.data.toList) = t.data.toList := by simpa [ungB] using hok
    have hwl := wo_len c t.data.toList
    have hls : t.data.toList.length = t.size := by rw [Array.length_toList]; rfl
    have k3 := fun W => GroupDigits_any ⟨(wo c t.data.toList).toArray⟩ n ⟨#[c]⟩ W (by show (wo c t.data.toList).length ≤ _; omega) (by show 1 ≤ _; omega)
    rw [grpW_yes ⟨by show (wo c t.data.toList).length ≤ _; omega, by omega, by omega, rfl⟩] at k3
    rw [show (⟨(wo c t.data.toList).toArray⟩ : ByteArray).data.toList = wo c t.data.toList from rfl, show (⟨#[c]⟩ : ByteArray).data.toList = [c] from rfl, hg, ← of_list t] at k3
    have k4 : ∀ W, Calls Tryd.prog 29 #[.string ⟨(wo c t.data.toList).toArray⟩, .int .u8 (((⟨#[c]⟩ : ByteArray)[0]'(by show 0 < 1; omega)).toNat : Int)] W fun r w' => r = .returned (.int .i64 0) ∧ Below W.heap.size W w' := fun W => by
      have := countByte_any ⟨(wo c t.data.toList).toArray⟩ c W (by show (wo c t.data.toList).length ≤ _; omega)
      rw [show (⟨(wo c t.data.toList).toArray⟩ : ByteArray).data.toList = wo c t.data.toList from rfl, wo_self (wo_free c t.data.toList), show (⟨(wo c t.data.toList).toArray⟩ : ByteArray).size = (wo c t.data.toList).length from rfl, Int.sub_self] at this
      exact this
    generalize wo c t.data.toList = D at *
    by_cases hD : D = []
    · subst hD
      have K1 := Lib.hid k1; have K2 := Lib.hid k2; have K3 := Lib.hid k3; have K4 := Lib.hid k4
      clear k1 k2 k3 k4 hX hok hg
      go_wp2_with (first | (go_at_call 17; (with_reducible refine Calls.mono (K1.out _ (hM1.on hB)) ?_); rintro r w2 ⟨rfl, hb⟩; replace hB := hB.trans (hb.mono hB.size)) | (go_at_call 16; (with_reducible refine Calls.mono (K2.out _) ?_); rintro r w2 ⟨rfl, hb⟩; replace hB := hB.trans (hb.mono hB.size)) | (go_at_call 27; (with_reducible refine Calls.mono (K3.out _) ?_); rintro r w2 ⟨rfl, hb⟩; replace hB := hB.trans (hb.mono hB.size)) | (go_at_call 29; (with_reducible refine Calls.mono (K4.out _) ?_); rintro r w2 ⟨rfl, hb⟩; replace hB := hB.trans (hb.mono hB.size)))
      all_goals go_ret
      all_goals exact ⟨rfl, hB0.trans (hB.mono hB0.size)⟩
    · have hDe : D.isEmpty = false := by cases D; exact absurd rfl hD; rfl
      have K1 := Lib.hid k1; have K2 := Lib.hid k2; have K3 := Lib.hid k3; have K4 := Lib.hid k4
      clear k1 k2 k3 k4 hX hok hg
      go_wp2_with (first | (go_at_call 17; (with_reducible refine Calls.mono (K1.out _ (hM1.on hB)) ?_); rintro r w2 ⟨rfl, hb⟩; replace hB := hB.trans (hb.mono hB.size)) | (go_at_call 16; (with_reducible refine Calls.mono (K2.out _) ?_); rintro r w2 ⟨rfl, hb⟩; replace hB := hB.trans (hb.mono hB.size)) | (go_at_call 27; (with_reducible refine Calls.mono (K3.out _) ?_); rintro r w2 ⟨rfl, hb⟩; replace hB := hB.trans (hb.mono hB.size)) | (go_at_call 29; (with_reducible refine Calls.mono (K4.out _) ?_); rintro r w2 ⟨rfl, hb⟩; replace hB := hB.trans (hb.mono hB.size)))
      all_goals go_ret
      all_goals exact ⟨rfl, hB0.trans (hB.mono hB0.size)⟩

def FnUngroupDigits_LL : List (String × DataW Unit) := [("unicode/utf8.acceptRanges", Rows.laid_unicode_utf8_acceptRanges), ("unicode/utf8.first", Rows.laid_unicode_utf8_first)]

set_option maxRecDepth 100000 in
theorem FnUngroupDigits_lifted (os : Os) (started : os.Started) (H : Type) (enc : TypeId × Value → H) :
    ReturnsInHanded {} Tryd.checked os 10 .any (fun w args => (Rows.fnUngroupDigitsSpec.pre enc Tryd.prog Tryd.f10 [] false w args ∧ laidMetH Tryd.prog FnUngroupDigits_LL w) ∧ sizedMet enc Tryd.prog Tryd.f10 (OpenSpec.ofChange Rows.fnUngroupDigitsSpec) false w args) (Rows.fnUngroupDigitsSpec.post enc Tryd.prog Tryd.f10 false true false false) := by
  refine in_handed_shaped (C := Tryd.checked) (X := fun w _ => laidMetH Tryd.prog FnUngroupDigits_LL w) (fun _ _ _ hh h => h.of_heap hh) Tryd.own started (by kernel_rfl) Tryd.func10
    (ChangeSpec.witness_shaped (enc := enc) (C := Tryd.checked) (os := os) (X := fun w _ => laidMetH Tryd.prog FnUngroupDigits_LL w) false (World.laidAll Tryd.prog os FnUngroupDigits_LL) #[.slice none 0 0] 8 (World.laidAll_os _ _ _) (World.shaped_of_ZipB (by kernel_rfl) (by kernel_rfl)) (by kernel_rfl) (by kernel_rfl) (by kernel_rfl)
      (by rw [MakeChecks.laidMetH_plain _ _ _ (by kernel_rfl)]; exact laidMet_laidAll _ (by kernel_rfl) (by kernel_rfl))) ?_
  intro W base args ds gs before hval0 hW _ _ _ hSh _
  have hM := hasMax_of hSh
  have hval : ∀ (j : Nat) t v, Tryd.f10.params[j]? = some t → args[j]? = some v → Value.okWide Tryd.prog W .any base t v := hval0
  have hW' := hW
  obtain ⟨p, q, hA0, hV, rfl, hfz, hnd⟩ := hW
  have hA : DataW.TrodAll enc Tryd.prog W 0 (fun _ => true) true Tryd.f10.params.toList args.toList ds p := hA0
  rw [Tryd.params10] at hA hval
  obtain ⟨v0, d0, rfl, rfl, h0⟩ := trodAll_one hA
  obtain ⟨rfl, rfl⟩ := trodVars_none hV
  obtain ⟨s, len, cap, rfl, hcap, hcode⟩ := open_code (hval 0 39 v0 rfl rfl) h0
  clear hA0 hval0
  have hlt := fun x hx => hW'.lt x hx
  refine (FnUngroupDigits_law s len cap W hM hcode hcap).mono fun e_ W' ⟨he, hb⟩ => ?_
  subst he
  exact ⟨_, rfl, post_of_below (pa := p) (pv := []) hW' (fun _ _ _ => trodAll_mk1 (shut_bool Tryd.underlying4 true)) (fun sp hsp => trodAll_mk1 (code_back h0 hb (fun x hx => hlt x (by simp [hx])) (fun x hx => hsp x (by simp [hx])))) (fun _ _ => rfl) (by simp) hb (ok_one (by kernel_rfl) rfl (okWide_bool_mk Tryd.underlying4 true))⟩

theorem FnUngroupDigits_holds : Rows.FnUngroupDigitsSaid :=
  OpenClaim.holds_of_wide 10 Tryd.f10 rfl rfl rfl rfl rfl rfl rfl ⟨rfl, rfl, rfl, rfl, rfl⟩ rfl rfl rfl rfl rfl (by kernel_rfl) Tryd.func10 (by kernel_rfl)
    (of_decide_eq_true (by kernel_rfl)) (by unfold Func.isWrapper; first | (rw [if_pos (by decide +kernel)]; kernel_rfl) | (rw [if_neg (by decide +kernel)]; exact ⟨rfl, rfl⟩))
    (fun os started H enc _ => FnUngroupDigits_lifted os started H enc)

theorem FnUngroupDigits_card : Rows.FnUngroupDigitsCardSaid :=
  Claim7.holds_tied_plain_at .later [] [.data, .pinned] true (true, "e363af9c8ccf08111d76afdb434eccbbf8f49c4be77de3f1954de84d3780a304") false
    FnUngroupDigits_holds (fun _ h => by cases h) (by kernel_rfl) (fun _ h => by cases h) fnUngroupDigits_row_tie rfl ⟨rfl, rfl⟩ (by kernel_rfl) rfl
    (fun f fn hf hfn => by
      obtain rfl : f = 10 := Option.some.inj ((show Tryd.prog.funcNamed "loop.example/formatplans/laws.FnUngroupDigits" = some 10 by kernel_rfl).symm.trans hf) |>.symm
      obtain rfl : fn = Tryd.f10 := (Option.some.inj (Tryd.func10.symm.trans hfn)).symm
      exact ⟨by kernel_rfl, fun j t ht => by
        rw [Tryd.params10] at ht
        have hm : t ∈ [39] := by simpa using Array.mem_of_getElem? ht
        have hall : ([39].all fun u => !Tryd.prog.wantsStandIn u) = true := by kernel_rfl
        exact (show Tryd.prog.wantsStandIn t = false by simpa using List.all_eq_true.1 hall t hm)⟩)
    (by kernel_rfl)
end Go.Proofs.YtkpdpohnbnpelaaDoor
