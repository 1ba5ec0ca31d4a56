/- Promise 24: proved for every input. No condition. The tables of the library that the row lists are tied to their text, or pinned. -/
import Derived.Test.YtkpdpohnbnpelaaDoorN18
import Derived.Test.YtkpdpohnbnpelaaDoorHSh
import Derived.Test.YtkpdpohnbnpelaaDoorTie
import Derived.Test.YtkpdpohnbnpelaaDoorCards
import Derived.LaidMore
import Derived.Lay
import Derived.OpenShut
import Derived.Stop.Joined
import Derived.SevenTiedAt
namespace Go.Proofs.YtkpdpohnbnpelaaDoor
open Go Go.ChangeShapes Go.WideShapes Go.ChangeAt Go.WideMaps Go.WideElems Go.RowKit Go.Joins Go.ChangeMaps

theorem countByte_any (s : ByteArray) (c : UInt8) (w : World) (hs : s.size ≤ 1000) :
    Calls Tryd.prog 29 #[.string s, .int .u8 c.toNat] w fun r w' => r = .returned (.int .i64 ((s.size : Int) - (wo c s.data.toList).length)) ∧ Below w.heap.size w w' := by
  have k1 := fun W => drop_any s c W hs
  have hz : (⟨(wo c s.data.toList).toArray⟩ : ByteArray).size = (wo c s.data.toList).length := rfl
  have hle := wo_len c s.data.toList
  have hls : s.data.toList.length = s.size := by rw [Array.length_toList]; rfl
  generalize wo c s.data.toList = D at *
  have K1 := Lib.hid k1
  clear k1
  go_enter Tryd.func29, Tryd.ntmps29
  go_wp2_with (go_at_call 65; (with_reducible refine Calls.mono (K1.out _) ?_); rintro r w1 ⟨rfl, rfl⟩)
  go_ret
  exact ⟨rfl, Below.refl _ _⟩
theorem lenGrpT (n : Nat) {sep : List UInt8} (hs : sep.length = 1) : ∀ l : List UInt8, (grpT n sep l).length = l.length + l.length / n
  | [] => by simp [grpT]
  | b :: l => by
    have ih := lenGrpT n hs l
    simp only [grpT, List.length_append, List.length_cons, ih]
    rw [Nat.succ_div]
    by_cases h : (l.length + 1) % n = 0
    · rw [if_pos h, if_pos (Nat.dvd_of_mod_eq_zero h), hs]; omega
    · rw [if_neg h, if_neg (fun d => h (Nat.mod_eq_zero_of_dvd d))]; simp; omega
theorem lenGrp (n : Nat) {sep : List UInt8} (hs : sep.length = 1) {l : List UInt8} (hl : 1 ≤ l.length) : (grp n sep l).length = l.length + (l.length - 1) / n := by
  cases l with
  | nil => simp at hl
  | cons b l =>
    simp only [grp, List.length_cons, lenGrpT n hs l]
    rw [show l.length + 1 - 1 = l.length by omega]
    omega
theorem szL (l : List UInt8) : (⟨l.toArray⟩ : ByteArray).size = l.length := rfl
set_option maxRecDepth 100000 in
set_option maxHeartbeats 8000000 in
theorem FnGroupDigits_law (s : Option Addr) (len cap : Nat) (w : World) (hM : HasMax w) (hcode : CodeAt s len w.heap.size w) (hcap : len ≤ cap) :
    Calls Tryd.prog 9 #[.slice s len cap] w fun r w' => r = .returned (.bool true) ∧ Below w.heap.size w w' := by
  by_cases hl : 1048576 < len
  · go_enter Tryd.func9, Tryd.ntmps9
    go_wp2
    go_ret
    exact ⟨rfl, (by repeat (first | with_reducible exact Below.refl _ _ | with_reducible assumption | with_reducible refine Below.setCell ?_ (by first | omega | (simp; done) | (simp <;> omega)) _ | with_reducible refine below_drewN ?_ _ | with_reducible refine Below.drew ?_ | with_reducible refine Below.alloc ?_ (by first | omega | (simp; done) | (simp <;> omega)) _))⟩
  go_enter Tryd.func9, Tryd.ntmps9
  go_wp2_with (go_at_call 26; (with_reducible refine Calls.mono (DrawGroupDigits_any _ _ _ _ hcode hcap) ?_); rintro r w1 ⟨⟨l, n, sep, rfl, hl12, hsep⟩, hB⟩; have hz := hB.size)
  have hM1 := hM.on hB
  have hB0 := hB
  clear hB hM
  have hB := Below.refl w1.heap.size w1
  have k1 := fun W => GroupDigits_any ⟨l.toArray⟩ n sep W (by rw [szL]; omega) (by omega)
  have k2 := fun W => mBn (GroupDigitsS_any ⟨l.toArray⟩ n sep W (by rw [szL]; omega) (by omega))
  by_cases hv : (⟨l.toArray⟩ : ByteArray).size ≤ 80 ∧ 1 ≤ n ∧ n ≤ 9 ∧ sep.size = 1
  · obtain ⟨_, h1, h2, h3⟩ := hv
    obtain ⟨n, rfl⟩ := Int.eq_ofNat_of_zero_le (show 0 ≤ n by omega)
    obtain ⟨c, rfl⟩ := one_byte h3
    rw [grpW_yes ⟨by rw [szL]; omega, by omega, by omega, rfl⟩] at k1 k2
    rw [show (⟨l.toArray⟩ : ByteArray).data.toList = l from rfl, show (⟨#[c]⟩ : ByteArray).data.toList = [c] from rfl] at k1 k2
    by_cases hl0 : l = []
    · subst hl0
      rw [show grp n [c] [] = [] from rfl] at k1 k2
      have K1 := Lib.hid k1; have K2 := Lib.hid k2
      clear k1 k2 hM1
      go_wp2_with (first | (go_at_call 27; (with_reducible refine Calls.mono (K1.out _) ?_); rintro r w2 ⟨rfl, hb⟩; replace hB := hB.trans (hb.mono hB.size)) | (go_at_call 28; (with_reducible refine Calls.mono (K2.out _) ?_); rintro r w2 ⟨rfl, hb⟩; replace hB := hB.trans (hb.mono hB.size)))
      all_goals go_ret
      all_goals exact ⟨rfl, hB0.trans (hB.mono hB0.size)⟩
    have hl1 : 1 ≤ l.length := List.length_pos_iff.2 hl0
    have hlen := lenGrp n (sep := [c]) rfl hl1
    have hG1 : 1 ≤ (grp n [c] l).length := by rw [hlen]; exact Nat.le_trans hl1 (Nat.le_add_right _ _)
    have hG2 : l.length ≤ (grp n [c] l).length := by rw [hlen]; exact Nat.le_add_right _ _
    have hG3 : ((grp n [c] l).length : Int) - l.length = (((l.length - 1) / n : Nat) : Int) := by rw [hlen, Int.natCast_add]; omega
    have hGe : (grp n [c] l).isEmpty = false := by
      cases hg : grp n [c] l with
      | nil => rw [hg] at hG1; simp at hG1
      | cons _ _ => rfl
    have hq : (l.length - 1) / n ≤ l.length := Nat.le_trans (Nat.div_le_self _ _) (by omega)
    have k3 : ∀ W, Calls Tryd.prog 29 #[.string ⟨l.toArray⟩, .int .u8 (((⟨#[c]⟩ : ByteArray)[0]'(by show 0 < 1; omega)).toNat : Int)] W fun r w' => r = .returned (.int .i64 ((l.length : Int) - (wo c l).length)) ∧ Below W.heap.size W w' := fun W => countByte_any ⟨l.toArray⟩ c W (by rw [szL]; omega)
    have k4 : ∀ W, Calls Tryd.prog 29 #[.string ⟨(grp n [c] l).toArray⟩, .int .u8 (((⟨#[c]⟩ : ByteArray)[0]'(by show 0 < 1; omega)).toNat : Int)] W fun r w' => r = .returned (.int .i64 (((grp n [c] l).length : Int) - (wo c l).length)) ∧ Below W.heap.size W w' := fun W => by
      have := countByte_any ⟨(grp n [c] l).toArray⟩ c W (by rw [szL, hlen]; omega)
      rw [show (⟨(grp n [c] l).toArray⟩ : ByteArray).data.toList = grp n [c] l from rfl, wo_grp] at this
      exact this
    have k5 := fun W (h : HasMax W) => UngroupDigits_any ⟨(grp n [c] l).toArray⟩ n ⟨#[c]⟩ W (by rw [szL, hlen]; omega) (by show 1 ≤ _; omega) h
    rw [ungT_yes (by rw [szL, hlen]; omega) (by omega) (by omega), ungX_yes (by rw [szL, hlen]; omega) (by omega) (by omega)] at k5
    rw [show (⟨(grp n [c] l).toArray⟩ : ByteArray).data.toList = grp n [c] l from rfl] at k5
    have hwl := wo_len c l
    have hdiv : ((l.length : Int) - 1).tdiv n = (((l.length - 1) / n : Nat) : Int) := by
      rw [show ((l.length : Int) - 1) = ((l.length - 1 : Nat) : Int) by omega]; exact tdivN _ _
    have hn0 : ¬ n = 0 := by omega
    have hle : l.isEmpty = false := by cases l; exact absurd rfl hl0; rfl
    by_cases hw : (wo c l).length = l.length
    · have hfree := wo_self (wo_len_eq hw)
      have hung : ungB (grp n [c] l) n c = true := by unfold ungB; rw [wo_grp, hfree]; simp
      rw [hung, if_pos rfl, wo_grp, hfree] at k5
      rw [hfree] at k3 k4
      generalize grp n [c] l = G at *
      generalize (l.length - 1) / n = q at *
      have wr1 : IntKind.i64.wrap ((l.length : Int) - 1) = (l.length : Int) - 1 := by rw [IntKind.wrap_i64]; omega
      have wr2 : IntKind.i64.wrap (q : Int) = q := by rw [IntKind.wrap_i64]; omega
      have q1 : ((l.length : Int) - l.length) = 0 := by omega
      have q2 : ((G.length : Int) - l.length) = q := hG3
      have K1 := Lib.hid k1; have K2 := Lib.hid k2; have K5 := Lib.hid k5
      rw [q1] at k3
      rw [q2] at k4
      have K3 := Lib.hid k3; have K4 := Lib.hid k4
      clear k1 k2 k3 k4 k5 hung hfree hw q1 q2 hlen hG3
      go_wp2_with (first | (go_at_call 27; (with_reducible refine Calls.mono (K1.out _) ?_); rintro r w2 ⟨rfl, hb⟩; replace hB := hB.trans (hb.mono hB.size)) | (go_at_call 28; (with_reducible refine Calls.mono (K2.out _) ?_); rintro r w2 ⟨rfl, hb⟩; replace hB := hB.trans (hb.mono hB.size)) | (go_at_call 29; (with_reducible refine Calls.mono (K3.out _) ?_); rintro r w2 ⟨rfl, hb⟩; replace hB := hB.trans (hb.mono hB.size)) | (go_at_call 29; (with_reducible refine Calls.mono (K4.out _) ?_); rintro r w2 ⟨rfl, hb⟩; replace hB := hB.trans (hb.mono hB.size)) | (go_at_call 17; (with_reducible refine Calls.mono (K5.out _ (hM1.on hB)) ?_); rintro r w2 ⟨rfl, hb⟩; replace hB := hB.trans (hb.mono hB.size)))
      refine wp_region_since (by kernel_rfl) (by kernel_rfl) ?_
      repeat (quiet_step (first | (go_at_call 29; with_reducible exact Calls.since_of (K4.out _))))
      refine wpQuiet_nil ?_
      intro w_ hw_
      obtain ⟨⟨w1, hb⟩, hw2⟩ := hw_
      have hw3 : w1 = w_ := hw2.symm
      clear hw2
      subst hw3
      replace hB := hB.trans (hb.mono hB.size)
      have hz := hb.size
      go_wp2
      all_goals go_ret
      all_goals exact ⟨rfl, hB0.trans (hB.mono hB0.size)⟩
    · have q1 : (0 : Int) < (l.length : Int) - (wo c l).length := by omega
      generalize grp n [c] l = G at *
      generalize wo c l = O at *
      have q2 : (l.length : Int) ≤ G.length := by omega
      have q3 : ¬ (G.length : Int) < l.length := by omega
      generalize hZ : (l.length : Int) - O.length = Z at *
      have K1 := Lib.hid k1; have K2 := Lib.hid k2; have K3 := Lib.hid k3
      clear k1 k2 k3 k4 k5 hM1 hZ hlen hG3
      go_wp2_with (first | (go_at_call 27; (with_reducible refine Calls.mono (K1.out _) ?_); rintro r w2 ⟨rfl, hb⟩; replace hB := hB.trans (hb.mono hB.size)) | (go_at_call 28; (with_reducible refine Calls.mono (K2.out _) ?_); rintro r w2 ⟨rfl, hb⟩; replace hB := hB.trans (hb.mono hB.size)) | (go_at_call 29; (with_reducible refine Calls.mono (K3.out _) ?_); rintro r w2 ⟨rfl, hb⟩; replace hB := hB.trans (hb.mono hB.size)))
      all_goals go_ret
      all_goals exact ⟨rfl, hB0.trans (hB.mono hB0.size)⟩
  · rw [grpW_no hv] at k1 k2
    have K1 := Lib.hid k1; have K2 := Lib.hid k2
    clear k1 k2 hM1
    go_wp2_with (first | (go_at_call 27; (with_reducible refine Calls.mono (K1.out _) ?_); rintro r w2 ⟨rfl, hb⟩; replace hB := hB.trans (hb.mono hB.size)) | (go_at_call 28; (with_reducible refine Calls.mono (K2.out _) ?_); rintro r w2 ⟨rfl, hb⟩; replace hB := hB.trans (hb.mono hB.size)))
    all_goals go_ret
    all_goals exact ⟨rfl, hB0.trans (hB.mono hB0.size)⟩

def FnGroupDigits_LL : List (String × DataW Unit) := [("unicode/utf8.acceptRanges", Rows.laid_unicode_utf8_acceptRanges), ("unicode/utf8.first", Rows.laid_unicode_utf8_first)]

set_option maxRecDepth 100000 in
theorem FnGroupDigits_lifted (os : Os) (started : os.Started) (H : Type) (enc : TypeId × Value → H) :
    ReturnsInHanded {} Tryd.checked os 9 .any (fun w args => (Rows.fnGroupDigitsSpec.pre enc Tryd.prog Tryd.f9 [] false w args ∧ laidMetH Tryd.prog FnGroupDigits_LL w) ∧ sizedMet enc Tryd.prog Tryd.f9 (OpenSpec.ofChange Rows.fnGroupDigitsSpec) false w args) (Rows.fnGroupDigitsSpec.post enc Tryd.prog Tryd.f9 false true false false) := by
  refine in_handed_shaped (C := Tryd.checked) (X := fun w _ => laidMetH Tryd.prog FnGroupDigits_LL w) (fun _ _ _ hh h => h.of_heap hh) Tryd.own started (by kernel_rfl) Tryd.func9
    (ChangeSpec.witness_shaped (enc := enc) (C := Tryd.checked) (os := os) (X := fun w _ => laidMetH Tryd.prog FnGroupDigits_LL w) false (World.laidAll Tryd.prog os FnGroupDigits_LL) #[.slice none 0 0] 8 (World.laidAll_os _ _ _) (World.shaped_of_ZipB (by kernel_rfl) (by kernel_rfl)) (by kernel_rfl) (by kernel_rfl) (by kernel_rfl)
      (by rw [MakeChecks.laidMetH_plain _ _ _ (by kernel_rfl)]; exact laidMet_laidAll _ (by kernel_rfl) (by kernel_rfl))) ?_
  intro W base args ds gs before hval0 hW _ _ _ hSh _
  have hM := hasMax_of hSh
  have hval : ∀ (j : Nat) t v, Tryd.f9.params[j]? = some t → args[j]? = some v → Value.okWide Tryd.prog W .any base t v := hval0
  have hW' := hW
  obtain ⟨p, q, hA0, hV, rfl, hfz, hnd⟩ := hW
  have hA : DataW.TrodAll enc Tryd.prog W 0 (fun _ => true) true Tryd.f9.params.toList args.toList ds p := hA0
  rw [Tryd.params9] at hA hval
  obtain ⟨v0, d0, rfl, rfl, h0⟩ := trodAll_one hA
  obtain ⟨rfl, rfl⟩ := trodVars_none hV
  obtain ⟨s, len, cap, rfl, hcap, hcode⟩ := open_code (hval 0 39 v0 rfl rfl) h0
  clear hA0 hval0
  have hlt := fun x hx => hW'.lt x hx
  refine (FnGroupDigits_law s len cap W hM hcode hcap).mono fun e_ W' ⟨he, hb⟩ => ?_
  subst he
  exact ⟨_, rfl, post_of_below (pa := p) (pv := []) hW' (fun _ _ _ => trodAll_mk1 (shut_bool Tryd.underlying4 true)) (fun sp hsp => trodAll_mk1 (code_back h0 hb (fun x hx => hlt x (by simp [hx])) (fun x hx => hsp x (by simp [hx])))) (fun _ _ => rfl) (by simp) hb (ok_one (by kernel_rfl) rfl (okWide_bool_mk Tryd.underlying4 true))⟩

theorem FnGroupDigits_holds : Rows.FnGroupDigitsSaid :=
  OpenClaim.holds_of_wide 9 Tryd.f9 rfl rfl rfl rfl rfl rfl rfl ⟨rfl, rfl, rfl, rfl, rfl⟩ rfl rfl rfl rfl rfl (by kernel_rfl) Tryd.func9 (by kernel_rfl)
    (of_decide_eq_true (by kernel_rfl)) (by unfold Func.isWrapper; first | (rw [if_pos (by decide +kernel)]; kernel_rfl) | (rw [if_neg (by decide +kernel)]; exact ⟨rfl, rfl⟩))
    (fun os started H enc _ => FnGroupDigits_lifted os started H enc)

theorem FnGroupDigits_card : Rows.FnGroupDigitsCardSaid :=
  Claim7.holds_tied_plain_at .later [] [.data, .pinned] true (true, "e363af9c8ccf08111d76afdb434eccbbf8f49c4be77de3f1954de84d3780a304") false
    FnGroupDigits_holds (fun _ h => by cases h) (by kernel_rfl) (fun _ h => by cases h) fnGroupDigits_row_tie rfl ⟨rfl, rfl⟩ (by kernel_rfl) rfl
    (fun f fn hf hfn => by
      obtain rfl : f = 9 := Option.some.inj ((show Tryd.prog.funcNamed "loop.example/formatplans/laws.FnGroupDigits" = some 9 by kernel_rfl).symm.trans hf) |>.symm
      obtain rfl : fn = Tryd.f9 := (Option.some.inj (Tryd.func9.symm.trans hfn)).symm
      exact ⟨by kernel_rfl, fun j t ht => by
        rw [Tryd.params9] at ht
        have hm : t ∈ [39] := by simpa using Array.mem_of_getElem? ht
        have hall : ([39].all fun u => !Tryd.prog.wantsStandIn u) = true := by kernel_rfl
        exact (show Tryd.prog.wantsStandIn t = false by simpa using List.all_eq_true.1 hall t hm)⟩)
    (by kernel_rfl)
end Go.Proofs.YtkpdpohnbnpelaaDoor
