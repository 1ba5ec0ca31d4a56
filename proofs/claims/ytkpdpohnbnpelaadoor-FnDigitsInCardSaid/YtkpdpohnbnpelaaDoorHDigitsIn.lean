/- Promise 22: proved for every input. No condition. The tables of the library that the row lists are tied to their text. -/
import Derived.Test.YtkpdpohnbnpelaaDoorN15
import Derived.Test.YtkpdpohnbnpelaaDoorN4
import Derived.Test.YtkpdpohnbnpelaaDoorY4S
import Derived.Test.YtkpdpohnbnpelaaDoorTie
import Derived.Test.YtkpdpohnbnpelaaDoorCards
import Derived.LaidMore
import Derived.Lay
import Derived.OpenShut
import Derived.Stop.Joined
import Derived.SevenTiedAt
namespace Go.Proofs.YtkpdpohnbnpelaaDoor
open Go Go.ChangeShapes Go.WideShapes Go.ChangeAt Go.WideMaps Go.WideElems Go.RowKit Go.Joins Go.ChangeMaps

theorem valW_list {b : Nat} {L : List UInt8} (h2 : 2 ≤ b) (h16 : b ≤ 16) (hL : 1 ≤ L.length) : valW ⟨L.toArray⟩ b = vRun b L 0 := by
  have e : (⟨L.toArray⟩ : ByteArray).size = L.length := rfl
  unfold valW
  rw [if_neg (by omega), if_neg (by omega), if_neg (by omega)]
set_option maxRecDepth 100000 in
set_option maxHeartbeats 4000000 in
theorem FnDigitsIn_law (s : Option Addr) (len cap : Nat) (w : World) (hT : DT w) (hcode : CodeAt s len w.heap.size w) (hcap : len ≤ cap) :
    Calls Tryd.prog 7 #[.slice s len cap] w fun r w' => r = .returned (.bool true) ∧ Below w.heap.size w w' := by
  by_cases hl : 1048576 < len
  · go_enter Tryd.func7, Tryd.ntmps7
    go_wp2
    go_ret
    exact ⟨rfl, (by repeat (first | with_reducible exact Below.refl _ _ | with_reducible assumption | with_reducible refine Below.setCell ?_ (by first | omega | (simp; done) | (simp <;> omega)) _ | with_reducible refine below_drewN ?_ _ | with_reducible refine Below.drew ?_ | with_reducible refine Below.alloc ?_ (by first | omega | (simp; done) | (simp <;> omega)) _))⟩
  go_enter Tryd.func7, Tryd.ntmps7
  go_wp2_with (go_at_call 22; (with_reducible refine Calls.mono (DrawDigitsIn_any _ _ _ _ hcode hcap) ?_); rintro r w1 ⟨⟨n, base, rfl⟩, hB⟩; have hz := hB.size)
  have hT1 := hT.on hB
  clear hT
  have k1 := fun W (h : DT W) => DigitsIn_any n base W h
  have k2 := fun W => DigitsInS_any n base W
  by_cases hv : 0 ≤ n ∧ n ≤ 999999999999 ∧ 2 ≤ base ∧ base ≤ 16
  · obtain ⟨n, rfl⟩ := Int.eq_ofNat_of_zero_le hv.1
    obtain ⟨b, rfl⟩ := Int.eq_ofNat_of_zero_le (show 0 ≤ base by omega)
    rw [digW_yes (by omega) (by omega) (by omega)] at k1 k2
    have hd1 := digs_pos false b n
    have hd40 := digs_40 (up := false) (b := b) (n := n) (by omega) (by omega)
    have v1 := valW_list (b := b) (L := digs false b n) (by omega) (by omega) hd1
    have v2 := valW_list (b := b) (L := 48 :: digs false b n) (by omega) (by omega) (by simp)
    have r1 := vRun_digs (up := false) (b := b) (by omega) (by omega) n n (Nat.le_refl _) (by omega) []
    rw [List.append_nil] at r1
    have r2 : vRun b (48 :: digs false b n) 0 = vRun b (digs false b n) 0 := by
      have hz : dg ((48 : UInt8).toNat : Int) = 0 := by decide
      rw [vRun_cons (by rw [hz]; omega) (by rw [hz]; omega), hz]; simp
    rw [r1] at v1
    rw [r2, r1] at v2
    have hhd : n = 0 ∨ ∃ c r, digs false b n = c :: r ∧ c ≠ 48 := by
      by_cases h0 : n = 0
      · exact .inl h0
      · exact .inr (digs_head (up := false) (b := b) (by omega) (by omega) n n (Nat.le_refl _) (by omega))
    generalize digs false b n = D at *
    have k3 := fun W => ValueIn_any ⟨D.toArray⟩ b (by show D.length ≤ _; omega) W
    have k4 := fun W => ValueIn_any ⟨(48 :: D).toArray⟩ b (by show (48 :: D).length ≤ _; simp; omega) W
    rw [v1] at k3
    rw [v2] at k4
    simp only [vRun] at k3 k4
    have hcat : (⟨#[48]⟩ : ByteArray) ++ ⟨D.toArray⟩ = ⟨(48 :: D).toArray⟩ := cat_lN [48] D
    have hne : (⟨D.toArray⟩ : ByteArray).toList.isEmpty = false := nonempty_list (by show 1 ≤ D.length; omega)
    have hsz : (⟨D.toArray⟩ : ByteArray).size = D.length := rfl
    have k3b := fun W => mBn (k3 W)
    have k4b := fun W => mBn (k4 W)
    rw [← hcat] at k4 k4b
    have K1 := Lib.hid k1; have K2 := Lib.hid k2; have K3 := Lib.hid k3b; have K4 := Lib.hid k4b
    clear k1 k2 k3 k4 k3b k4b v1 v2 r1 r2
    have HH := Lib.hid hhd
    clear hhd hcat
    have hb80 : ¬ (9223372036854775807 < D.length + 1) := by omega
    rcases HH.out with rfl | ⟨c, rr, rfl, hc⟩
    · skip
      go_wp2_with (first | (go_at_call 15; (with_reducible refine Calls.mono (K1.out _ hT1) ?_); rintro r w2 ⟨rfl, hb⟩; replace hB := hB.trans (hb.mono hB.size)) | (go_at_call 14; (with_reducible refine Calls.mono (K2.out _) ?_); rintro r w2 ⟨rfl, hb⟩; replace hB := hB.trans (hb.mono hB.size)) | (go_at_call 23; (with_reducible refine Calls.mono (K3.out _) ?_); rintro r w2 ⟨rfl, hb⟩; replace hB := hB.trans (hb.mono hB.size)) | (go_at_call 23; (with_reducible refine Calls.mono (K4.out _) ?_); rintro r w2 ⟨rfl, hb⟩; replace hB := hB.trans (hb.mono hB.size)))
      all_goals go_ret
      all_goals exact ⟨rfl, hB⟩
    · have hb81 : ¬ (9223372036854775807 < rr.length + 1 + 1) := by simp at hb80; omega
      go_wp2_with (first | (go_at_call 15; (with_reducible refine Calls.mono (K1.out _ hT1) ?_); rintro r w2 ⟨rfl, hb⟩; replace hB := hB.trans (hb.mono hB.size)) | (go_at_call 14; (with_reducible refine Calls.mono (K2.out _) ?_); rintro r w2 ⟨rfl, hb⟩; replace hB := hB.trans (hb.mono hB.size)) | (go_at_call 23; (with_reducible refine Calls.mono (K3.out _) ?_); rintro r w2 ⟨rfl, hb⟩; replace hB := hB.trans (hb.mono hB.size)) | (go_at_call 23; (with_reducible refine Calls.mono (K4.out _) ?_); rintro r w2 ⟨rfl, hb⟩; replace hB := hB.trans (hb.mono hB.size)))
      all_goals go_ret
      all_goals first | exact ⟨rfl, hB⟩ | (rename_i q; exact absurd (show (c.toNat : Int) = 48 from q) (fun e => hc (UInt8.toNat_inj.1 (by show c.toNat = 48; omega))))
  · rw [digW_no hv] at k1 k2
    have K1 := Lib.hid k1; have K2 := Lib.hid k2
    clear k1 k2
    go_wp2_with (first | (go_at_call 15; (with_reducible refine Calls.mono (K1.out _ hT1) ?_); rintro r w2 ⟨rfl, hb⟩; replace hB := hB.trans (hb.mono hB.size)) | (go_at_call 14; (with_reducible refine Calls.mono (K2.out _) ?_); rintro r w2 ⟨rfl, hb⟩; replace hB := hB.trans (hb.mono hB.size)))
    all_goals go_ret
    all_goals exact ⟨rfl, hB⟩

def FnDigitsIn_LL : List (String × DataW Unit) := [("math/bits.deBruijn32tab", Rows.laid_math_bits_deBruijn32tab), ("math/bits.deBruijn64tab", Rows.laid_math_bits_deBruijn64tab), ("internal/strconv.uint64pow10", Rows.laid_internal_strconv_uint64pow10)]

set_option maxRecDepth 100000 in
theorem FnDigitsIn_lifted (os : Os) (started : os.Started) (H : Type) (enc : TypeId × Value → H) :
    ReturnsInHanded {} Tryd.checked os 7 .any (fun w args => (Rows.fnDigitsInSpec.pre enc Tryd.prog Tryd.f7 [] false w args ∧ laidMetH Tryd.prog FnDigitsIn_LL w) ∧ sizedMet enc Tryd.prog Tryd.f7 (OpenSpec.ofChange Rows.fnDigitsInSpec) false w args) (Rows.fnDigitsInSpec.post enc Tryd.prog Tryd.f7 false true false false) := by
  refine returnsInHanded_of_change_and (C := Tryd.checked) (X := fun w _ => laidMetH Tryd.prog FnDigitsIn_LL w) (fun _ _ _ hh h => h.of_heap hh) Tryd.own started (by kernel_rfl) Tryd.func7
    (ChangeSpec.witness_shaped (enc := enc) (C := Tryd.checked) (os := os) (X := fun w _ => laidMetH Tryd.prog FnDigitsIn_LL w) false (World.laidAll Tryd.prog os FnDigitsIn_LL) #[.slice none 0 0] 8 (World.laidAll_os _ _ _) (World.shaped_of_ZipB (by kernel_rfl) (by kernel_rfl)) (by kernel_rfl) (by kernel_rfl) (by kernel_rfl)
      (by rw [MakeChecks.laidMetH_plain _ _ _ (by kernel_rfl)]; exact laidMet_laidAll _ (by kernel_rfl) (by kernel_rfl))) ?_
  intro W base args ds gs before hval0 hW _ _ hL _
  rw [MakeChecks.laidMetH_plain _ _ _ (by kernel_rfl)] at hL
  have hT := dt_of hL
  have hval : ∀ (j : Nat) t v, Tryd.f7.params[j]? = some t → args[j]? = some v → Value.okWide Tryd.prog W .any base t v := hval0
  have hW' := hW
  obtain ⟨p, q, hA0, hV, rfl, hfz, hnd⟩ := hW
  have hA : DataW.TrodAll enc Tryd.prog W 0 (fun _ => true) true Tryd.f7.params.toList args.toList ds p := hA0
  rw [Tryd.params7] at hA hval
  obtain ⟨v0, d0, rfl, rfl, h0⟩ := trodAll_one hA
  obtain ⟨rfl, rfl⟩ := trodVars_none hV
  obtain ⟨s, len, cap, rfl, hcap, hcode⟩ := open_code (hval 0 39 v0 rfl rfl) h0
  clear hA0 hval0
  have hlt := fun x hx => hW'.lt x hx
  refine (FnDigitsIn_law s len cap W hT hcode hcap).mono fun e_ W' ⟨he, hb⟩ => ?_
  subst he
  exact ⟨_, rfl, post_of_below (pa := p) (pv := []) hW' (fun _ _ _ => trodAll_mk1 (shut_bool Tryd.underlying4 true)) (fun sp hsp => trodAll_mk1 (code_back h0 hb (fun x hx => hlt x (by simp [hx])) (fun x hx => hsp x (by simp [hx])))) (fun _ _ => rfl) (by simp) hb (ok_one (by kernel_rfl) rfl (okWide_bool_mk Tryd.underlying4 true))⟩

theorem FnDigitsIn_holds : Rows.FnDigitsInSaid :=
  OpenClaim.holds_of_wide 7 Tryd.f7 rfl rfl rfl rfl rfl rfl rfl ⟨rfl, rfl, rfl, rfl, rfl⟩ rfl rfl rfl rfl rfl (by kernel_rfl) Tryd.func7 (by kernel_rfl)
    (of_decide_eq_true (by kernel_rfl)) (by unfold Func.isWrapper; first | (rw [if_pos (by decide +kernel)]; kernel_rfl) | (rw [if_neg (by decide +kernel)]; exact ⟨rfl, rfl⟩))
    (fun os started H enc _ => FnDigitsIn_lifted os started H enc)

theorem FnDigitsIn_card : Rows.FnDigitsInCardSaid :=
  Claim7.holds_tied_plain_at .later [] [.data, .data, .data] true (true, "e363af9c8ccf08111d76afdb434eccbbf8f49c4be77de3f1954de84d3780a304") false
    FnDigitsIn_holds (fun _ h => by cases h) (by kernel_rfl) (fun _ h => by cases h) fnDigitsIn_row_tie rfl ⟨rfl, rfl⟩ (by kernel_rfl) rfl
    (fun f fn hf hfn => by
      obtain rfl : f = 7 := Option.some.inj ((show Tryd.prog.funcNamed "loop.example/formatplans/laws.FnDigitsIn" = some 7 by kernel_rfl).symm.trans hf) |>.symm
      obtain rfl : fn = Tryd.f7 := (Option.some.inj (Tryd.func7.symm.trans hfn)).symm
      exact ⟨by kernel_rfl, fun j t ht => by
        rw [Tryd.params7] at ht
        have hm : t ∈ [39] := by simpa using Array.mem_of_getElem? ht
        have hall : ([39].all fun u => !Tryd.prog.wantsStandIn u) = true := by kernel_rfl
        exact (show Tryd.prog.wantsStandIn t = false by simpa using List.all_eq_true.1 hall t hm)⟩)
    (by kernel_rfl)
end Go.Proofs.YtkpdpohnbnpelaaDoor
