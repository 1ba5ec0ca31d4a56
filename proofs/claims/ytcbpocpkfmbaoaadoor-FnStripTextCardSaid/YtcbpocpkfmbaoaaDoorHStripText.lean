/- Promise 42: proved for every input. No condition. The tables of the library that the row lists are tied to their text, or pinned. -/
import Derived.Test.YtcbpocpkfmbaoaaDoorT6
import Derived.Test.YtcbpocpkfmbaoaaDoorTDS
import Derived.Test.YtcbpocpkfmbaoaaDoorRC
import Derived.Test.YtcbpocpkfmbaoaaDoorTie
import Derived.Test.YtcbpocpkfmbaoaaDoorCards
import Derived.LaidMore
import Derived.Lay
import Derived.OpenShut
import Derived.Stop.Joined
import Derived.SevenTiedAt
namespace Go.Proofs.YtcbpocpkfmbaoaaDoor
open Go Go.ChangeShapes Go.WideShapes Go.ChangeAt Go.WideMaps Go.WideElems Go.RowKit Go.Joins Go.ChangeMaps

set_option maxRecDepth 100000 in
set_option maxHeartbeats 8000000 in
theorem FnStripText_law (s : Option Addr) (len cap : Nat) (w : World) (hcode : CodeAt s len w.heap.size w) (hcap : len ≤ cap) :
    Calls Tryd.prog 3 #[.slice s len cap] w fun r w' => r = .returned (.bool true) ∧ Below w.heap.size w w' := by
  by_cases hl : 1048576 < len
  · go_enter Tryd.func3, Tryd.ntmps3
    go_wp2
    go_ret
    exact ⟨rfl, (by repeat (first | with_reducible exact Below.refl _ _ | with_reducible assumption | with_reducible refine Below.setCell ?_ (by first | omega | (simp; done) | (simp <;> omega)) _ | with_reducible refine below_drewN ?_ _ | with_reducible refine Below.drew ?_ | with_reducible refine Below.alloc ?_ (by first | omega | (simp; done) | (simp <;> omega)) _))⟩
  go_enter Tryd.func3, Tryd.ntmps3
  go_wp2_with (go_at_call 5; (with_reducible refine Calls.mono (DrawStripText_any _ _ _ _ hcode hcap) ?_); rintro r w1 ⟨⟨T, f, a, rfl, hT, hf⟩, hB⟩)
  have k1 := fun W => StripText_any T f a (by omega) W
  have k2 := fun W => StripTextS_any T f a (by omega) (by omega) W
  have hXX : ∀ l : List UInt8, (l != l) = false := fun l => by simp
  by_cases hX : stripW T f a = ⟨#[]⟩
  · rw [hX] at k1 k2
    clear hX
    have K1 := Lib.hid k1; have K2 := Lib.hid k2
    clear k1 k2
    go_wp2_with (first | (go_at_call 6; (with_reducible refine Calls.mono (K1.out _) ?_); rintro r w2 ⟨rfl, hb⟩; replace hB := hB.trans (hb.mono hB.size)) | (go_at_call 7; (with_reducible refine Calls.mono (K2.out _) ?_); rintro r w2 ⟨rfl, hb⟩; replace hB := hB.trans (hb.mono hB.size)))
    all_goals go_ret
    all_goals exact ⟨rfl, hB⟩
  · have hok : cpB T f a = true := by
      rw [← Bool.not_eq_false]
      intro h
      exact hX (by unfold stripW; rw [h]; rfl)
    obtain ⟨X, PX, c, rfl, ha, hXn, hXs, hPs, hS⟩ := strip_of hok hX
    obtain ⟨e1, e2, e3, hlast, hhead⟩ := hS
    rw [show hd1 ⟨#[c]⟩ = c from rfl] at hlast hhead
    rw [e1] at k1 k2
    have k3 := fun W => PadText_any X 30 ⟨#[c]⟩ a (by omega) W
    have k4 := fun W => StripText_any PX ⟨#[c]⟩ a (by omega) W
    rw [e2] at k3
    rw [e3] at k4
    have hp0 : 0 < X.size := by
      rcases Nat.eq_zero_or_pos X.size with h | h
      · exact absurd (sz0 h) hXn
      · exact h
    have hne : X.toList.isEmpty = false := nonempty_list (by omega)
    have hEE : (X.toList == X.toList) = true := by simp
    obtain ⟨k, hkx⟩ : ∃ k, X.size = k + 1 := ⟨X.size - 1, by omega⟩
    have hkk : k < X.size := by omega
    have hki : (k : Int) < X.size := by omega
    have wr1 : IntKind.i64.wrap ((X.size : Int) - 1) = (k : Int) := by rw [IntWalk.i64_in _ (by omega)]; omega
    have wr2 : (X.size : Int) - 1 = (k : Int) := by omega
    have wr3 : ¬ (k : Int) < 0 := by omega
    have wr5 : (k : Int) ≤ X.size := by omega
    have e0 : ((⟨#[c]⟩ : ByteArray)[0]'(by simp [ByteArray.size])) = c := rfl
    have h3 : a = 1 ∨ a = 2 ∨ a = 3 := by omega
    clear e1 e2 e3 hX hok ha hXn
    rcases h3 with rfl | rfl | rfl
    · skip
      have hl := last_ne hkx hkk (hlast (by decide))
      have hlq := beq_u8 (a := X[k]) (b := c)
      rw [decide_eq_false hl] at hlq
      have hln : ((X[k].toNat : Int) != (c.toNat : Int)) = true := by rw [bne, hlq]; rfl
      clear hlast hhead hl hkx
      have K1 := Lib.hid k1; have K2 := Lib.hid k2; have K3 := Lib.hid k3; have K4 := Lib.hid k4
      clear k1 k2 k3 k4
      go_wp2_with (first | (go_at_call 6; (with_reducible refine Calls.mono (K1.out _) ?_); rintro r w2 ⟨rfl, hb⟩; replace hB := hB.trans (hb.mono hB.size)) | (go_at_call 7; (with_reducible refine Calls.mono (K2.out _) ?_); rintro r w2 ⟨rfl, hb⟩; replace hB := hB.trans (hb.mono hB.size)) | (go_at_call 8; (with_reducible refine Calls.mono (K3.out _) ?_); rintro r w2 ⟨rfl, hb⟩; replace hB := hB.trans (hb.mono hB.size)) | (go_at_call 6; (with_reducible refine Calls.mono (K4.out _) ?_); rintro r w2 ⟨rfl, hb⟩; replace hB := hB.trans (hb.mono hB.size)))
      go_quiet (fail)
      go_wp2
      all_goals go_ret
      all_goals exact ⟨rfl, by repeat (first | exact hB | refine below_drewN ?_ _ | refine Below.drew ?_)⟩
    · skip
      have hh := head_ne hp0 (hhead (by decide))
      have hhq := beq_u8 (a := X[0]) (b := c)
      rw [decide_eq_false hh] at hhq
      have hhn : ((X[0].toNat : Int) != (c.toNat : Int)) = true := by rw [bne, hhq]; rfl
      clear hlast hhead hh hkx
      have K1 := Lib.hid k1; have K2 := Lib.hid k2; have K3 := Lib.hid k3; have K4 := Lib.hid k4
      clear k1 k2 k3 k4
      go_wp2_with (first | (go_at_call 6; (with_reducible refine Calls.mono (K1.out _) ?_); rintro r w2 ⟨rfl, hb⟩; replace hB := hB.trans (hb.mono hB.size)) | (go_at_call 7; (with_reducible refine Calls.mono (K2.out _) ?_); rintro r w2 ⟨rfl, hb⟩; replace hB := hB.trans (hb.mono hB.size)) | (go_at_call 8; (with_reducible refine Calls.mono (K3.out _) ?_); rintro r w2 ⟨rfl, hb⟩; replace hB := hB.trans (hb.mono hB.size)) | (go_at_call 6; (with_reducible refine Calls.mono (K4.out _) ?_); rintro r w2 ⟨rfl, hb⟩; replace hB := hB.trans (hb.mono hB.size)))
      go_quiet (fail)
      go_wp2
      all_goals go_ret
      all_goals exact ⟨rfl, by repeat (first | exact hB | refine below_drewN ?_ _ | refine Below.drew ?_)⟩
    · skip
      have hl := last_ne hkx hkk (hlast (by decide))
      have hlq := beq_u8 (a := X[k]) (b := c)
      rw [decide_eq_false hl] at hlq
      have hln : ((X[k].toNat : Int) != (c.toNat : Int)) = true := by rw [bne, hlq]; rfl
      have hh := head_ne hp0 (hhead (by decide))
      have hhq := beq_u8 (a := X[0]) (b := c)
      rw [decide_eq_false hh] at hhq
      have hhn : ((X[0].toNat : Int) != (c.toNat : Int)) = true := by rw [bne, hhq]; rfl
      clear hlast hhead hl hh hkx
      have K1 := Lib.hid k1; have K2 := Lib.hid k2; have K3 := Lib.hid k3; have K4 := Lib.hid k4
      clear k1 k2 k3 k4
      go_wp2_with (first | (go_at_call 6; (with_reducible refine Calls.mono (K1.out _) ?_); rintro r w2 ⟨rfl, hb⟩; replace hB := hB.trans (hb.mono hB.size)) | (go_at_call 7; (with_reducible refine Calls.mono (K2.out _) ?_); rintro r w2 ⟨rfl, hb⟩; replace hB := hB.trans (hb.mono hB.size)) | (go_at_call 8; (with_reducible refine Calls.mono (K3.out _) ?_); rintro r w2 ⟨rfl, hb⟩; replace hB := hB.trans (hb.mono hB.size)) | (go_at_call 6; (with_reducible refine Calls.mono (K4.out _) ?_); rintro r w2 ⟨rfl, hb⟩; replace hB := hB.trans (hb.mono hB.size)))
      go_quiet (fail)
      go_wp2
      all_goals go_ret
      all_goals exact ⟨rfl, by repeat (first | exact hB | refine below_drewN ?_ _ | refine Below.drew ?_)⟩

def FnStripText_LL : List (String × DataW Unit) := [("unicode/utf8.acceptRanges", Rows.laid_unicode_utf8_acceptRanges), ("unicode/utf8.first", Rows.laid_unicode_utf8_first)]

set_option maxRecDepth 100000 in
theorem FnStripText_lifted (os : Os) (started : os.Started) (H : Type) (enc : TypeId × Value → H) :
    ReturnsInHanded {} Tryd.checked os 3 .any (fun w args => (Rows.fnStripTextSpec.pre enc Tryd.prog Tryd.f3 [] false w args ∧ laidMetH Tryd.prog FnStripText_LL w) ∧ sizedMet enc Tryd.prog Tryd.f3 (OpenSpec.ofChange Rows.fnStripTextSpec) false w args) (Rows.fnStripTextSpec.post enc Tryd.prog Tryd.f3 false true false false) := by
  refine returnsInHanded_of_change_and (C := Tryd.checked) (X := fun w _ => laidMetH Tryd.prog FnStripText_LL w) (fun _ _ _ hh h => h.of_heap hh) Tryd.own started (by kernel_rfl) Tryd.func3
    (ChangeSpec.witness_shaped (enc := enc) (C := Tryd.checked) (os := os) (X := fun w _ => laidMetH Tryd.prog FnStripText_LL w) false (World.laidAll Tryd.prog os FnStripText_LL) #[.slice none 0 0] 8 (World.laidAll_os _ _ _) (World.shaped_of_ZipB (by kernel_rfl) (by kernel_rfl)) (by kernel_rfl) (by kernel_rfl) (by kernel_rfl)
      (by rw [MakeChecks.laidMetH_plain _ _ _ (by kernel_rfl)]; exact laidMet_laidAll _ (by kernel_rfl) (by kernel_rfl))) ?_
  intro W base args ds gs before hval0 hW _ _ _ _
  have hval : ∀ (j : Nat) t v, Tryd.f3.params[j]? = some t → args[j]? = some v → Value.okWide Tryd.prog W .any base t v := hval0
  have hW' := hW
  obtain ⟨p, q, hA0, hV, rfl, hfz, hnd⟩ := hW
  have hA : DataW.TrodAll enc Tryd.prog W 0 (fun _ => true) true Tryd.f3.params.toList args.toList ds p := hA0
  rw [Tryd.params3] at hA hval
  obtain ⟨v0, d0, rfl, rfl, h0⟩ := trodAll_one hA
  obtain ⟨rfl, rfl⟩ := trodVars_none hV
  obtain ⟨s, len, cap, rfl, hcap, hcode⟩ := open_code (hval 0 22 v0 rfl rfl) h0
  clear hA0 hval0
  have hlt := fun x hx => hW'.lt x hx
  refine (FnStripText_law s len cap W hcode hcap).mono fun e_ W' ⟨he, hb⟩ => ?_
  subst he
  exact ⟨_, rfl, post_of_below (pa := p) (pv := []) hW' (fun _ _ _ => trodAll_mk1 (shut_bool Tryd.underlying4 true)) (fun sp hsp => trodAll_mk1 (code_back h0 hb (fun x hx => hlt x (by simp [hx])) (fun x hx => hsp x (by simp [hx])))) (fun _ _ => rfl) (by simp) hb (ok_one (by kernel_rfl) rfl (okWide_bool_mk Tryd.underlying4 true))⟩

theorem FnStripText_holds : Rows.FnStripTextSaid :=
  OpenClaim.holds_of_wide 3 Tryd.f3 rfl rfl rfl rfl rfl rfl rfl ⟨rfl, rfl, rfl, rfl, rfl⟩ rfl rfl rfl rfl rfl (by kernel_rfl) Tryd.func3 (by kernel_rfl)
    (of_decide_eq_true (by kernel_rfl)) (by unfold Func.isWrapper; first | (rw [if_pos (by decide +kernel)]; kernel_rfl) | (rw [if_neg (by decide +kernel)]; exact ⟨rfl, rfl⟩))
    (fun os started H enc _ => FnStripText_lifted os started H enc)

theorem FnStripText_card : Rows.FnStripTextCardSaid :=
  Claim7.holds_tied_plain_at .later [] [.data, .pinned] true (true, "09966117908d7d70d91f02b0ba30974728c143a75f10f7c61ba2bea72cf1273e") false
    FnStripText_holds (fun _ h => by cases h) (by kernel_rfl) (fun _ h => by cases h) fnStripText_row_tie rfl ⟨rfl, rfl⟩ (by kernel_rfl) rfl
    (fun f fn hf hfn => by
      obtain rfl : f = 3 := Option.some.inj ((show Tryd.prog.funcNamed "loop.example/formatplans/laws.FnStripText" = some 3 by kernel_rfl).symm.trans hf) |>.symm
      obtain rfl : fn = Tryd.f3 := (Option.some.inj (Tryd.func3.symm.trans hfn)).symm
      exact ⟨by kernel_rfl, fun j t ht => by
        rw [Tryd.params3] at ht
        have hm : t ∈ [22] := by simpa using Array.mem_of_getElem? ht
        have hall : ([22].all fun u => !Tryd.prog.wantsStandIn u) = true := by kernel_rfl
        exact (show Tryd.prog.wantsStandIn t = false by simpa using List.all_eq_true.1 hall t hm)⟩)
    (by kernel_rfl)
end Go.Proofs.YtcbpocpkfmbaoaaDoor
