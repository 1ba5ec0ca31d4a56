/- Promise 23: proved for every input. No condition. The tables of the library that the row lists are tied to their text. -/
import Derived.Test.YtkpdpohnbnpelaaDoorN15
import Derived.Test.YtkpdpohnbnpelaaDoorN18
import Derived.Test.YtkpdpohnbnpelaaDoorY4S
import Derived.Test.YtkpdpohnbnpelaaDoorTie
import Derived.Test.YtkpdpohnbnpelaaDoorCards
import Derived.LaidMore
import Derived.Lay
import Derived.OpenShut
import Derived.Stop.Joined
import Derived.SevenTiedAt
namespace Go.Proofs.YtkpdpohnbnpelaaDoor
open Go Go.ChangeShapes Go.WideShapes Go.ChangeAt Go.WideMaps Go.WideElems Go.RowKit Go.Joins Go.ChangeMaps

theorem valW_size {b : Nat} {s : ByteArray} (h2 : 2 ≤ b) (h16 : b ≤ 16) (hs : 1 ≤ s.size) : valW s b = vRun b s.data.toList 0 := by
  unfold valW
  rw [if_neg (by omega), if_neg (by omega), if_neg (by omega)]
theorem vRun_ge (base : Int) (hb : 0 ≤ base) : ∀ (l : List UInt8) (n : Int), 0 ≤ n → -1 ≤ vRun base l n := by
  intro l
  induction l with
  | nil => intro n h; simp only [vRun]; omega
  | cons c l ih =>
    intro n h
    unfold vRun
    split
    · omega
    · split
      · omega
      · exact ih _ (by have := Int.mul_nonneg h hb; have := dg_ge (c.toNat : Int); omega)
theorem valW_ge (s : ByteArray) (base : Int) : -1 ≤ valW s base := by
  unfold valW
  split
  · omega
  · split
    · omega
    · split
      · omega
      · exact vRun_ge base (by omega) _ 0 (by omega)
theorem drop_extract (s : ByteArray) (k : Nat) : (s.extract k s.size).data.toList = s.data.toList.drop k := by
  rw [ByteArray.data_extract, Array.toList_extract, List.extract_eq_take_drop]
  exact List.take_of_length_le (by rw [List.length_drop, Array.length_toList]; exact Nat.le_refl _)
set_option maxRecDepth 100000 in
set_option maxHeartbeats 8000000 in
theorem FnValueIn_law (s : Option Addr) (len cap : Nat) (w : World) (hT : DT w) (hcode : CodeAt s len w.heap.size w) (hcap : len ≤ cap) :
    Calls Tryd.prog 8 #[.slice s len cap] w fun r w' => r = .returned (.bool true) ∧ Below w.heap.size w w' := by
  by_cases hl : 1048576 < len
  · go_enter Tryd.func8, Tryd.ntmps8
    go_wp2
    go_ret
    exact ⟨rfl, (by repeat (first | with_reducible exact Below.refl _ _ | with_reducible assumption | with_reducible refine Below.setCell ?_ (by first | omega | (simp; done) | (simp <;> omega)) _ | with_reducible refine below_drewN ?_ _ | with_reducible refine Below.drew ?_ | with_reducible refine Below.alloc ?_ (by first | omega | (simp; done) | (simp <;> omega)) _))⟩
  go_enter Tryd.func8, Tryd.ntmps8
  go_wp2_with (go_at_call 24; (with_reducible refine Calls.mono (DrawValueIn_any _ _ _ _ hcode hcap) ?_); rintro r w1 ⟨⟨t, base, rfl, ht⟩, hB⟩; have hz := hB.size)
  have hT1 := hT.on hB
  have hB0 := hB
  clear hB
  have hB := Below.refl w1.heap.size w1
  clear hT
  have k1 := fun W => mBn (ValueIn_any t base (by omega) W)
  have k2 := fun W => mBn (ValueInS_any t base (by omega) W)
  by_cases hneg : valW t base < 0
  · have hX : valW t base = -1 := by have := valW_ge t base; omega
    rw [hX] at k1 k2
    have K1 := Lib.hid k1; have K2 := Lib.hid k2
    clear k1 k2 hX hneg hT1
    go_wp2_with (first | (go_at_call 23; (with_reducible refine Calls.mono (K1.out _) ?_); rintro r w2 ⟨rfl, hb⟩; replace hB := hB.trans (hb.mono hB.size)) | (go_at_call 25; (with_reducible refine Calls.mono (K2.out _) ?_); rintro r w2 ⟨rfl, hb⟩; replace hB := hB.trans (hb.mono hB.size)))
    all_goals go_ret
    all_goals exact ⟨rfl, hB0.trans (hB.mono hB0.size)⟩
  · obtain ⟨v, hv⟩ := Int.eq_ofNat_of_zero_le (show 0 ≤ valW t base by omega)
    have hv0 := hv
    unfold valW at hv0
    have h0 : ¬ t.size = 0 := fun e => by rw [if_pos e] at hv0; omega
    rw [if_neg h0] at hv0
    have h2 : ¬ base < 2 := fun e => by rw [if_pos e] at hv0; omega
    rw [if_neg h2] at hv0
    have h16 : ¬ 16 < base := fun e => by rw [if_pos e] at hv0; omega
    clear hv0
    obtain ⟨b, rfl⟩ := Int.eq_ofNat_of_zero_le (show 0 ≤ base by omega)
    rw [hv] at k1 k2
    have hrun := hv
    rw [valW_size (by omega) (by omega) (by omega)] at hrun
    have hls : t.data.toList.length = t.size := by rw [Array.length_toList]; rfl
    obtain ⟨hvm, k, e1, e2, e3⟩ := digs_of_run false (b := b) (by omega) (by omega) t.data.toList (fun e => by rw [e] at hls; simp at hls; omega) v hrun
    rw [hls] at e1
    have hd1 := digs_pos false b v
    have k3 := fun W (h : DT W) => DigitsIn_any v b W h
    rw [digW_yes (by omega) (by omega) (by omega)] at k3
    have hes : (t.extract k t.size).size = t.size - k := by rw [ByteArray.size_extract]; omega
    have k4 := fun W => mBn (ValueIn_any (t.extract k t.size) b (by omega) W)
    rw [valW_size (by omega) (by omega) (by omega), drop_extract, e3] at k4
    have hz0 : ∀ i, i < k → ∀ hh, t[i]'hh = 48 := by
      intro i hi hh
      have := e2 i hi
      rw [List.getElem?_eq_getElem (by rw [hls]; exact hh), Option.some.injEq] at this
      exact this
    generalize digs false b v = D at *
    have hDs : (⟨D.toArray⟩ : ByteArray).size = D.length := rfl
    have j1 : ¬ (v : Int) < 0 := by omega
    have j2 : ¬ (t.size : Int) < D.length := by omega
    have j3 : (D.length : Int) ≤ t.size := by omega
    have j4 : (t.size : Int) - D.length = k := by omega
    have K1 := Lib.hid k1; have K2 := Lib.hid k2; have K3 := Lib.hid k3; have K4 := Lib.hid k4; have HZ := Lib.hid hz0; have E1 := Lib.hid e1
    clear k1 k2 k3 k4 hz0 e1 e2 e3 hv hrun hls hneg
    go_wp2_with (first | (go_at_call 23; (with_reducible refine Calls.mono (K1.out _) ?_); rintro r w2 ⟨rfl, hb⟩; replace hB := hB.trans (hb.mono hB.size)) | (go_at_call 25; (with_reducible refine Calls.mono (K2.out _) ?_); rintro r w2 ⟨rfl, hb⟩; replace hB := hB.trans (hb.mono hB.size)) | (go_at_call 15; (with_reducible refine Calls.mono (K3.out _ (hT1.on hB)) ?_); rintro r w2 ⟨rfl, hb⟩; replace hB := hB.trans (hb.mono hB.size)))
    go_loopg [7] k (fun g s5 wr => ∃ i : Nat, s5 = .int .i64 i ∧ i ≤ k ∧ Below w1.heap.size w1 wr ∧ Aside (g = k - i))
    case atStart => exact ⟨0, rfl, by omega, hB, rfl⟩
    case round =>
      clear hB
      obtain ⟨i, rfl, hi, hB, hg⟩ := hrel
      have hg' := hg.out
      clear hg
      have hE1 := E1.out
      by_cases hlt : i < k
      · have i1 : (i : Int) < k := by omega
        have i2 : (i : Int) < t.size := by omega
        have i3 : i < t.size := by omega
        have hzz := HZ.out i hlt i3
        go_wp2
        go_roundg (k - (i + 1))
        case measure => omega
        case rel => exact ⟨i + 1, by go_num, by omega, hB, rfl⟩
      · obtain rfl : i = k := by omega
        have i1 : ¬ (i : Int) < i := by omega
        have i4 : (i : Int) ≤ t.size := by omega
        clear hE1
        go_wp2_with (first | (go_at_call 23; (with_reducible refine Calls.mono (K4.out _) ?_); rintro r w2 ⟨rfl, hb⟩; replace hB := hB.trans (hb.mono hB.size)))
        all_goals go_ret
        all_goals exact ⟨rfl, hB0.trans (hB.mono hB0.size)⟩

def FnValueIn_LL : List (String × DataW Unit) := [("math/bits.deBruijn32tab", Rows.laid_math_bits_deBruijn32tab), ("math/bits.deBruijn64tab", Rows.laid_math_bits_deBruijn64tab), ("internal/strconv.uint64pow10", Rows.laid_internal_strconv_uint64pow10)]

set_option maxRecDepth 100000 in
theorem FnValueIn_lifted (os : Os) (started : os.Started) (H : Type) (enc : TypeId × Value → H) :
    ReturnsInHanded {} Tryd.checked os 8 .any (fun w args => (Rows.fnValueInSpec.pre enc Tryd.prog Tryd.f8 [] false w args ∧ laidMetH Tryd.prog FnValueIn_LL w) ∧ sizedMet enc Tryd.prog Tryd.f8 (OpenSpec.ofChange Rows.fnValueInSpec) false w args) (Rows.fnValueInSpec.post enc Tryd.prog Tryd.f8 false true false false) := by
  refine returnsInHanded_of_change_and (C := Tryd.checked) (X := fun w _ => laidMetH Tryd.prog FnValueIn_LL w) (fun _ _ _ hh h => h.of_heap hh) Tryd.own started (by kernel_rfl) Tryd.func8
    (ChangeSpec.witness_shaped (enc := enc) (C := Tryd.checked) (os := os) (X := fun w _ => laidMetH Tryd.prog FnValueIn_LL w) false (World.laidAll Tryd.prog os FnValueIn_LL) #[.slice none 0 0] 8 (World.laidAll_os _ _ _) (World.shaped_of_ZipB (by kernel_rfl) (by kernel_rfl)) (by kernel_rfl) (by kernel_rfl) (by kernel_rfl)
      (by rw [MakeChecks.laidMetH_plain _ _ _ (by kernel_rfl)]; exact laidMet_laidAll _ (by kernel_rfl) (by kernel_rfl))) ?_
  intro W base args ds gs before hval0 hW _ _ hL _
  rw [MakeChecks.laidMetH_plain _ _ _ (by kernel_rfl)] at hL
  have hT := dt_of hL
  have hval : ∀ (j : Nat) t v, Tryd.f8.params[j]? = some t → args[j]? = some v → Value.okWide Tryd.prog W .any base t v := hval0
  have hW' := hW
  obtain ⟨p, q, hA0, hV, rfl, hfz, hnd⟩ := hW
  have hA : DataW.TrodAll enc Tryd.prog W 0 (fun _ => true) true Tryd.f8.params.toList args.toList ds p := hA0
  rw [Tryd.params8] at hA hval
  obtain ⟨v0, d0, rfl, rfl, h0⟩ := trodAll_one hA
  obtain ⟨rfl, rfl⟩ := trodVars_none hV
  obtain ⟨s, len, cap, rfl, hcap, hcode⟩ := open_code (hval 0 39 v0 rfl rfl) h0
  clear hA0 hval0
  have hlt := fun x hx => hW'.lt x hx
  refine (FnValueIn_law s len cap W hT hcode hcap).mono fun e_ W' ⟨he, hb⟩ => ?_
  subst he
  exact ⟨_, rfl, post_of_below (pa := p) (pv := []) hW' (fun _ _ _ => trodAll_mk1 (shut_bool Tryd.underlying4 true)) (fun sp hsp => trodAll_mk1 (code_back h0 hb (fun x hx => hlt x (by simp [hx])) (fun x hx => hsp x (by simp [hx])))) (fun _ _ => rfl) (by simp) hb (ok_one (by kernel_rfl) rfl (okWide_bool_mk Tryd.underlying4 true))⟩

theorem FnValueIn_holds : Rows.FnValueInSaid :=
  OpenClaim.holds_of_wide 8 Tryd.f8 rfl rfl rfl rfl rfl rfl rfl ⟨rfl, rfl, rfl, rfl, rfl⟩ rfl rfl rfl rfl rfl (by kernel_rfl) Tryd.func8 (by kernel_rfl)
    (of_decide_eq_true (by kernel_rfl)) (by unfold Func.isWrapper; first | (rw [if_pos (by decide +kernel)]; kernel_rfl) | (rw [if_neg (by decide +kernel)]; exact ⟨rfl, rfl⟩))
    (fun os started H enc _ => FnValueIn_lifted os started H enc)

theorem FnValueIn_card : Rows.FnValueInCardSaid :=
  Claim7.holds_tied_plain_at .later [] [.data, .data, .data] true (true, "e363af9c8ccf08111d76afdb434eccbbf8f49c4be77de3f1954de84d3780a304") false
    FnValueIn_holds (fun _ h => by cases h) (by kernel_rfl) (fun _ h => by cases h) fnValueIn_row_tie rfl ⟨rfl, rfl⟩ (by kernel_rfl) rfl
    (fun f fn hf hfn => by
      obtain rfl : f = 8 := Option.some.inj ((show Tryd.prog.funcNamed "loop.example/formatplans/laws.FnValueIn" = some 8 by kernel_rfl).symm.trans hf) |>.symm
      obtain rfl : fn = Tryd.f8 := (Option.some.inj (Tryd.func8.symm.trans hfn)).symm
      exact ⟨by kernel_rfl, fun j t ht => by
        rw [Tryd.params8] at ht
        have hm : t ∈ [39] := by simpa using Array.mem_of_getElem? ht
        have hall : ([39].all fun u => !Tryd.prog.wantsStandIn u) = true := by kernel_rfl
        exact (show Tryd.prog.wantsStandIn t = false by simpa using List.all_eq_true.1 hall t hm)⟩)
    (by kernel_rfl)
end Go.Proofs.YtkpdpohnbnpelaaDoor
