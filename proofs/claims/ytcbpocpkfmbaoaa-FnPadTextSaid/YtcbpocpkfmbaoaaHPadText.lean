/- Promise 41: proved for every input. No condition. -/
import Derived.Test.YtcbpocpkfmbaoaaT2
import Derived.Test.YtcbpocpkfmbaoaaTDP
import Derived.Test.YtcbpocpkfmbaoaaRC
namespace Go.Proofs.Ytcbpocpkfmbaoaa
open Go.ChangeShapes Go.WideShapes Go.ChangeAt Go.RowKit Go.Joins Go.ChangeMaps

theorem ext_mid (A B C : List UInt8) : (⟨(A ++ (B ++ C)).toArray⟩ : ByteArray).extract A.length (A.length + B.length) = ⟨B.toArray⟩ := by
  apply ByteArray.ext
  rw [ByteArray.data_extract]
  apply Array.ext'
  rw [Array.toList_extract]
  simp only [List.extract_eq_take_drop, List.toList_toArray]
  rw [List.drop_left, Nat.add_sub_cancel_left, List.take_left]
/-- what PadText gives: as wide as it must be, and the text in it -/
structure PadIs (s : ByteArray) (m : Nat) (L : List UInt8) (k at_ : Nat) : Prop where
  len : L.length = k + s.size
  wide : max m s.size = k + s.size
  le : at_ ≤ k
  cut : (⟨L.toArray⟩ : ByteArray).extract at_ (at_ + s.size) = s
theorem padL_is (s : ByteArray) (m : Nat) (c : UInt8) (a : Int) (ha : 1 ≤ a ∧ a ≤ 3) : PadIs s m (padL [] s.data.toList m c a) (m - s.size) (if a = 1 then 0 else if a = 2 then m - s.size else (m - s.size) / 2) := by
  have hz := lsize s
  have e := of_list s
  have hm : m - ([] : List UInt8).length - s.data.toList.length = m - s.size := by rw [hz]; rfl
  generalize s.data.toList = l at *
  subst e
  have hs : (⟨l.toArray⟩ : ByteArray).size = l.length := rfl
  rw [hs] at *
  have h3 : a = 1 ∨ a = 2 ∨ a = 3 := by omega
  have hq : (m - l.length) / 2 ≤ m - l.length := Nat.div_le_self _ _
  rcases h3 with rfl | rfl | rfl
  · unfold padL
    rw [if_pos rfl, if_pos rfl, hm]
    refine ⟨by simp only [List.length_append, rep_len, List.length_nil]; omega, by omega, by omega, ?_⟩
    have := ext_mid [] l (rep c (m - l.length))
    rw [show ([] : List UInt8).length = 0 from rfl] at this
    exact this
  · unfold padL
    rw [if_neg (by decide), if_neg (by decide), if_neg (by decide), if_neg (by decide), if_pos rfl, hm]
    refine ⟨by simp only [List.length_append, rep_len, List.length_nil]; omega, by omega, by omega, ?_⟩
    have := ext_mid (rep c (m - l.length)) l []
    rw [rep_len, List.append_nil] at this
    exact this
  · unfold padL
    rw [if_neg (by decide), if_pos rfl, if_neg (by decide), if_neg (by decide), hm]
    refine ⟨by simp only [List.length_append, rep_len, List.length_nil]; omega, by omega, by omega, ?_⟩
    have := ext_mid (rep c ((m - l.length) / 2)) l (rep c (m - l.length - (m - l.length) / 2))
    rw [rep_len] at this
    exact this

set_option maxRecDepth 100000 in
set_option maxHeartbeats 8000000 in
theorem FnPadText_law (s : Option Addr) (len cap : Nat) (w : World) (hcode : CodeAt s len w.heap.size w) (hcap : len ≤ cap) :
    Calls Try.prog 4 #[.slice s len cap] w fun r w' => r = .returned (.bool true) ∧ Below w.heap.size w w' := by
  by_cases hl : 1048576 < len
  · go_enter Try.func4, Try.ntmps4
    go_wp2
    go_ret
    exact ⟨rfl, (by repeat (first | with_reducible exact Below.refl _ _ | with_reducible assumption | with_reducible refine Below.setCell ?_ (by first | omega | (simp; done) | (simp <;> omega)) _ | with_reducible refine below_drewN ?_ _ | with_reducible refine Below.drew ?_ | with_reducible refine Below.alloc ?_ (by first | omega | (simp; done) | (simp <;> omega)) _))⟩
  go_enter Try.func4, Try.ntmps4
  go_wp2_with (go_at_call 14; (with_reducible refine Calls.mono (DrawPadText_any _ _ _ _ hcode hcap) ?_); rintro r w1 ⟨⟨T, wi, f, a, rfl, hT, hf⟩, hB⟩)
  have k1 := fun W => PadText_any T wi f a (by omega) W
  have k2 := fun W => PadTextS_any T wi f a (by omega) (by omega) W
  have hXX : ∀ l : List UInt8, (l != l) = false := fun l => by simp
  by_cases hX : padW T wi f a = ⟨#[]⟩
  · rw [hX] at k1 k2
    clear hX
    have K1 := Lib.hid k1; have K2 := Lib.hid k2
    clear k1 k2
    go_wp2_with (first | (go_at_call 15; (with_reducible refine Calls.mono (K1.out _) ?_); rintro r w1 ⟨rfl, hb⟩; replace hB := hB.trans (hb.mono hB.size)) | (go_at_call 16; (with_reducible refine Calls.mono (K2.out _) ?_); rintro r w1 ⟨rfl, hb⟩; replace hB := hB.trans (hb.mono hB.size)))
    all_goals go_ret
    all_goals exact ⟨rfl, hB⟩
  · have hok : padOk T wi f a = true := by
      rw [← Bool.not_eq_false]
      intro h
      exact hX (by unfold padW; rw [h]; rfl)
    have hP : padW T wi f a = ⟨(padL [] T.data.toList wi.toNat (hd1 f) a).toArray⟩ := by unfold padW; rw [hok]; rfl
    rw [hP] at hX k1 k2
    unfold padOk cpB at hok
    simp only [Bool.and_eq_true, inr, decide_eq_true_eq] at hok
    obtain ⟨⟨_, _, ha⟩, hw⟩ := hok
    obtain ⟨m, rfl⟩ := Int.eq_ofNat_of_zero_le hw.1
    rw [show ((m : Nat) : Int).toNat = m from rfl] at *
    have hI := padL_is T m (hd1 f) a ha
    have hne : (padL [] T.data.toList m (hd1 f) a).isEmpty = false := by
      cases h : padL [] T.data.toList m (hd1 f) a
      · rw [h] at hX; exact absurd rfl hX
      · rfl
    clear hX hP
    generalize padL [] T.data.toList m (hd1 f) a = L at *
    obtain ⟨i1, i2, i3, i4⟩ := hI
    have j0 : (L.length : Int) - T.size = ((m - T.size : Nat) : Int) := by omega
    have j1 : max (m : Int) (T.size : Int) = (L.length : Int) := by omega
    have hkk : m - T.size ≤ 30 := by omega
    have htd : ((m - T.size : Nat) : Int).tdiv 2 = (((m - T.size) / 2 : Nat) : Int) := tdivN (m - T.size) 2
    have hdv : ((m - T.size : Nat) : Int) / 2 = (((m - T.size) / 2 : Nat) : Int) := by omega
    have hq : (m - T.size) / 2 ≤ m - T.size := Nat.div_le_self _ _
    have h3 : a = 1 ∨ a = 2 ∨ a = 3 := by omega
    have hLb : L.length ≤ 100 := by omega
    generalize (m - T.size) / 2 = q at *
    generalize m - T.size = k at *
    have hsz : (⟨L.toArray⟩ : ByteArray).size = L.length := rfl
    have w1 : IntKind.i64.wrap (q : Int) = q := IntWalk.i64_in _ (by omega)
    have w2 : IntKind.i64.wrap (k : Int) = k := IntWalk.i64_in _ (by omega)
    have w3 : IntKind.i64.wrap ((q : Int) + T.size) = (q : Int) + T.size := IntWalk.i64_in _ (by omega)
    have w4 : IntKind.i64.wrap ((k : Int) + T.size) = (k : Int) + T.size := IntWalk.i64_in _ (by omega)
    have hTT : (T.toList == T.toList) = true := by simp
    clear hw i2
    rcases h3 with rfl | rfl | rfl
    · rw [if_pos rfl] at i3 i4
      rw [Nat.zero_add] at i4
      have K1 := Lib.hid k1; have K2 := Lib.hid k2
      clear k1 k2
      go_wp2_with (first | (go_at_call 15; (with_reducible refine Calls.mono (K1.out _) ?_); rintro r w1 ⟨rfl, hb⟩; replace hB := hB.trans (hb.mono hB.size)) | (go_at_call 16; (with_reducible refine Calls.mono (K2.out _) ?_); rintro r w1 ⟨rfl, hb⟩; replace hB := hB.trans (hb.mono hB.size)))
      all_goals trace_state
      all_goals go_ret
      all_goals exact ⟨rfl, hB⟩
    · rw [if_neg (by decide), if_pos rfl] at i3 i4
      have K1 := Lib.hid k1; have K2 := Lib.hid k2
      clear k1 k2
      go_wp2_with (first | (go_at_call 15; (with_reducible refine Calls.mono (K1.out _) ?_); rintro r w1 ⟨rfl, hb⟩; replace hB := hB.trans (hb.mono hB.size)) | (go_at_call 16; (with_reducible refine Calls.mono (K2.out _) ?_); rintro r w1 ⟨rfl, hb⟩; replace hB := hB.trans (hb.mono hB.size)))
      all_goals go_ret
      all_goals exact ⟨rfl, hB⟩
    · rw [if_neg (by decide), if_neg (by decide)] at i3 i4
      have K1 := Lib.hid k1; have K2 := Lib.hid k2
      clear k1 k2
      go_wp2_with (first | (go_at_call 15; (with_reducible refine Calls.mono (K1.out _) ?_); rintro r w1 ⟨rfl, hb⟩; replace hB := hB.trans (hb.mono hB.size)) | (go_at_call 16; (with_reducible refine Calls.mono (K2.out _) ?_); rintro r w1 ⟨rfl, hb⟩; replace hB := hB.trans (hb.mono hB.size)))
      all_goals go_ret
      all_goals exact ⟨rfl, hB⟩

set_option maxRecDepth 100000 in
theorem FnPadText_lifted (os : Os) (started : os.Started) (H : Type) (enc : TypeId × Value → H) :
    ReturnsInHanded {} Try.checked os 4 .any (Rows.fnPadTextSpec.pre6 enc Try.prog Try.f4 Rows.fnPadTextRow.domain false) (Rows.fnPadTextSpec.post enc Try.prog Try.f4 false true false false) := by
  refine returnsInHanded_of_change (C := Try.checked) Try.own started (by kernel_rfl) Try.func4
    (ChangeSpec.witness6 (enc := enc) (C := Try.checked) false ⟨#[], #[.slice none 0 0], []⟩ 8 (by kernel_rfl) (by kernel_rfl) (by kernel_rfl) (by kernel_rfl)) ?_
  intro W base args ds gs before hval0 hW hcnd _
  have hval : ∀ (j : Nat) t v, Try.f4.params[j]? = some t → args[j]? = some v → Value.okWide Try.prog W .any base t v := hval0
  have hW' := hW
  obtain ⟨p, q, hA0, hV, rfl, hfz, hnd⟩ := hW
  have hA : DataW.TrodAll enc Try.prog W 0 (fun _ => true) true Try.f4.params.toList args.toList ds p := hA0
  rw [Try.params4] at hA hval
  obtain ⟨v0, d0, rfl, rfl, h0⟩ := trodAll_one hA
  obtain ⟨rfl, rfl⟩ := trodVars_none hV
  obtain ⟨s, len, cap, rfl, hcap, hcode⟩ := open_code (hval 0 22 v0 rfl rfl) h0
  clear hA0 hval0
  have hlt := fun x hx => hW'.lt x hx
  refine (FnPadText_law s len cap W hcode hcap).mono fun e_ W' ⟨he, hb⟩ => ?_
  subst he
  exact ⟨_, rfl, post_of_below (pa := p) (pv := []) hW' (fun _ _ _ => trodAll_mk1 (shut_bool Try.underlying4 true)) (fun sp hsp => trodAll_mk1 (code_back h0 hb (fun x hx => hlt x (by simp [hx])) (fun x hx => hsp x (by simp [hx])))) (fun _ _ => rfl) (by simp) hb (ok_one (by kernel_rfl) rfl (okWide_bool_mk Try.underlying4 true))⟩

theorem FnPadText_holds : Rows.FnPadTextSaid :=
  OpenClaim.holds_of_wide 4 Try.f4 rfl rfl rfl rfl rfl rfl rfl ⟨rfl, rfl, rfl, rfl, rfl⟩ rfl rfl rfl rfl rfl (by kernel_rfl) Try.func4 (by kernel_rfl)
    (of_decide_eq_true (by kernel_rfl)) (by unfold Func.isWrapper; first | (rw [if_pos (by decide +kernel)]; kernel_rfl) | (rw [if_neg (by decide +kernel)]; exact ⟨rfl, rfl⟩))
    (fun os started H enc _ => FnPadText_lifted os started H enc)
end Go.Proofs.Ytcbpocpkfmbaoaa
