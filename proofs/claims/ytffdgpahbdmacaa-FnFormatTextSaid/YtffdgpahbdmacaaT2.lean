import Derived.Test.YtffdgpahbdmacaaT1
import Derived.Test.YtffdgpahbdmacaaZ3
namespace Go.Proofs.Ytffdgpahbdmacaa
open Go.RowKit
theorem lsize (s : ByteArray) : s.data.toList.length = s.size := by rw [Array.length_toList]; rfl
/-- one printable byte -/
def oneP (f : ByteArray) : Bool := match f.data.toList with | [b] => okByte b | _ => false
def hd1 (f : ByteArray) : UInt8 := f.data.toList.headD 0
theorem oneP_two {f : ByteArray} (h : 2 ≤ f.size) : oneP f = false := by
  obtain ⟨⟨l⟩⟩ := f
  match l, h with
  | _ :: _ :: _, _ => rfl
theorem oneP_cases {f : ByteArray} (h : oneP f = true) : ∃ b, f = ⟨#[b]⟩ ∧ okByte b = true ∧ hd1 f = b := by
  rcases bytes_cases f with rfl | ⟨b, rfl⟩ | h2
  · cases h
  · exact ⟨b, rfl, h, rfl⟩
  · rw [oneP_two h2] at h; cases h
theorem isPrintable_any (f : ByteArray) (w : World) : Calls Try.prog 80 #[.string f] w fun r w' => r = .returned (.bool (oneP f)) ∧ w = w' := by
  rcases bytes_cases f with rfl | ⟨b, rfl⟩ | h
  · exact isPrintable_no _ (by decide) w
  · exact isPrintable_one b w
  · rw [oneP_two h]
    exact isPrintable_no f (by omega) w
theorem isSide_any (a : Int) (w : World) : Calls Try.prog 84 #[.int .i64 a] w fun r w' => r = .returned (.bool (inr a 1 3)) ∧ w = w' := by
  have k1 := fun W => within_any a 1 3 W
  generalize inr a 1 3 = b at *
  have K1 := Lib.hid k1
  clear k1
  go_enter Try.func84, Try.ntmps84
  go_wp2_with (go_at_call 49; (with_reducible refine Calls.mono (K1.out _) ?_); rintro r w1 ⟨rfl, rfl⟩)
  all_goals go_ret
  all_goals exact ⟨rfl, rfl⟩
def cpB (s f : ByteArray) (a : Int) : Bool := vtB s && (oneP f && inr a 1 3)
theorem canPad_any (s f : ByteArray) (a : Int) (hs : s.size ≤ 9223372036854775807) (w : World) :
    Calls Try.prog 60 #[.string s, .string f, .int .i64 a] w fun r w' => r = .returned (.bool (cpB s f a)) ∧ w = w' := by
  have k1 := fun W => ValidText_any s hs W
  have k2 := fun W => isPrintable_any f W
  have k3 := fun W => isSide_any a W
  unfold cpB
  generalize vtB s = b1 at *
  generalize oneP f = b2 at *
  generalize inr a 1 3 = b3 at *
  have K1 := Lib.hid k1; have K2 := Lib.hid k2; have K3 := Lib.hid k3
  clear k1 k2 k3
  go_enter Try.func60, Try.ntmps60
  go_wp2_with (first | (go_at_call 21; (with_reducible refine Calls.mono (K1.out _) ?_); rintro r w1 ⟨rfl, rfl⟩) | (go_at_call 80; (with_reducible refine Calls.mono (K2.out _) ?_); rintro r w1 ⟨rfl, rfl⟩) | (go_at_call 84; (with_reducible refine Calls.mono (K3.out _) ?_); rintro r w1 ⟨rfl, rfl⟩))
  all_goals go_ret
  all_goals exact ⟨ret_bool (by simp_all), rfl⟩
theorem vtB_size {s : ByteArray} (h : vtB s = true) : s.size ≤ 80 := by
  unfold vtB at h
  simp only [Bool.and_eq_true, decide_eq_true_eq] at h
  exact h.1
def padOk (s : ByteArray) (wi : Int) (f : ByteArray) (a : Int) : Bool := cpB s f a && inr wi 0 30
def padW (s : ByteArray) (wi : Int) (f : ByteArray) (a : Int) : ByteArray := if padOk s wi f a then ⟨(padL [] s.data.toList wi.toNat (hd1 f) a).toArray⟩ else ⟨#[]⟩
set_option maxRecDepth 100000 in
set_option maxHeartbeats 4000000 in
theorem PadText_any (s : ByteArray) (wi : Int) (f : ByteArray) (a : Int) (hs : s.size ≤ 9223372036854775807) (w : World) :
    Calls Try.prog 22 #[.string s, .int .i64 wi, .string f, .int .i64 a] w fun r w' => r = .returned (.string (padW s wi f a)) ∧ Below w.heap.size w w' := by
  have k1 := fun W => mBn (canPad_any s f a hs W)
  have k2 := fun W => mBn (within_any wi 0 30 W)
  have hB := Below.refl w.heap.size w
  cases h1 : cpB s f a
  · rw [show padW s wi f a = ⟨#[]⟩ by unfold padW padOk; rw [h1]; rfl]
    rw [h1] at k1
    have K1 := Lib.hid k1
    clear k1 k2 h1
    go_enter Try.func22, Try.ntmps22
    go_wp2_with (first | (go_at_call 60; (with_reducible refine Calls.mono (K1.out _) ?_); rintro r w1 ⟨rfl, hb⟩; replace hB := hB.trans (hb.mono hB.size)))
    all_goals go_ret
    all_goals exact ⟨rfl, hB⟩
  · cases h2 : inr wi 0 30
    · rw [show padW s wi f a = ⟨#[]⟩ by unfold padW padOk; rw [h2, Bool.and_false]; rfl]
      rw [h1] at k1
      rw [h2] at k2
      have K1 := Lib.hid k1; have K2 := Lib.hid k2
      clear k1 k2 h1 h2
      go_enter Try.func22, Try.ntmps22
      go_wp2_with (first | (go_at_call 60; (with_reducible refine Calls.mono (K1.out _) ?_); rintro r w1 ⟨rfl, hb⟩; replace hB := hB.trans (hb.mono hB.size)) | (go_at_call 49; (with_reducible refine Calls.mono (K2.out _) ?_); rintro r w1 ⟨rfl, hb⟩; replace hB := hB.trans (hb.mono hB.size)))
      all_goals go_ret
      all_goals exact ⟨rfl, hB⟩
    · rw [show padW s wi f a = ⟨(padL [] s.data.toList wi.toNat (hd1 f) a).toArray⟩ by unfold padW padOk; rw [h1, h2]; rfl]
      rw [h1] at k1
      rw [h2] at k2
      unfold cpB at h1
      simp only [Bool.and_eq_true] at h1
      obtain ⟨c, rfl, _, hc⟩ := oneP_cases h1.2.1
      rw [hc]
      have hz := vtB_size h1.1
      have hw : 0 ≤ wi ∧ wi ≤ 30 := by simpa [inr] using h2
      have ha : 1 ≤ a ∧ a ≤ 3 := by simpa [inr] using h1.2.2
      obtain ⟨m, rfl⟩ := Int.eq_ofNat_of_zero_le hw.1
      rw [show ((m : Nat) : Int).toNat = m from rfl]
      have e := of_list s
      have hzl := lsize s
      have k3 : ∀ W, Calls Try.prog 61 #[.string ⟨#[]⟩, .string s, .int .i64 m, .string ⟨#[c]⟩, .int .i64 a] W fun r w' => r = .returned (.string ⟨(padL [] s.data.toList m c a).toArray⟩) ∧ Below W.heap.size W w' := by
        intro W
        have := filled_any [] s.data.toList m c a W (by decide) (by omega) (by omega) (by omega)
        rw [← e] at this
        exact this
      generalize padL [] s.data.toList m c a = R at *
      have K1 := Lib.hid k1; have K2 := Lib.hid k2; have K3 := Lib.hid k3
      clear k1 k2 k3 h1 h2 e
      go_enter Try.func22, Try.ntmps22
      go_wp2_with (first | (go_at_call 60; (with_reducible refine Calls.mono (K1.out _) ?_); rintro r w1 ⟨rfl, hb⟩; replace hB := hB.trans (hb.mono hB.size)) | (go_at_call 49; (with_reducible refine Calls.mono (K2.out _) ?_); rintro r w1 ⟨rfl, hb⟩; replace hB := hB.trans (hb.mono hB.size)) | (go_at_call 61; (with_reducible refine Calls.mono (K3.out _) ?_); rintro r w1 ⟨rfl, hb⟩; replace hB := hB.trans (hb.mono hB.size)))
      all_goals go_ret
      all_goals exact ⟨rfl, hB⟩
end Go.Proofs.Ytffdgpahbdmacaa
