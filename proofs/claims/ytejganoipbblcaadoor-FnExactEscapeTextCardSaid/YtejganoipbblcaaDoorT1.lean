import Derived.Test.YtejganoipbblcaaDoorTB
import Derived.Handy
namespace Go.Proofs.YtejganoipbblcaaDoor
open Go.RowKit
/-- all bytes are printable -/
def prL (l : List UInt8) : Bool := l.all okByte
theorem at_drop {s : ByteArray} {k : Nat} (h : k < s.size) : s.data.toList.drop k = s[k] :: s.data.toList.drop (k + 1) := by
  have h' : k < s.data.toList.length := by rw [Array.length_toList]; exact h
  rw [List.drop_eq_getElem_cons h']
  rfl
theorem at_end {s : ByteArray} {k : Nat} (h : s.size ≤ k) : s.data.toList.drop k = [] :=
  List.drop_eq_nil_of_le (by rw [Array.length_toList]; exact h)
theorem prL_at {s : ByteArray} {k : Nat} (h : k < s.size) : prL (s.data.toList.drop k) = (okByte s[k] && prL (s.data.toList.drop (k + 1))) := by rw [at_drop h]; rfl
theorem prL_end {s : ByteArray} {k : Nat} (h : s.size ≤ k) : prL (s.data.toList.drop k) = true := by rw [at_end h]; rfl
set_option maxRecDepth 100000 in
set_option maxHeartbeats 2000000 in
theorem allPrintable_any (s : ByteArray) (hs : s.size ≤ 9223372036854775807) (w : World) :
    Calls Tryd.prog 47 #[.string s] w fun r w' => r = .returned (.bool (prL s.data.toList)) ∧ w = w' := by
  go_enter Tryd.func47, Tryd.ntmps47
  go_wp2
  go_loopg [6] s.size (fun g s4 wr => ∃ k : Nat, wr = w ∧ s4 = .int .i64 k ∧ k ≤ s.size ∧ Aside (prL (s.data.toList.drop k) = prL s.data.toList) ∧ Aside (g = s.size - k))
  case atStart => exact ⟨0, rfl, rfl, by omega, by show _ = _; rw [List.drop_zero], by show _ = _; omega⟩
  case round =>
    obtain ⟨k, rfl, rfl, hk, hv, hg⟩ := hrel
    have hg' := hg.out
    have hv' := hv.out
    clear hg hv
    by_cases hlt : k < s.size
    · have i1 : (k : Int) < s.size := by omega
      have i2 : (k : Int) + 1 ≤ s.size := by omega
      have kp := fun W => isPrintable_one s[k] W
      rw [← ext_one hlt] at kp
      rw [prL_at hlt] at hv'
      cases hc : okByte s[k]
      · rw [hc] at kp hv'
        have HV := Lib.hid hv'; have KP := Lib.hid kp
        clear hv' kp hc
        go_wp2_with (go_at_call 64; (with_reducible refine Calls.mono (KP.out _) ?_); rintro r w1 ⟨rfl, rfl⟩)
        all_goals go_ret
        all_goals exact ⟨ret_bool HV.out, rfl⟩
      · rw [hc] at kp hv'
        have HV := Lib.hid hv'; have KP := Lib.hid kp
        clear hv' kp hc
        go_wp2_with (go_at_call 64; (with_reducible refine Calls.mono (KP.out _) ?_); rintro r w1 ⟨rfl, rfl⟩)
        go_roundg (s.size - (k + 1))
        case measure => omega
        case rel => exact ⟨k + 1, rfl, by go_num, by omega, HV.out, rfl⟩
    · have i1 : ¬ (k : Int) < s.size := by omega
      rw [prL_end (by omega)] at hv'
      have HV := Lib.hid hv'
      clear hv'
      go_wp2
      all_goals go_ret
      all_goals exact ⟨ret_bool HV.out, rfl⟩
set_option maxRecDepth 100000 in
set_option maxHeartbeats 2000000 in
theorem printableS_any (s : ByteArray) (hs : s.size ≤ 9223372036854775807) (w : World) :
    Calls Tryd.prog 46 #[.string s] w fun r w' => r = .returned (.bool (prL s.data.toList)) ∧ w = w' := by
  go_enter Tryd.func46, Tryd.ntmps46
  go_wp2
  go_loopg [3] s.size (fun g s4 wr => ∃ k : Nat, wr = w ∧ s4 = .int .i64 k ∧ k ≤ s.size ∧ Aside (prL (s.data.toList.drop k) = prL s.data.toList) ∧ Aside (g = s.size - k))
  case atStart => exact ⟨0, rfl, rfl, by omega, by show _ = _; rw [List.drop_zero], by show _ = _; omega⟩
  case round =>
    obtain ⟨k, rfl, rfl, hk, hv, hg⟩ := hrel
    have hg' := hg.out
    have hv' := hv.out
    clear hg hv
    by_cases hlt : k < s.size
    · have i1 : (k : Int) < s.size := by omega
      rw [prL_at hlt, okByte_nat] at hv'
      have HV := Lib.hid hv'
      clear hv'
      by_cases hc : 32 ≤ s[k].toNat ∧ s[k].toNat ≤ 126
      · have e1 := hc.1
        have e2 := hc.2
        go_wp2
        go_roundg (s.size - (k + 1))
        case measure => omega
        case rel => exact ⟨k + 1, rfl, by go_num, by omega, by have := HV.out; rw [decide_eq_true e1, decide_eq_true e2] at this; exact this, rfl⟩
      · have hd : (decide (32 ≤ s[k].toNat) && decide (s[k].toNat ≤ 126)) = false := by simp; omega
        go_wp2
        all_goals go_ret
        all_goals exact ⟨ret_bool (by have := HV.out; rw [hd] at this; exact this), rfl⟩
    · have i1 : ¬ (k : Int) < s.size := by omega
      rw [prL_end (by omega)] at hv'
      have HV := Lib.hid hv'
      clear hv'
      go_wp2
      all_goals go_ret
      all_goals exact ⟨ret_bool HV.out, rfl⟩
/-- a text that can be written -/
def vtB (s : ByteArray) : Bool := decide (s.size ≤ 80) && prL s.data.toList
set_option maxHeartbeats 2000000 in
theorem ValidText_any (s : ByteArray) (hs : s.size ≤ 9223372036854775807) (w : World) :
    Calls Tryd.prog 27 #[.string s] w fun r w' => r = .returned (.bool (vtB s)) ∧ w = w' := by
  have k1 := fun W => allPrintable_any s hs W
  unfold vtB
  generalize prL s.data.toList = b at *
  have K1 := Lib.hid k1
  clear k1
  by_cases h : s.size ≤ 80
  · have i1 : (s.size : Int) ≤ 80 := by omega
    rw [decide_eq_true h]
    go_enter Tryd.func27, Tryd.ntmps27
    go_wp2_with (go_at_call 47; (with_reducible refine Calls.mono (K1.out _) ?_); rintro r w1 ⟨rfl, rfl⟩)
    all_goals go_ret
    all_goals exact ⟨ret_bool (by simp), rfl⟩
  · have i1 : ¬ (s.size : Int) ≤ 80 := by omega
    rw [decide_eq_false h]
    go_enter Tryd.func27, Tryd.ntmps27
    go_wp2_with (go_at_call 47; (with_reducible refine Calls.mono (K1.out _) ?_); rintro r w1 ⟨rfl, rfl⟩)
    all_goals go_ret
    all_goals exact ⟨ret_bool (by simp), rfl⟩
set_option maxHeartbeats 2000000 in
theorem validTextS_any (s : ByteArray) (hs : s.size ≤ 9223372036854775807) (w : World) :
    Calls Tryd.prog 25 #[.string s] w fun r w' => r = .returned (.bool (vtB s)) ∧ w = w' := by
  have k1 := fun W => printableS_any s hs W
  unfold vtB
  generalize prL s.data.toList = b at *
  have K1 := Lib.hid k1
  clear k1
  by_cases h : s.size ≤ 80
  · have i1 : (s.size : Int) ≤ 80 := by omega
    rw [decide_eq_true h]
    go_enter Tryd.func25, Tryd.ntmps25
    go_wp2_with (go_at_call 46; (with_reducible refine Calls.mono (K1.out _) ?_); rintro r w1 ⟨rfl, rfl⟩)
    all_goals go_ret
    all_goals exact ⟨ret_bool (by simp), rfl⟩
  · have i1 : ¬ (s.size : Int) ≤ 80 := by omega
    rw [decide_eq_false h]
    go_enter Tryd.func25, Tryd.ntmps25
    go_wp2_with (go_at_call 46; (with_reducible refine Calls.mono (K1.out _) ?_); rintro r w1 ⟨rfl, rfl⟩)
    all_goals go_ret
    all_goals exact ⟨ret_bool (by simp), rfl⟩
end Go.Proofs.YtejganoipbblcaaDoor
