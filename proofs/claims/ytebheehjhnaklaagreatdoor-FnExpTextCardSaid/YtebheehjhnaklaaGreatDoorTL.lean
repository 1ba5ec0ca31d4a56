import Derived.Test.YtebheehjhnaklaaGreatDoorW0
import Derived.Test.YtebheehjhnaklaaGreatDoorY10
import Derived.Test.YtebheehjhnaklaaGreatDoorN6
import Derived.Test.YtebheehjhnaklaaGreatDoorZ3
import Derived.Test.YtebheehjhnaklaaGreatDoorC3T
import Derived.Handy
namespace Go.Proofs.YtebheehjhnaklaaGreatDoor
open Go.RowKit
end Go.Proofs.YtebheehjhnaklaaGreatDoor
namespace Go.Proofs.YtebheehjhnaklaaGreatDoor
open Go.RowKit
theorem at_drop {s : ByteArray} {k : Nat} (h : k < s.size) : s.data.toList.drop k = s[k] :: s.data.toList.drop (k + 1) := by
  have h' : k < s.data.toList.length := by rw [Array.length_toList]; exact h
  rw [List.drop_eq_getElem_cons h']
  rfl
theorem at_end {s : ByteArray} {k : Nat} (h : s.size ≤ k) : s.data.toList.drop k = [] :=
  List.drop_eq_nil_of_le (by rw [Array.length_toList]; exact h)
end Go.Proofs.YtebheehjhnaklaaGreatDoor
namespace Go.Proofs.YtebheehjhnaklaaGreatDoor
open Go.RowKit
theorem lsize (s : ByteArray) : s.data.toList.length = s.size := by rw [Array.length_toList]; rfl
def hd1 (f : ByteArray) : UInt8 := f.data.toList.headD 0
end Go.Proofs.YtebheehjhnaklaaGreatDoor
namespace Go.Proofs.YtebheehjhnaklaaGreatDoor
open Go.RowKit
/-- without a byte at its beginning -/
def trL (c : UInt8) (l : List UInt8) : List UInt8 := l.dropWhile (fun b => b == c)
/-- without a byte at its end -/
def trR (c : UInt8) (l : List UInt8) : List UInt8 := (trL c l.reverse).reverse
def trLB (c : UInt8) (s : ByteArray) : ByteArray := ⟨(trL c s.data.toList).toArray⟩
def trRB (c : UInt8) (s : ByteArray) : ByteArray := ⟨(trR c s.data.toList).toArray⟩
theorem trLB_nil (c : UInt8) : trLB c ⟨#[]⟩ = ⟨#[]⟩ := rfl
theorem trRB_nil (c : UInt8) : trRB c ⟨#[]⟩ = ⟨#[]⟩ := rfl
theorem sz0 {s : ByteArray} (h : s.size = 0) : s = ⟨#[]⟩ := by
  rcases bytes_cases s with h' | ⟨b, rfl⟩ | h'
  · exact h'
  · exact absurd h (by simp [ByteArray.size])
  · omega
theorem ext1 (s : ByteArray) : (s.extract 1 s.size).data.toList = s.data.toList.drop 1 := by
  have := ext_drop 1 s.data.toList
  rw [← of_list s, lsize] at this
  rw [this]
theorem ext0 (s : ByteArray) (k : Nat) : (s.extract 0 k).data.toList = s.data.toList.take k := by
  have := ext_take k s.data.toList
  rw [← of_list s] at this
  rw [this]
theorem trL_step (c : UInt8) {s : ByteArray} (h : 0 < s.size) (e : s[0] = c) : trLB c (s.extract 1 s.size) = trLB c s := by
  have hd := at_drop h
  rw [List.drop_zero] at hd
  unfold trLB
  rw [ext1, hd, e]
  unfold trL
  simp
theorem trL_stop (c : UInt8) {s : ByteArray} (h : 0 < s.size) (e : ¬ s[0] = c) : trLB c s = s := by
  have hd := at_drop h
  rw [List.drop_zero] at hd
  have : trL c s.data.toList = s.data.toList := by
    rw [hd]
    unfold trL
    have hb : (s[0] == c) = false := by simpa using e
    rw [List.dropWhile_cons_of_neg (by rw [hb]; decide)]
  unfold trLB
  rw [this, ← of_list s]
theorem snoc_at {s : ByteArray} (h : 0 < s.size) : s.data.toList = s.data.toList.take (s.size - 1) ++ [s[s.size - 1]] := by
  have h1 := List.take_append_drop (s.size - 1) s.data.toList
  rw [at_drop (s := s) (k := s.size - 1) (by omega), at_end (s := s) (k := s.size - 1 + 1) (by omega)] at h1
  exact h1.symm
theorem trR_step (c : UInt8) {s : ByteArray} (h : 0 < s.size) (e : s[s.size - 1] = c) : trRB c (s.extract 0 (s.size - 1)) = trRB c s := by
  unfold trRB
  rw [ext0]
  conv => rhs; rw [snoc_at h]
  unfold trR trL
  rw [List.reverse_append, e]
  simp
theorem trR_stop (c : UInt8) {s : ByteArray} (h : 0 < s.size) (e : ¬ s[s.size - 1] = c) : trRB c s = s := by
  have : trR c s.data.toList = s.data.toList := by
    rw [snoc_at h]
    unfold trR trL
    rw [List.reverse_append]
    have hb : (s[s.size - 1] == c) = false := by simpa using e
    simp [hb]
  unfold trRB
  rw [this, ← of_list s]
theorem trR_size (c : UInt8) (s : ByteArray) : (trRB c s).size ≤ s.size := by
  show (trR c s.data.toList).length ≤ s.size
  unfold trR trL
  rw [List.length_reverse]
  have := (List.dropWhile_suffix (fun b => b == c) (l := s.data.toList.reverse)).length_le
  rw [List.length_reverse, lsize] at this
  exact this
theorem beq_u8 {a b : UInt8} : ((a.toNat : Int) == (b.toNat : Int)) = decide (a = b) := by
  rw [Bool.eq_iff_iff]
  simp only [beq_iff_eq, decide_eq_true_eq]
  exact ⟨fun h => UInt8.toNat_inj.1 (by omega), fun h => by rw [h]⟩
set_option maxRecDepth 100000 in
set_option maxHeartbeats 2000000 in
theorem trimLeftByte_any (s : ByteArray) (c : UInt8) (_hs : s.size ≤ 9223372036854775807) (w : World) :
    Calls Tryz.prog 221 #[.string s, .int .u8 c.toNat] w fun r w' => r = .returned (.string (trLB c s)) ∧ w = w' := by
  go_enter Tryz.func221, Tryz.ntmps221
  go_wp2
  go_loopg [0] s.size (fun g s0 wr => ∃ T : ByteArray, wr = w ∧ s0 = .string T ∧ T.size ≤ s.size ∧ Aside (trLB c T = trLB c s) ∧ Aside (g = T.size))
  case atStart => exact ⟨s, rfl, rfl, Nat.le_refl _, by show _ = _; rfl, by show _ = _; rfl⟩
  case round =>
    obtain ⟨T, rfl, rfl, hk, hv, hg⟩ := hrel
    have hg' := hg.out
    have hv' := hv.out
    clear hg hv
    by_cases h0 : T.size = 0
    · obtain rfl := sz0 h0
      rw [trLB_nil] at hv'
      have HV := Lib.hid hv'
      clear hv'
      go_wp2
      all_goals go_ret
      all_goals exact ⟨ret_str HV.out, rfl⟩
    · have hp : 0 < T.size := by omega
      have hq := beq_u8 (a := T[0]) (b := c)
      by_cases hc : T[0] = c
      · have hst := trL_step c hp hc
        rw [hv'] at hst
        rw [decide_eq_true hc] at hq
        have HV := Lib.hid hst
        clear hst hv' hc
        go_wp2
        go_roundg (T.size - 1)
        case measure => omega
        case rel => exact ⟨T.extract 1 T.size, rfl, rfl, by rw [ByteArray.size_extract]; omega, HV.out, by show _ = _; rw [ByteArray.size_extract]; omega⟩
      · have hst := trL_stop c hp hc
        rw [hv'] at hst
        rw [decide_eq_false hc] at hq
        have HV := Lib.hid hst
        clear hst hv' hc
        go_wp2
        all_goals go_ret
        all_goals exact ⟨ret_str HV.out.symm, rfl⟩
set_option maxRecDepth 100000 in
set_option maxHeartbeats 2000000 in
theorem trimRightByte_any (s : ByteArray) (c : UInt8) (hs : s.size ≤ 9223372036854775807) (w : World) :
    Calls Tryz.prog 105 #[.string s, .int .u8 c.toNat] w fun r w' => r = .returned (.string (trRB c s)) ∧ w = w' := by
  go_enter Tryz.func105, Tryz.ntmps105
  go_wp2
  go_loopg [0] s.size (fun g s0 wr => ∃ T : ByteArray, wr = w ∧ s0 = .string T ∧ T.size ≤ s.size ∧ Aside (trRB c T = trRB c s) ∧ Aside (g = T.size))
  case atStart => exact ⟨s, rfl, rfl, Nat.le_refl _, by show _ = _; rfl, by show _ = _; rfl⟩
  case round =>
    obtain ⟨T, rfl, rfl, hk, hv, hg⟩ := hrel
    have hg' := hg.out
    have hv' := hv.out
    clear hg hv
    by_cases h0 : T.size = 0
    · obtain rfl := sz0 h0
      rw [trRB_nil] at hv'
      have HV := Lib.hid hv'
      clear hv'
      go_wp2
      all_goals go_ret
      all_goals exact ⟨ret_str HV.out, rfl⟩
    · have hp : 0 < T.size := by omega
      have hq := beq_u8 (a := T[T.size - 1]) (b := c)
      by_cases hc : T[T.size - 1] = c
      · have hst := trR_step c hp hc
        rw [hv'] at hst
        rw [decide_eq_true hc] at hq
        have HV := Lib.hid hst
        clear hst hv' hc
        go_wp2
        go_roundg (T.size - 1)
        case measure => omega
        case rel => exact ⟨T.extract 0 (T.size - 1), rfl, rfl, by rw [ByteArray.size_extract]; omega, HV.out, by show _ = _; rw [ByteArray.size_extract]; omega⟩
      · have hst := trR_stop c hp hc
        rw [hv'] at hst
        rw [decide_eq_false hc] at hq
        have HV := Lib.hid hst
        clear hst hv' hc
        go_wp2
        all_goals go_ret
        all_goals exact ⟨ret_str HV.out.symm, rfl⟩
set_option maxRecDepth 100000 in
set_option maxHeartbeats 2000000 in
theorem TrimLeft_one (s : ByteArray) (c : UInt8) (hc : c.toNat < 128) (hs : s.size ≤ 9223372036854775807) (w : World) :
    Calls Tryz.prog 164 #[.string s, .string ⟨#[c]⟩] w fun r w' => r = .returned (.string (trLB c s)) ∧ w = w' := by
  by_cases h0 : s.size = 0
  · obtain rfl := sz0 h0
    rw [trLB_nil]
    go_enter Tryz.func164, Tryz.ntmps164
    go_wp2
    all_goals go_ret
    all_goals exact ⟨rfl, rfl⟩
  · have hne : s.toList.isEmpty = false := nonempty_list (by omega)
    have k1 := fun W => trimLeftByte_any s c hs W
    have K1 := Lib.hid k1
    have i1 : (c.toNat : Int) < 128 := by omega
    have e0 : ((⟨#[c]⟩ : ByteArray)[0]'(by simp [ByteArray.size])) = c := rfl
    clear k1
    go_enter Tryz.func164, Tryz.ntmps164
    go_wp2_with (go_at_call 221; (with_reducible refine Calls.mono (K1.out _) ?_); rintro r w1 ⟨rfl, rfl⟩)
    all_goals go_ret
    all_goals exact ⟨rfl, rfl⟩
set_option maxRecDepth 100000 in
set_option maxHeartbeats 2000000 in
theorem TrimRight_one (s : ByteArray) (c : UInt8) (hc : c.toNat < 128) (hs : s.size ≤ 9223372036854775807) (w : World) :
    Calls Tryz.prog 56 #[.string s, .string ⟨#[c]⟩] w fun r w' => r = .returned (.string (trRB c s)) ∧ w = w' := by
  by_cases h0 : s.size = 0
  · obtain rfl := sz0 h0
    rw [trRB_nil]
    go_enter Tryz.func56, Tryz.ntmps56
    go_wp2
    all_goals go_ret
    all_goals exact ⟨rfl, rfl⟩
  · have hne : s.toList.isEmpty = false := nonempty_list (by omega)
    have k1 := fun W => trimRightByte_any s c hs W
    have K1 := Lib.hid k1
    have i1 : (c.toNat : Int) < 128 := by omega
    have e0 : ((⟨#[c]⟩ : ByteArray)[0]'(by simp [ByteArray.size])) = c := rfl
    clear k1
    go_enter Tryz.func56, Tryz.ntmps56
    go_wp2_with (go_at_call 105; (with_reducible refine Calls.mono (K1.out _) ?_); rintro r w1 ⟨rfl, rfl⟩)
    all_goals go_ret
    all_goals exact ⟨rfl, rfl⟩
set_option maxRecDepth 100000 in
set_option maxHeartbeats 2000000 in
theorem Trim_one (s : ByteArray) (c : UInt8) (hc : c.toNat < 128) (hs : s.size ≤ 9223372036854775807) (w : World) :
    Calls Tryz.prog 205 #[.string s, .string ⟨#[c]⟩] w fun r w' => r = .returned (.string (trLB c (trRB c s))) ∧ Below w.heap.size w w' := by
  have hB := Below.refl w.heap.size w
  by_cases h0 : s.size = 0
  · obtain rfl := sz0 h0
    rw [trRB_nil, trLB_nil]
    go_enter Tryz.func205, Tryz.ntmps205
    go_wp2
    all_goals go_ret
    all_goals exact ⟨rfl, hB⟩
  · have hne : s.toList.isEmpty = false := nonempty_list (by omega)
    have k1 := fun W => trimRightByte_any s c hs W
    have k2 := fun W => trimLeftByte_any (trRB c s) c (by have := trR_size c s; omega) W
    generalize trRB c s = X at *
    have K1 := Lib.hid k1; have K2 := Lib.hid k2
    have i1 : (c.toNat : Int) < 128 := by omega
    have e0 : ((⟨#[c]⟩ : ByteArray)[0]'(by simp [ByteArray.size])) = c := rfl
    clear k1 k2
    go_enter Tryz.func205, Tryz.ntmps205
    go_wp2
    refine wp_region_since (by kernel_rfl) (by kernel_rfl) ?_
    repeat (quiet_step (first | (go_at_call 105; with_reducible exact Calls.since_of (mBn (K1.out _))) | (go_at_call 221; with_reducible exact Calls.since_of (mBn (K2.out _)))))
    refine wpQuiet_nil ?_
    intro w_ hw_
    obtain ⟨⟨w1, hb⟩, hw2⟩ := hw_
    have hw3 : w1 = w_ := hw2.symm
    clear hw2
    subst hw3
    replace hB := hB.trans (hb.mono hB.size)
    have hz := hb.size
    go_wp2
    all_goals go_ret
    all_goals exact ⟨rfl, hB⟩
end Go.Proofs.YtebheehjhnaklaaGreatDoor
namespace Go.Proofs.YtebheehjhnaklaaGreatDoor
open Go.RowKit
theorem trR_len (c : UInt8) (l : List UInt8) : (trR c l).length ≤ l.length := by
  have := trR_size c ⟨l.toArray⟩
  exact this
end Go.Proofs.YtebheehjhnaklaaGreatDoor
