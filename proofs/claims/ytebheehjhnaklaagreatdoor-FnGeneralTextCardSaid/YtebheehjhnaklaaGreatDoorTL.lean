import Derived.Test.YtebheehjhnaklaaGreatDoorW0
import Derived.Test.YtebheehjhnaklaaGreatDoorY10
import Derived.Test.YtebheehjhnaklaaGreatDoorN6
import Derived.Handy
import Derived.Test.YtebheehjhnaklaaGreatDoorZ3
import Derived.Test.YtebheehjhnaklaaGreatDoorC3T
namespace Go.Proofs.YtebheehjhnaklaaGreatDoor
open Go.RowKit
end Go.Proofs.YtebheehjhnaklaaGreatDoor
namespace Go.Proofs.YtebheehjhnaklaaGreatDoor
open Go.RowKit
/-- all bytes are printable -/
def prL (l : List UInt8) : Bool := l.all okByte
theorem at_drop {s : ByteArray} {k : Nat} (h : k < s.size) : s.data.toList.drop k = s[k] :: s.data.toList.drop (k + 1) := by
  have h' : k < s.data.toList.length := by rw [Array.length_toList]; exact h
  rw [List.drop_eq_getElem_cons h']
  rfl
theorem at_end {s : ByteArray} {k : Nat} (h : s.size ≤ k) : s.data.toList.drop k = [] :=
  List.drop_eq_nil_of_le (by rw [Array.length_toList]; exact h)
theorem prL_at {s : ByteArray} {k : Nat} (h : k < s.size) : prL (s.data.toList.drop k) = (okByte s[k] && prL (s.data.toList.drop (k + 1))) := by rw [at_drop h]; rfl
theorem prL_end {s : ByteArray} {k : Nat} (h : s.size ≤ k) : prL (s.data.toList.drop k) = true := by rw [at_end h]; rfl
set_option maxRecDepth 100000 in
set_option maxHeartbeats 2000000 in
theorem allPrintable_any (s : ByteArray) (hs : s.size ≤ 9223372036854775807) (w : World) :
    Calls Tryz.prog 127 #[.string s] w fun r w' => r = .returned (.bool (prL s.data.toList)) ∧ w = w' := by
  go_enter Tryz.func127, Tryz.ntmps127
  go_wp2
  go_loopg [6] s.size (fun g s4 wr => ∃ k : Nat, wr = w ∧ s4 = .int .i64 k ∧ k ≤ s.size ∧ Aside (prL (s.data.toList.drop k) = prL s.data.toList) ∧ Aside (g = s.size - k))
  case atStart => exact ⟨0, rfl, rfl, by omega, by show _ = _; rw [List.drop_zero], by show _ = _; omega⟩
  case round =>
    obtain ⟨k, rfl, rfl, hk, hv, hg⟩ := hrel
    have hg' := hg.out
    have hv' := hv.out
    clear hg hv
    by_cases hlt : k < s.size
    · have i1 : (k : Int) < s.size := by omega
      have i2 : (k : Int) + 1 ≤ s.size := by omega
      have kp := fun W => isPrintable_one s[k] W
      rw [← ext_one hlt] at kp
      rw [prL_at hlt] at hv'
      cases hc : okByte s[k]
      · rw [hc] at kp hv'
        have HV := Lib.hid hv'; have KP := Lib.hid kp
        clear hv' kp hc
        go_wp2_with (go_at_call 194; (with_reducible refine Calls.mono (KP.out _) ?_); rintro r w1 ⟨rfl, rfl⟩)
        all_goals go_ret
        all_goals exact ⟨ret_bool HV.out, rfl⟩
      · rw [hc] at kp hv'
        have HV := Lib.hid hv'; have KP := Lib.hid kp
        clear hv' kp hc
        go_wp2_with (go_at_call 194; (with_reducible refine Calls.mono (KP.out _) ?_); rintro r w1 ⟨rfl, rfl⟩)
        go_roundg (s.size - (k + 1))
        case measure => omega
        case rel => exact ⟨k + 1, rfl, by go_num, by omega, HV.out, rfl⟩
    · have i1 : ¬ (k : Int) < s.size := by omega
      rw [prL_end (by omega)] at hv'
      have HV := Lib.hid hv'
      clear hv'
      go_wp2
      all_goals go_ret
      all_goals exact ⟨ret_bool HV.out, rfl⟩
set_option maxRecDepth 100000 in
set_option maxHeartbeats 2000000 in
theorem printableS_any (s : ByteArray) (hs : s.size ≤ 9223372036854775807) (w : World) :
    Calls Tryz.prog 131 #[.string s] w fun r w' => r = .returned (.bool (prL s.data.toList)) ∧ w = w' := by
  go_enter Tryz.func131, Tryz.ntmps131
  go_wp2
  go_loopg [3] s.size (fun g s4 wr => ∃ k : Nat, wr = w ∧ s4 = .int .i64 k ∧ k ≤ s.size ∧ Aside (prL (s.data.toList.drop k) = prL s.data.toList) ∧ Aside (g = s.size - k))
  case atStart => exact ⟨0, rfl, rfl, by omega, by show _ = _; rw [List.drop_zero], by show _ = _; omega⟩
  case round =>
    obtain ⟨k, rfl, rfl, hk, hv, hg⟩ := hrel
    have hg' := hg.out
    have hv' := hv.out
    clear hg hv
    by_cases hlt : k < s.size
    · have i1 : (k : Int) < s.size := by omega
      rw [prL_at hlt, okByte_nat] at hv'
      have HV := Lib.hid hv'
      clear hv'
      by_cases hc : 32 ≤ s[k].toNat ∧ s[k].toNat ≤ 126
      · have e1 := hc.1
        have e2 := hc.2
        go_wp2
        go_roundg (s.size - (k + 1))
        case measure => omega
        case rel => exact ⟨k + 1, rfl, by go_num, by omega, by have := HV.out; rw [decide_eq_true e1, decide_eq_true e2] at this; exact this, rfl⟩
      · have hd : (decide (32 ≤ s[k].toNat) && decide (s[k].toNat ≤ 126)) = false := by simp; omega
        go_wp2
        all_goals go_ret
        all_goals exact ⟨ret_bool (by have := HV.out; rw [hd] at this; exact this), rfl⟩
    · have i1 : ¬ (k : Int) < s.size := by omega
      rw [prL_end (by omega)] at hv'
      have HV := Lib.hid hv'
      clear hv'
      go_wp2
      all_goals go_ret
      all_goals exact ⟨ret_bool HV.out, rfl⟩
/-- a text that can be written -/
def vtB (s : ByteArray) : Bool := decide (s.size ≤ 80) && prL s.data.toList
set_option maxHeartbeats 2000000 in
theorem ValidText_any (s : ByteArray) (hs : s.size ≤ 9223372036854775807) (w : World) :
    Calls Tryz.prog 78 #[.string s] w fun r w' => r = .returned (.bool (vtB s)) ∧ w = w' := by
  have k1 := fun W => allPrintable_any s hs W
  unfold vtB
  generalize prL s.data.toList = b at *
  have K1 := Lib.hid k1
  clear k1
  by_cases h : s.size ≤ 80
  · have i1 : (s.size : Int) ≤ 80 := by omega
    rw [decide_eq_true h]
    go_enter Tryz.func78, Tryz.ntmps78
    go_wp2_with (go_at_call 127; (with_reducible refine Calls.mono (K1.out _) ?_); rintro r w1 ⟨rfl, rfl⟩)
    all_goals go_ret
    all_goals exact ⟨ret_bool (by simp), rfl⟩
  · have i1 : ¬ (s.size : Int) ≤ 80 := by omega
    rw [decide_eq_false h]
    go_enter Tryz.func78, Tryz.ntmps78
    go_wp2_with (go_at_call 127; (with_reducible refine Calls.mono (K1.out _) ?_); rintro r w1 ⟨rfl, rfl⟩)
    all_goals go_ret
    all_goals exact ⟨ret_bool (by simp), rfl⟩
set_option maxHeartbeats 2000000 in
theorem validTextS_any (s : ByteArray) (hs : s.size ≤ 9223372036854775807) (w : World) :
    Calls Tryz.prog 83 #[.string s] w fun r w' => r = .returned (.bool (vtB s)) ∧ w = w' := by
  have k1 := fun W => printableS_any s hs W
  unfold vtB
  generalize prL s.data.toList = b at *
  have K1 := Lib.hid k1
  clear k1
  by_cases h : s.size ≤ 80
  · have i1 : (s.size : Int) ≤ 80 := by omega
    rw [decide_eq_true h]
    go_enter Tryz.func83, Tryz.ntmps83
    go_wp2_with (go_at_call 131; (with_reducible refine Calls.mono (K1.out _) ?_); rintro r w1 ⟨rfl, rfl⟩)
    all_goals go_ret
    all_goals exact ⟨ret_bool (by simp), rfl⟩
  · have i1 : ¬ (s.size : Int) ≤ 80 := by omega
    rw [decide_eq_false h]
    go_enter Tryz.func83, Tryz.ntmps83
    go_wp2_with (go_at_call 131; (with_reducible refine Calls.mono (K1.out _) ?_); rintro r w1 ⟨rfl, rfl⟩)
    all_goals go_ret
    all_goals exact ⟨ret_bool (by simp), rfl⟩
end Go.Proofs.YtebheehjhnaklaaGreatDoor
namespace Go.Proofs.YtebheehjhnaklaaGreatDoor
open Go.RowKit
theorem lsize (s : ByteArray) : s.data.toList.length = s.size := by rw [Array.length_toList]; rfl
/-- one printable byte -/
def oneP (f : ByteArray) : Bool := match f.data.toList with | [b] => okByte b | _ => false
def hd1 (f : ByteArray) : UInt8 := f.data.toList.headD 0
theorem oneP_two {f : ByteArray} (h : 2 ≤ f.size) : oneP f = false := by
  obtain ⟨⟨l⟩⟩ := f
  match l, h with
  | _ :: _ :: _, _ => rfl
theorem oneP_cases {f : ByteArray} (h : oneP f = true) : ∃ b, f = ⟨#[b]⟩ ∧ okByte b = true ∧ hd1 f = b := by
  rcases bytes_cases f with rfl | ⟨b, rfl⟩ | h2
  · cases h
  · exact ⟨b, rfl, h, rfl⟩
  · rw [oneP_two h2] at h; cases h
theorem isPrintable_any (f : ByteArray) (w : World) : Calls Tryz.prog 194 #[.string f] w fun r w' => r = .returned (.bool (oneP f)) ∧ w = w' := by
  rcases bytes_cases f with rfl | ⟨b, rfl⟩ | h
  · exact isPrintable_no _ (by decide) w
  · exact isPrintable_one b w
  · rw [oneP_two h]
    exact isPrintable_no f (by omega) w
def cpB (s f : ByteArray) (a : Int) : Bool := vtB s && (oneP f && inr a 1 3)
theorem vtB_size {s : ByteArray} (h : vtB s = true) : s.size ≤ 80 := by
  unfold vtB at h
  simp only [Bool.and_eq_true, decide_eq_true_eq] at h
  exact h.1
def padOk (s : ByteArray) (wi : Int) (f : ByteArray) (a : Int) : Bool := cpB s f a && inr wi 0 30
def padW (s : ByteArray) (wi : Int) (f : ByteArray) (a : Int) : ByteArray := if padOk s wi f a then ⟨(padL [] s.data.toList wi.toNat (hd1 f) a).toArray⟩ else ⟨#[]⟩
end Go.Proofs.YtebheehjhnaklaaGreatDoor
namespace Go.Proofs.YtebheehjhnaklaaGreatDoor
open Go.RowKit
/-- without a byte at its beginning -/
def trL (c : UInt8) (l : List UInt8) : List UInt8 := l.dropWhile (fun b => b == c)
/-- without a byte at its end -/
def trR (c : UInt8) (l : List UInt8) : List UInt8 := (trL c l.reverse).reverse
def trLB (c : UInt8) (s : ByteArray) : ByteArray := ⟨(trL c s.data.toList).toArray⟩
def trRB (c : UInt8) (s : ByteArray) : ByteArray := ⟨(trR c s.data.toList).toArray⟩
theorem trLB_nil (c : UInt8) : trLB c ⟨#[]⟩ = ⟨#[]⟩ := rfl
theorem trRB_nil (c : UInt8) : trRB c ⟨#[]⟩ = ⟨#[]⟩ := rfl
theorem sz0 {s : ByteArray} (h : s.size = 0) : s = ⟨#[]⟩ := by
  rcases bytes_cases s with h' | ⟨b, rfl⟩ | h'
  · exact h'
  · exact absurd h (by simp [ByteArray.size])
  · omega
theorem ext1 (s : ByteArray) : (s.extract 1 s.size).data.toList = s.data.toList.drop 1 := by
  have := ext_drop 1 s.data.toList
  rw [← of_list s, lsize] at this
  rw [this]
theorem ext0 (s : ByteArray) (k : Nat) : (s.extract 0 k).data.toList = s.data.toList.take k := by
  have := ext_take k s.data.toList
  rw [← of_list s] at this
  rw [this]
theorem trL_step (c : UInt8) {s : ByteArray} (h : 0 < s.size) (e : s[0] = c) : trLB c (s.extract 1 s.size) = trLB c s := by
  have hd := at_drop h
  rw [List.drop_zero] at hd
  unfold trLB
  rw [ext1, hd, e]
  unfold trL
  simp
theorem trL_stop (c : UInt8) {s : ByteArray} (h : 0 < s.size) (e : ¬ s[0] = c) : trLB c s = s := by
  have hd := at_drop h
  rw [List.drop_zero] at hd
  have : trL c s.data.toList = s.data.toList := by
    rw [hd]
    unfold trL
    have hb : (s[0] == c) = false := by simpa using e
    rw [List.dropWhile_cons_of_neg (by rw [hb]; decide)]
  unfold trLB
  rw [this, ← of_list s]
theorem snoc_at {s : ByteArray} (h : 0 < s.size) : s.data.toList = s.data.toList.take (s.size - 1) ++ [s[s.size - 1]] := by
  have h1 := List.take_append_drop (s.size - 1) s.data.toList
  rw [at_drop (s := s) (k := s.size - 1) (by omega), at_end (s := s) (k := s.size - 1 + 1) (by omega)] at h1
  exact h1.symm
theorem trR_step (c : UInt8) {s : ByteArray} (h : 0 < s.size) (e : s[s.size - 1] = c) : trRB c (s.extract 0 (s.size - 1)) = trRB c s := by
  unfold trRB
  rw [ext0]
  conv => rhs; rw [snoc_at h]
  unfold trR trL
  rw [List.reverse_append, e]
  simp
theorem trR_stop (c : UInt8) {s : ByteArray} (h : 0 < s.size) (e : ¬ s[s.size - 1] = c) : trRB c s = s := by
  have : trR c s.data.toList = s.data.toList := by
    rw [snoc_at h]
    unfold trR trL
    rw [List.reverse_append]
    have hb : (s[s.size - 1] == c) = false := by simpa using e
    simp [hb]
  unfold trRB
  rw [this, ← of_list s]
theorem trR_stepk (c : UInt8) {s : ByteArray} {k : Nat} (h : s.size = k + 1) (hk : k < s.size) (e : s[k] = c) : trRB c (s.extract 0 k) = trRB c s := by
  have hk2 : s.size - 1 = k := by omega
  have := trR_step c (s := s) (by omega) (by simp only [hk2]; exact e)
  rw [hk2] at this
  exact this
theorem trR_stopk (c : UInt8) {s : ByteArray} {k : Nat} (h : s.size = k + 1) (hk : k < s.size) (e : ¬ s[k] = c) : trRB c s = s := by
  have hk2 : s.size - 1 = k := by omega
  exact trR_stop c (s := s) (by omega) (by simp only [hk2]; exact e)
theorem trL_size (c : UInt8) (s : ByteArray) : (trLB c s).size ≤ s.size := by
  show (trL c s.data.toList).length ≤ s.size
  unfold trL
  have := (List.dropWhile_suffix (fun b => b == c) (l := s.data.toList)).length_le
  rw [lsize] at this
  exact this
theorem trR_size (c : UInt8) (s : ByteArray) : (trRB c s).size ≤ s.size := by
  show (trR c s.data.toList).length ≤ s.size
  unfold trR trL
  rw [List.length_reverse]
  have := (List.dropWhile_suffix (fun b => b == c) (l := s.data.toList.reverse)).length_le
  rw [List.length_reverse, lsize] at this
  exact this
theorem beq_u8 {a b : UInt8} : ((a.toNat : Int) == (b.toNat : Int)) = decide (a = b) := by
  rw [Bool.eq_iff_iff]
  simp only [beq_iff_eq, decide_eq_true_eq]
  exact ⟨fun h => UInt8.toNat_inj.1 (by omega), fun h => by rw [h]⟩
set_option maxRecDepth 100000 in
set_option maxHeartbeats 2000000 in
theorem trimLeftByte_any (s : ByteArray) (c : UInt8) (_hs : s.size ≤ 9223372036854775807) (w : World) :
    Calls Tryz.prog 221 #[.string s, .int .u8 c.toNat] w fun r w' => r = .returned (.string (trLB c s)) ∧ w = w' := by
  go_enter Tryz.func221, Tryz.ntmps221
  go_wp2
  go_loopg [0] s.size (fun g s0 wr => ∃ T : ByteArray, wr = w ∧ s0 = .string T ∧ T.size ≤ s.size ∧ Aside (trLB c T = trLB c s) ∧ Aside (g = T.size))
  case atStart => exact ⟨s, rfl, rfl, Nat.le_refl _, by show _ = _; rfl, by show _ = _; rfl⟩
  case round =>
    obtain ⟨T, rfl, rfl, hk, hv, hg⟩ := hrel
    have hg' := hg.out
    have hv' := hv.out
    clear hg hv
    by_cases h0 : T.size = 0
    · obtain rfl := sz0 h0
      rw [trLB_nil] at hv'
      have HV := Lib.hid hv'
      clear hv'
      go_wp2
      all_goals go_ret
      all_goals exact ⟨ret_str HV.out, rfl⟩
    · have hp : 0 < T.size := by omega
      have hq := beq_u8 (a := T[0]) (b := c)
      by_cases hc : T[0] = c
      · have hst := trL_step c hp hc
        rw [hv'] at hst
        rw [decide_eq_true hc] at hq
        have HV := Lib.hid hst
        clear hst hv' hc
        go_wp2
        go_roundg (T.size - 1)
        case measure => omega
        case rel => exact ⟨T.extract 1 T.size, rfl, rfl, by rw [ByteArray.size_extract]; omega, HV.out, by show _ = _; rw [ByteArray.size_extract]; omega⟩
      · have hst := trL_stop c hp hc
        rw [hv'] at hst
        rw [decide_eq_false hc] at hq
        have HV := Lib.hid hst
        clear hst hv' hc
        go_wp2
        all_goals go_ret
        all_goals exact ⟨ret_str HV.out.symm, rfl⟩
set_option maxRecDepth 100000 in
set_option maxHeartbeats 2000000 in
theorem trimRightByte_any (s : ByteArray) (c : UInt8) (hs : s.size ≤ 9223372036854775807) (w : World) :
    Calls Tryz.prog 105 #[.string s, .int .u8 c.toNat] w fun r w' => r = .returned (.string (trRB c s)) ∧ w = w' := by
  go_enter Tryz.func105, Tryz.ntmps105
  go_wp2
  go_loopg [0] s.size (fun g s0 wr => ∃ T : ByteArray, wr = w ∧ s0 = .string T ∧ T.size ≤ s.size ∧ Aside (trRB c T = trRB c s) ∧ Aside (g = T.size))
  case atStart => exact ⟨s, rfl, rfl, Nat.le_refl _, by show _ = _; rfl, by show _ = _; rfl⟩
  case round =>
    obtain ⟨T, rfl, rfl, hk, hv, hg⟩ := hrel
    have hg' := hg.out
    have hv' := hv.out
    clear hg hv
    by_cases h0 : T.size = 0
    · obtain rfl := sz0 h0
      rw [trRB_nil] at hv'
      have HV := Lib.hid hv'
      clear hv'
      go_wp2
      all_goals go_ret
      all_goals exact ⟨ret_str HV.out, rfl⟩
    · have hp : 0 < T.size := by omega
      have hq := beq_u8 (a := T[T.size - 1]) (b := c)
      by_cases hc : T[T.size - 1] = c
      · have hst := trR_step c hp hc
        rw [hv'] at hst
        rw [decide_eq_true hc] at hq
        have HV := Lib.hid hst
        clear hst hv' hc
        go_wp2
        go_roundg (T.size - 1)
        case measure => omega
        case rel => exact ⟨T.extract 0 (T.size - 1), rfl, rfl, by rw [ByteArray.size_extract]; omega, HV.out, by show _ = _; rw [ByteArray.size_extract]; omega⟩
      · have hst := trR_stop c hp hc
        rw [hv'] at hst
        rw [decide_eq_false hc] at hq
        have HV := Lib.hid hst
        clear hst hv' hc
        go_wp2
        all_goals go_ret
        all_goals exact ⟨ret_str HV.out.symm, rfl⟩
set_option maxRecDepth 100000 in
set_option maxHeartbeats 2000000 in
theorem TrimLeft_one (s : ByteArray) (c : UInt8) (hc : c.toNat < 128) (hs : s.size ≤ 9223372036854775807) (w : World) :
    Calls Tryz.prog 164 #[.string s, .string ⟨#[c]⟩] w fun r w' => r = .returned (.string (trLB c s)) ∧ w = w' := by
  by_cases h0 : s.size = 0
  · obtain rfl := sz0 h0
    rw [trLB_nil]
    go_enter Tryz.func164, Tryz.ntmps164
    go_wp2
    all_goals go_ret
    all_goals exact ⟨rfl, rfl⟩
  · have hne : s.toList.isEmpty = false := nonempty_list (by omega)
    have k1 := fun W => trimLeftByte_any s c hs W
    have K1 := Lib.hid k1
    have i1 : (c.toNat : Int) < 128 := by omega
    have e0 : ((⟨#[c]⟩ : ByteArray)[0]'(by simp [ByteArray.size])) = c := rfl
    clear k1
    go_enter Tryz.func164, Tryz.ntmps164
    go_wp2_with (go_at_call 221; (with_reducible refine Calls.mono (K1.out _) ?_); rintro r w1 ⟨rfl, rfl⟩)
    all_goals go_ret
    all_goals exact ⟨rfl, rfl⟩
set_option maxRecDepth 100000 in
set_option maxHeartbeats 2000000 in
theorem TrimRight_one (s : ByteArray) (c : UInt8) (hc : c.toNat < 128) (hs : s.size ≤ 9223372036854775807) (w : World) :
    Calls Tryz.prog 56 #[.string s, .string ⟨#[c]⟩] w fun r w' => r = .returned (.string (trRB c s)) ∧ w = w' := by
  by_cases h0 : s.size = 0
  · obtain rfl := sz0 h0
    rw [trRB_nil]
    go_enter Tryz.func56, Tryz.ntmps56
    go_wp2
    all_goals go_ret
    all_goals exact ⟨rfl, rfl⟩
  · have hne : s.toList.isEmpty = false := nonempty_list (by omega)
    have k1 := fun W => trimRightByte_any s c hs W
    have K1 := Lib.hid k1
    have i1 : (c.toNat : Int) < 128 := by omega
    have e0 : ((⟨#[c]⟩ : ByteArray)[0]'(by simp [ByteArray.size])) = c := rfl
    clear k1
    go_enter Tryz.func56, Tryz.ntmps56
    go_wp2_with (go_at_call 105; (with_reducible refine Calls.mono (K1.out _) ?_); rintro r w1 ⟨rfl, rfl⟩)
    all_goals go_ret
    all_goals exact ⟨rfl, rfl⟩
set_option maxRecDepth 100000 in
set_option maxHeartbeats 2000000 in
theorem Trim_one (s : ByteArray) (c : UInt8) (hc : c.toNat < 128) (hs : s.size ≤ 9223372036854775807) (w : World) :
    Calls Tryz.prog 205 #[.string s, .string ⟨#[c]⟩] w fun r w' => r = .returned (.string (trLB c (trRB c s))) ∧ Below w.heap.size w w' := by
  have hB := Below.refl w.heap.size w
  by_cases h0 : s.size = 0
  · obtain rfl := sz0 h0
    rw [trRB_nil, trLB_nil]
    go_enter Tryz.func205, Tryz.ntmps205
    go_wp2
    all_goals go_ret
    all_goals exact ⟨rfl, hB⟩
  · have hne : s.toList.isEmpty = false := nonempty_list (by omega)
    have k1 := fun W => trimRightByte_any s c hs W
    have k2 := fun W => trimLeftByte_any (trRB c s) c (by have := trR_size c s; omega) W
    generalize trRB c s = X at *
    have K1 := Lib.hid k1; have K2 := Lib.hid k2
    have i1 : (c.toNat : Int) < 128 := by omega
    have e0 : ((⟨#[c]⟩ : ByteArray)[0]'(by simp [ByteArray.size])) = c := rfl
    clear k1 k2
    go_enter Tryz.func205, Tryz.ntmps205
    go_wp2
    refine wp_region_since (by kernel_rfl) (by kernel_rfl) ?_
    repeat (quiet_step (first | (go_at_call 105; with_reducible exact Calls.since_of (mBn (K1.out _))) | (go_at_call 221; with_reducible exact Calls.since_of (mBn (K2.out _)))))
    refine wpQuiet_nil ?_
    intro w_ hw_
    obtain ⟨⟨w1, hb⟩, hw2⟩ := hw_
    have hw3 : w1 = w_ := hw2.symm
    clear hw2
    subst hw3
    replace hB := hB.trans (hb.mono hB.size)
    have hz := hb.size
    go_wp2
    all_goals go_ret
    all_goals exact ⟨rfl, hB⟩
end Go.Proofs.YtebheehjhnaklaaGreatDoor
namespace Go.Proofs.YtebheehjhnaklaaGreatDoor
open Go.RowKit
theorem trR_len (c : UInt8) (l : List UInt8) : (trR c l).length ≤ l.length := by
  have := trR_size c ⟨l.toArray⟩
  exact this
end Go.Proofs.YtebheehjhnaklaaGreatDoor
