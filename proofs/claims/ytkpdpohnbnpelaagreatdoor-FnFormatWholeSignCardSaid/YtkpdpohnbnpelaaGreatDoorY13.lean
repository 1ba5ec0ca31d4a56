import Derived.Test.YtkpdpohnbnpelaaGreatDoorY12
namespace Go.Proofs.YtkpdpohnbnpelaaGreatDoor
open Go.RowKit

def joinL (n : Nat) (sep l : List UInt8) : List UInt8 := if sep = [] then l else grp n sep l
set_option maxHeartbeats 1000000 in
theorem joinedS_any (l : List UInt8) (n : Nat) (sep : ByteArray) (w : World) (hs : l.length ≤ 1000) (hn0 : 1 ≤ n) (hn1 : n ≤ 9) (hsep : sep.size ≤ 1) :
    Calls Tryz.prog 80 #[.string ⟨l.toArray⟩, .int .i64 n, .string sep] w fun r w' => r = .returned (.string ⟨(joinL n sep.data.toList l).toArray⟩) ∧ w = w' := by
  have k1 := fun W => groupedS_any ⟨l.toArray⟩ n sep W hs hn0 hn1 hsep
  rw [show (⟨l.toArray⟩ : ByteArray).data.toList = l from rfl] at k1
  by_cases h0 : sep.size = 0
  · obtain rfl := size_zero h0
    rw [show joinL n (⟨#[]⟩ : ByteArray).data.toList l = l from if_pos rfl]
    clear k1
    go_enter Tryz.func80, Tryz.ntmps80
    go_wp2
    go_ret
    exact ⟨rfl, rfl⟩
  · have hne : sep.toList.isEmpty = false := nonempty_list (by omega)
    have hnn : ¬ sep.data.toList = [] := fun e => by have := list_size sep; rw [e] at this; simp at this; omega
    rw [show joinL n sep.data.toList l = grp n sep.data.toList l from if_neg hnn]
    have K1 := Lib.hid k1
    clear k1
    go_enter Tryz.func80, Tryz.ntmps80
    go_wp2_with (go_at_call 75; (with_reducible refine Calls.mono (K1.out _) ?_); rintro r w1 ⟨rfl, rfl⟩)
    go_ret
    exact ⟨rfl, rfl⟩
/-- so many zeros come ahead -/
def tz (wd n size : Nat) (sep : List UInt8) : Nat := if sep = [] then max wd size - size else max (cnt wd n) size - size
theorem tz_ok {wd n size j : Nat} {sep l : List UInt8} (hl : l.length = size) (hs : size ≤ 80) (hw : wd ≤ 30) (hn0 : 1 ≤ n) (hn1 : n ≤ 9) (h1 : sep.length ≤ 1) (hj : j ≤ tz wd n size sep) :
    (joinL n sep (zeros j ++ l)).length < wd ↔ j < tz wd n size sep := by
  have hc := @cnt_le n wd
  unfold joinL
  unfold tz at hj ⊢
  by_cases h : sep = []
  · rw [if_pos h] at hj ⊢
    rw [if_pos h, List.length_append, zeros_len, hl]
    omega
  · rw [if_neg h] at hj ⊢
    have h1' : sep.length = 1 := by
      have : sep.length ≠ 0 := fun e => h (List.length_eq_zero_iff.1 e)
      omega
    rw [if_neg h, grp_len n h1', List.length_append, zeros_len, hl, cnt_ok hn0 hn1 hw (by omega)]
    omega
theorem tz_le {wd n size : Nat} {sep : List UInt8} (hw : wd ≤ 30) : tz wd n size sep ≤ 30 := by
  have hc := @cnt_le n wd
  unfold tz
  split <;> omega
theorem widL_eq {wd n : Nat} {sep l : List UInt8} : widL l wd n sep = joinL n sep (zeros (tz wd n l.length sep) ++ l) := by
  unfold widL joinL tz
  by_cases h : sep = []
  · simp only [if_pos h]
  · simp only [if_neg h]
theorem cat_zero (j : Nat) (l : List UInt8) : (⟨#[48]⟩ : ByteArray) ++ ⟨(zeros j ++ l).toArray⟩ = ⟨(zeros (j + 1) ++ l).toArray⟩ := cat_l [48] (zeros j ++ l)
set_option maxRecDepth 100000 in
set_option maxHeartbeats 4000000 in
theorem widenedS_any (s : ByteArray) (wd : Int) (n : Nat) (sep : ByteArray) (w : World) (hs : s.size ≤ 80) (hw : wd ≤ 30) (hn0 : 1 ≤ n) (hn1 : n ≤ 9) (hsep : sep.size ≤ 1) :
    Calls Tryz.prog 79 #[.string s, .int .i64 wd, .int .i64 n, .string sep] w fun r w' => r = .returned (.string ⟨(widL s.data.toList wd.toNat n sep.data.toList).toArray⟩) ∧ w = w' := by
  have hls := list_size s
  have hsl : sep.data.toList.length ≤ 1 := by rw [list_size]; exact hsep
  have ht := @tz_le wd.toNat n s.size sep.data.toList (by omega)
  have tok := fun j h => tz_ok (wd := wd.toNat) (n := n) (j := j) (sep := sep.data.toList) hls hs (by omega) hn0 hn1 hsl h
  have kj := fun j h W => joinedS_any (zeros j ++ s.data.toList) n sep W (by rw [List.length_append, zeros_len, hls]; exact h) hn0 hn1 hsep
  rw [widL_eq, hls]
  have e0 : s = ⟨(zeros 0 ++ s.data.toList).toArray⟩ := of_list s
  generalize s.data.toList = l at *
  subst e0
  generalize tz wd.toNat n (⟨(zeros 0 ++ l).toArray⟩ : ByteArray).size sep.data.toList = T at *
  generalize hSZ : (⟨(zeros 0 ++ l).toArray⟩ : ByteArray).size = SZ at *
  have TOK := Lib.hid tok; have KJ := Lib.hid kj
  clear tok kj hSZ
  go_enter Tryz.func79, Tryz.ntmps79
  go_wp2
  go_loopg [0] T (fun g s0 wr => ∃ j : Nat, wr = w ∧ s0 = .string ⟨(zeros j ++ l).toArray⟩ ∧ j ≤ T ∧ Aside (g = T - j))
  case atStart => exact ⟨0, rfl, rfl, by omega, by show _ = _; omega⟩
  case round =>
    obtain ⟨j, rfl, rfl, hj, hg⟩ := hrel
    have hg' := hg.out
    have tj := TOK.out j hj
    have kj := KJ.out j (by omega)
    clear hg
    by_cases hlt : j < T
    · have i0 := tj.2 hlt
      have hzl : (zeros j).length + l.length ≤ 200 := by rw [zeros_len]; omega
      generalize joinL n sep.data.toList (zeros j ++ l) = X at *
      have i1 : (X.length : Int) < wd := by omega
      have KK := Lib.hid kj
      clear kj tj i0
      go_wp2_with (go_at_call 80; (with_reducible refine Calls.mono (KK.out _) ?_); rintro r w1 ⟨rfl, rfl⟩)
      go_roundg (T - (j + 1))
      case measure => omega
      case rel => exact ⟨j + 1, rfl, by rw [cat_zero], by omega, rfl⟩
    · obtain rfl : j = T := by omega
      have i0 : ¬ (joinL n sep.data.toList (zeros j ++ l)).length < wd.toNat := fun e => hlt (tj.1 e)
      generalize hX : joinL n sep.data.toList (zeros j ++ l) = X at *
      have HX := Lib.hid hX
      clear hX
      have i1 : ¬ (X.length : Int) < wd := by omega
      have KK := Lib.hid kj
      clear kj tj i0
      go_wp2_with (go_at_call 80; (with_reducible refine Calls.mono (KK.out _) ?_); rintro r w1 ⟨rfl, rfl⟩)
      go_ret
      exact ⟨ret_str (by rw [HX.out]), rfl⟩
end Go.Proofs.YtkpdpohnbnpelaaGreatDoor
