import Derived.Test.YtebheehjhnaklaaGreatDoorE13
import Derived.Test.YtebheehjhnaklaaGreatDoorG8
namespace Go.Proofs.YtebheehjhnaklaaGreatDoor
open Go Go.RowKit
/-- all bytes are 0 -/
def zdB (l : List UInt8) : Bool := l.all fun b => b == 48
theorem dw_all {l : List UInt8} (h : zdB l = true) : trL 48 l = [] := by
  induction l with
  | nil => rfl
  | cons b r ih =>
    unfold zdB at h
    rw [List.all_cons, Bool.and_eq_true] at h
    unfold trL at *
    rw [List.dropWhile_cons, if_pos h.1]
    exact ih h.2
theorem dw_some {l : List UInt8} (h : ∃ b ∈ l, b ≠ 48) : ∃ b ∈ trL 48 l, b ≠ 48 := by
  induction l with
  | nil => obtain ⟨b, hb, _⟩ := h; cases hb
  | cons a r ih =>
    unfold trL at *
    rw [List.dropWhile_cons]
    by_cases ha : (a == 48) = true
    · rw [if_pos ha]
      obtain ⟨b, hb, hn⟩ := h
      rcases List.mem_cons.1 hb with rfl | hb
      · exact absurd (by simpa using ha) hn
      · exact ih ⟨b, hb, hn⟩
    · rw [if_neg ha]
      exact ⟨a, by simp, by simpa using ha⟩
theorem zd_rev (l : List UInt8) : zdB l.reverse = zdB l := by unfold zdB; exact List.all_reverse
theorem tr_zero {l : List UInt8} (h : zdB l = true) : trL 48 (trR 48 l) = [] := by
  have : trR 48 l = [] := by
    unfold trR
    rw [dw_all (by rw [zd_rev]; exact h)]
    rfl
  rw [this]; rfl
theorem tr_some {l : List UInt8} (h : zdB l = false) : 1 ≤ (trL 48 (trR 48 l)).length := by
  have h1 : ∃ b ∈ l, b ≠ 48 := by
    unfold zdB at h
    rw [List.all_eq_false] at h
    obtain ⟨b, hb, hn⟩ := h
    exact ⟨b, hb, by simpa using hn⟩
  obtain ⟨b, hb, hn⟩ := h1
  obtain ⟨b2, hb2, hn2⟩ := dw_some (l := l.reverse) ⟨b, by simpa using hb, hn⟩
  obtain ⟨b3, hb3, _⟩ := dw_some (l := trR 48 l) ⟨b2, by unfold trR; simpa using hb2, hn2⟩
  exact List.length_pos_of_mem hb3
set_option maxHeartbeats 1000000 in
theorem isZero_any (A B T : List UInt8) (w : World) (hA : A.length ≤ 200) (hB' : B.length ≤ 200) :
    Calls Tryz.prog 149 #[.agg #[.string ⟨A.toArray⟩, .string ⟨B.toArray⟩, .string ⟨T.toArray⟩]] w fun r w' => r = .returned (.bool (zdB (A ++ B))) ∧ Below w.heap.size w w' := by
  have c1 := cat_lN A B
  have q1 : ¬ (9223372036854775807 < A.length + B.length) := by omega
  have kt := fun W => Trim_one ⟨(A ++ B).toArray⟩ 48 (by decide) (by show (A ++ B).length ≤ _; rw [List.length_append]; omega) W
  rw [show trLB 48 (trRB 48 ⟨(A ++ B).toArray⟩) = ⟨(trL 48 (trR 48 (A ++ B))).toArray⟩ from rfl] at kt
  have hB : Below w.heap.size w (w.alloc (.cells #[.string ⟨A.toArray⟩, .string ⟨B.toArray⟩, .string ⟨T.toArray⟩] 69)) := (Below.refl _ _).alloc (Nat.le_refl _) _
  cases hz : zdB (A ++ B)
  · have h1 := tr_some hz
    have h2 : (⟨(trL 48 (trR 48 (A ++ B))).toArray⟩ : ByteArray).toList.isEmpty = false := nonempty_list h1
    generalize (⟨(trL 48 (trR 48 (A ++ B))).toArray⟩ : ByteArray) = X at *
    have KT := Lib.hid kt
    clear kt hz h1
    go_enter Tryz.func149, Tryz.ntmps149
    go_wp2_with (first | (go_at_call 205; (with_reducible refine Calls.mono (KT.out _) ?_); rintro r w1 ⟨rfl, hb⟩; replace hB := hB.trans (hb.mono hB.size)))
    go_ret
    exact ⟨rfl, hB⟩
  · rw [tr_zero hz] at kt
    have KT := Lib.hid kt
    clear kt hz
    go_enter Tryz.func149, Tryz.ntmps149
    go_wp2_with (first | (go_at_call 205; (with_reducible refine Calls.mono (KT.out _) ?_); rintro r w1 ⟨rfl, hb⟩; replace hB := hB.trans (hb.mono hB.size)))
    go_ret
    exact ⟨rfl, hB⟩
/-- digits -/
def DgL (l : List UInt8) : Prop := ∀ x ∈ l, 48 ≤ x.toNat ∧ x.toNat ≤ 57
theorem DgL.app {a b : List UInt8} (ha : DgL a) (hb : DgL b) : DgL (a ++ b) := fun x hx => (List.mem_append.1 hx).elim (ha x) (hb x)
theorem DgL.zeros (m : Nat) : DgL (zeros m) := fun x hx => by
  have : x = 48 := List.eq_of_mem_replicate hx
  subst this; decide
theorem fxL_dg (c e : Int) (p : Nat) : DgL (fxL c e p) := by
  unfold fxL
  rw [widL_none]
  refine (DgL.zeros _).app ?_
  unfold fxD
  split
  · intro x hx; cases hx
  · exact DgL.app (fun x hx => digs_dg _ _ (Nat.le_refl _) x hx) (DgL.zeros _)
theorem fxA_dg (c e : Int) (p : Nat) : DgL (fxA c e p) := fun x hx => fxL_dg c e p x (List.mem_of_mem_take hx)
theorem fxB_dg (c e : Int) (p : Nat) : DgL (fxB c e p) := fun x hx => fxL_dg c e p x (List.mem_of_mem_drop hx)
theorem gnA_dg (n : Bool) (c e : Int) (p : Nat) : DgL (gnA n c e p) := by unfold gnA; split <;> exact fxA_dg _ _ _
theorem gnB_dg (n : Bool) (c e : Int) (p : Nat) : DgL (gnB n c e p) := by unfold gnB; split <;> exact fxB_dg _ _ _
theorem trR_dg {l : List UInt8} (h : DgL l) : DgL (trR 48 l) := fun x hx => by
  unfold trR trL at hx
  have h1 : x ∈ List.dropWhile (fun b => b == 48) l.reverse := by simpa using hx
  exact h x (by simpa using (List.dropWhile_sublist _).subset h1)
/-- no byte from 1 to 9 -/
def ntB (l : List UInt8) : Bool := l.all fun b => !(decide (49 ≤ b.toNat) && decide (b.toNat ≤ 57))
theorem nt_zd {l : List UInt8} (h : DgL l) : ntB l = zdB l := by
  unfold ntB zdB
  induction l with
  | nil => rfl
  | cons b r ih =>
    rw [List.all_cons, List.all_cons, ih (fun x hx => h x (by simp [hx]))]
    congr 1
    have hb := h b (by simp)
    rw [Bool.eq_iff_iff]
    simp only [Bool.not_eq_true', Bool.and_eq_false_iff, decide_eq_false_iff_not, beq_iff_eq]
    constructor
    · intro h1
      apply UInt8.toNat_inj.1
      show b.toNat = 48
      omega
    · rintro rfl
      left; decide
set_option maxHeartbeats 2000000 in
theorem nothingS_any (s : ByteArray) (hs : s.size ≤ 1000) (w : World) :
    Calls Tryz.prog 184 #[.string s] w fun r w' => r = .returned (.bool (ntB s.data.toList)) ∧ Below w.heap.size w w' := by
  have hB := Below.refl w.heap.size w
  go_enter Tryz.func184, Tryz.ntmps184
  go_wp2
  go_loopg [3] s.size (fun g s3 wr => ∃ (k : Nat), wr = w ∧ s3 = .int .i64 k ∧ k ≤ s.size ∧ Aside (g = s.size - k) ∧ Aside (ntB (s.data.toList.drop k) = ntB s.data.toList))
  case atStart => exact ⟨0, rfl, rfl, by omega, by show _ = _; omega, by show _ = _; rw [List.drop_zero]⟩
  case round =>
    obtain ⟨k, rfl, rfl, hk, hg, hv⟩ := hrel
    have hg' := hg.out
    have hv' := hv.out
    clear hg hv
    by_cases hlt : k < s.size
    · have j1 : (k : Int) < s.size := by omega
      rw [at_drop hlt] at hv'
      unfold ntB at hv'
      rw [List.all_cons] at hv'
      by_cases hc : 49 ≤ s[k].toNat ∧ s[k].toNat ≤ 57
      · rw [show (!(decide (49 ≤ s[k].toNat) && decide (s[k].toNat ≤ 57))) = false by simp [hc], Bool.false_and] at hv'
        have HV := Lib.hid hv'
        clear hv'
        obtain ⟨c1, c2⟩ := hc
        have c1' : (49 : Int) ≤ s[k].toNat := by omega
        have c2' : (s[k].toNat : Int) ≤ 57 := by omega
        go_wp2
        go_ret
        exact ⟨by rw [show ntB s.data.toList = false from HV.out.symm]; rfl, hB⟩
      · rw [show (!(decide (49 ≤ s[k].toNat) && decide (s[k].toNat ≤ 57))) = true by rw [Bool.not_eq_true', Bool.and_eq_false_iff, decide_eq_false_iff_not, decide_eq_false_iff_not]; omega, Bool.true_and] at hv'
        have HV := Lib.hid hv'
        clear hv'
        by_cases c1 : 49 ≤ s[k].toNat
        · have c1' : (49 : Int) ≤ s[k].toNat := by omega
          have c2' : ¬ (s[k].toNat : Int) ≤ 57 := by omega
          have c2 : ¬ s[k].toNat ≤ 57 := by omega
          go_wp2
          go_roundg (s.size - (k + 1))
          case measure => omega
          case rel => exact ⟨k + 1, rfl, by go_num, by omega, rfl, HV.out⟩
        · have c1' : ¬ (49 : Int) ≤ s[k].toNat := by omega
          go_wp2
          go_roundg (s.size - (k + 1))
          case measure => omega
          case rel => exact ⟨k + 1, rfl, by go_num, by omega, rfl, HV.out⟩
    · have j1 : ¬ (k : Int) < s.size := by omega
      rw [at_end (by omega)] at hv'
      have HV := Lib.hid hv'
      clear hv'
      go_wp2
      go_ret
      exact ⟨by rw [← HV.out]; rfl, hB⟩
end Go.Proofs.YtebheehjhnaklaaGreatDoor
