import Derived.Test.YtebheehjhnaklaaDoorE13
import Derived.Test.YtebheehjhnaklaaDoorZ3
namespace Go.Proofs.YtebheehjhnaklaaDoor
open Go Go.RowKit
/-- all bytes are 0 -/
def zdB (l : List UInt8) : Bool := l.all fun b => b == 48
/-- digits -/
def DgL (l : List UInt8) : Prop := ∀ x ∈ l, 48 ≤ x.toNat ∧ x.toNat ≤ 57
theorem trR_dg {l : List UInt8} (h : DgL l) : DgL (trR 48 l) := fun x hx => by
  unfold trR trL at hx
  have h1 : x ∈ List.dropWhile (fun b => b == 48) l.reverse := by simpa using hx
  exact h x (by simpa using (List.dropWhile_sublist _).subset h1)
/-- no byte from 1 to 9 -/
def ntB (l : List UInt8) : Bool := l.all fun b => !(decide (49 ≤ b.toNat) && decide (b.toNat ≤ 57))
theorem nt_zd {l : List UInt8} (h : DgL l) : ntB l = zdB l := by
  unfold ntB zdB
  induction l with
  | nil => rfl
  | cons b r ih =>
    rw [List.all_cons, List.all_cons, ih (fun x hx => h x (by simp [hx]))]
    congr 1
    have hb := h b (by simp)
    rw [Bool.eq_iff_iff]
    simp only [Bool.not_eq_true', Bool.and_eq_false_iff, decide_eq_false_iff_not, beq_iff_eq]
    constructor
    · intro h1
      apply UInt8.toNat_inj.1
      show b.toNat = 48
      omega
    · rintro rfl
      left; decide
set_option maxHeartbeats 2000000 in
theorem nothingS_any (s : ByteArray) (hs : s.size ≤ 1000) (w : World) :
    Calls Tryd.prog 32 #[.string s] w fun r w' => r = .returned (.bool (ntB s.data.toList)) ∧ Below w.heap.size w w' := by
  have hB := Below.refl w.heap.size w
  go_enter Tryd.func32, Tryd.ntmps32
  go_wp2
  go_loopg [3] s.size (fun g s3 wr => ∃ (k : Nat), wr = w ∧ s3 = .int .i64 k ∧ k ≤ s.size ∧ Aside (g = s.size - k) ∧ Aside (ntB (s.data.toList.drop k) = ntB s.data.toList))
  case atStart => exact ⟨0, rfl, rfl, by omega, by show _ = _; omega, by show _ = _; rw [List.drop_zero]⟩
  case round =>
    obtain ⟨k, rfl, rfl, hk, hg, hv⟩ := hrel
    have hg' := hg.out
    have hv' := hv.out
    clear hg hv
    by_cases hlt : k < s.size
    · have j1 : (k : Int) < s.size := by omega
      rw [at_drop hlt] at hv'
      unfold ntB at hv'
      rw [List.all_cons] at hv'
      by_cases hc : 49 ≤ s[k].toNat ∧ s[k].toNat ≤ 57
      · rw [show (!(decide (49 ≤ s[k].toNat) && decide (s[k].toNat ≤ 57))) = false by simp [hc], Bool.false_and] at hv'
        have HV := Lib.hid hv'
        clear hv'
        obtain ⟨c1, c2⟩ := hc
        have c1' : (49 : Int) ≤ s[k].toNat := by omega
        have c2' : (s[k].toNat : Int) ≤ 57 := by omega
        go_wp2
        go_ret
        exact ⟨by rw [show ntB s.data.toList = false from HV.out.symm]; rfl, hB⟩
      · rw [show (!(decide (49 ≤ s[k].toNat) && decide (s[k].toNat ≤ 57))) = true by rw [Bool.not_eq_true', Bool.and_eq_false_iff, decide_eq_false_iff_not, decide_eq_false_iff_not]; omega, Bool.true_and] at hv'
        have HV := Lib.hid hv'
        clear hv'
        by_cases c1 : 49 ≤ s[k].toNat
        · have c1' : (49 : Int) ≤ s[k].toNat := by omega
          have c2' : ¬ (s[k].toNat : Int) ≤ 57 := by omega
          have c2 : ¬ s[k].toNat ≤ 57 := by omega
          go_wp2
          go_roundg (s.size - (k + 1))
          case measure => omega
          case rel => exact ⟨k + 1, rfl, by go_num, by omega, rfl, HV.out⟩
        · have c1' : ¬ (49 : Int) ≤ s[k].toNat := by omega
          go_wp2
          go_roundg (s.size - (k + 1))
          case measure => omega
          case rel => exact ⟨k + 1, rfl, by go_num, by omega, rfl, HV.out⟩
    · have j1 : ¬ (k : Int) < s.size := by omega
      rw [at_end (by omega)] at hv'
      have HV := Lib.hid hv'
      clear hv'
      go_wp2
      go_ret
      exact ⟨by rw [← HV.out]; rfl, hB⟩
end Go.Proofs.YtebheehjhnaklaaDoor
