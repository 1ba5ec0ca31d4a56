import Derived.Test.YtejganoipbblcaaDoorV1
namespace Go.Proofs.YtejganoipbblcaaDoor
open Go.RowKit
theorem okByte_nat (b : UInt8) : okByte b = (decide (32 ≤ b.toNat) && decide (b.toNat ≤ 126)) := by
  have h1 : (b < 32) ↔ b.toNat < 32 := UInt8.lt_iff_toNat_lt
  have h2 : (b < 126) ↔ b.toNat < 126 := UInt8.lt_iff_toNat_lt
  have h3 : (b == 126) = decide (b.toNat = 126) := by
    by_cases h : b = 126
    · subst h; rfl
    · have : ¬ b.toNat = 126 := fun q => h (UInt8.toNat_inj.1 q)
      simp [h, this]
  unfold okByte
  rw [h3]
  simp only [h1, h2]
  rw [Bool.eq_iff_iff]
  simp
  omega
set_option maxHeartbeats 2000000 in
theorem printableS_one (b : UInt8) (w : World) :
    Calls Tryd.prog 46 #[.string ⟨#[b]⟩] w fun r w' => r = .returned (.bool (okByte b)) ∧ w = w' := by
  have e : ((⟨#[b]⟩ : ByteArray)[0]'(by simp [ByteArray.size])) = b := rfl
  go_enter Tryd.func46, Tryd.ntmps46
  go_wp2
  refine wp_loop_rounds 2 ?_
  rw [rounds_succ]
  go_wp2
  · rename_i h0 h
    go_ret
    exact ⟨ret_bool (by rw [okByte_nat, Bool.eq_iff_iff]; simp; omega), rfl⟩
  · rw [rounds_succ]
    go_wp2
    go_ret
    exact ⟨ret_bool (by rw [okByte_nat, Bool.eq_iff_iff]; simp; omega), rfl⟩
  · go_ret
    exact ⟨ret_bool (by rw [okByte_nat, Bool.eq_iff_iff]; simp; omega), rfl⟩
end Go.Proofs.YtejganoipbblcaaDoor
