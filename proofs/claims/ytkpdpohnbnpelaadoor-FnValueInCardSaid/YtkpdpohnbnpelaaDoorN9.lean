import Derived.Test.YtkpdpohnbnpelaaDoorN3
namespace Go.Proofs.YtkpdpohnbnpelaaDoor
open Go.RowKit
/-- digits of the base 10 -/
def Dgts (l : List UInt8) : Prop := ∀ b ∈ l, ∃ k, k < 10 ∧ b = dch false k
theorem dgts_nil : Aside (Dgts []) := fun b hb => by cases hb
theorem cat_d (a : List UInt8) (b : UInt8) : (⟨a.toArray⟩ : ByteArray) ++ ⟨#[b]⟩ = ⟨(a ++ [b]).toArray⟩ := by
  apply ByteArray.ext
  rw [ByteArray.data_append]
  simp
set_option maxRecDepth 100000 in
set_option maxHeartbeats 4000000 in
theorem someDigits_any (R : Nat) (K : Int) (w : World) (h : Rd R K w) (hK : K ≤ 900) :
    Calls Tryd.prog 62 #[.pointer (some ⟨R, 0, none⟩)] w fun r w' => (∃ l : List UInt8, r = .returned (.string ⟨l.toArray⟩) ∧ l.length ≤ 12 ∧ Dgts l) ∧ Rd R (K + 20) w' ∧ Kp R w.heap.size w w' := by
  have hR := h.1
  go_enter Tryd.func62, Tryd.ntmps62
  go_wp2_with (go_at_call 57; (with_reducible refine Calls.mono (one_p (fun y => 0 ≤ y ∧ y ≤ 12) R _ _ _ _ _ (h.up _) ?_ ?_ ?_ ?_) ?_); omega; omega; exact NumsP.new _ _ _ _ 8 (by simp) rfl; omega; rintro r w1 ⟨⟨n, rfl, hn⟩, hr, hk⟩)
  have hkM : Kp R w.heap.size w w1 := Kp.step (Kp.up (Kp.refl _ _ _) hR _) hk
  clear hk
  go_loopg [3, 4] n.toNat (fun g s3 s4 wr => ∃ (l : List UInt8) (m : Int), s3 = .string ⟨l.toArray⟩ ∧ s4 = .int .i64 m ∧ 0 ≤ m ∧ l.length + m ≤ 12 ∧ Rd R (K + 1 + l.length) wr ∧ Kp R w.heap.size w wr ∧ Aside (Dgts l) ∧ Aside (g = m.toNat))
  case atStart => exact ⟨[], n, rfl, rfl, hn.1, by simpa using hn.2, by simpa using hr, hkM, dgts_nil, by show _ = _; rfl⟩
  case round =>
    clear hr hkM h
    obtain ⟨l, m, rfl, rfl, hm0, hm1, hr, hkM, hD, hg⟩ := hrel
    have hg' := hg.out
    have hD' := hD.out
    clear hg hD
    by_cases hlt : 0 < m
    · have hK2 : K + 1 + l.length ≤ 1000 := by omega
      go_wp2_with (first | (go_at_call 59; (with_reducible refine Calls.mono (pick_any R 10 _ _ hr hK2) ?_); rintro r w1 ⟨⟨x, rfl, hx0, hx1⟩, hr2, hk2⟩; have hx2 := hx1 (by omega)) | (go_at_call 74; (obtain ⟨y, rfl⟩ := Int.eq_ofNat_of_zero_le hx0); (with_reducible refine Calls.mono (digitOfS_low y (by omega) _) ?_); rintro r w2 ⟨rfl, rfl⟩))
      go_roundg (m - 1).toNat
      case measure => omega
      case rel =>
        refine ⟨l ++ [dch false y], m - 1, ?_, by go_num, by omega, by simp; omega, by simp; exact hr2.mono (by omega), Kp.step hkM hk2, ?_, rfl⟩
        · rw [cat_d]
        · intro b hb
          rcases List.mem_append.1 hb with hb | hb
          · exact hD' b hb
          · exact ⟨y, by omega, by simpa using hb⟩
    · go_wp2
      go_ret
      exact ⟨⟨l, rfl, by omega, hD'⟩, hr.mono (by omega), hkM⟩
end Go.Proofs.YtkpdpohnbnpelaaDoor
