import Derived.Test.YtebheehjhnaklaaGreatDoorE7
import Derived.Test.YtebheehjhnaklaaGreatDoorC3T
import Derived.Test.YtebheehjhnaklaaGreatDoorY4
import Derived.Test.YtebheehjhnaklaaGreatDoorX1
import Derived.Test.YtebheehjhnaklaaGreatDoorHSh
import Derived.Test.YtebheehjhnaklaaGreatDoorTL
namespace Go.Proofs.YtebheehjhnaklaaGreatDoor
open Go Go.RowKit
/-- a digit -/
def IsDg (b : UInt8) : Prop := 48 ≤ b.toNat ∧ b.toNat ≤ 57
def ptL (A B : List UInt8) : List UInt8 := A ++ restL B [] false
theorem ptL_mem {A B : List UInt8} (hA : ∀ b, b ∈ A → IsDg b) (hB : ∀ b, b ∈ B → IsDg b) : ∀ b, b ∈ ptL A B → IsDg b ∨ b = 46 := by
  intro b hb
  unfold ptL restL at hb
  rw [List.mem_append] at hb
  rcases hb with hb | hb
  · exact .inl (hA b hb)
  · split at hb
    · simp at hb
    · simp only [List.append_nil, List.mem_cons] at hb
      rcases hb with rfl | hb
      · exact .inr rfl
      · exact .inl (hB b hb)
theorem ptL_len {A B : List UInt8} (h : A.length + B.length ≤ 70) : (ptL A B).length ≤ 71 := by
  unfold ptL restL
  split
  · simp; omega
  · simp; omega
theorem dg_ne {b : UInt8} {k : UInt8} (h : IsDg b ∨ b = 46) (hk : k.toNat < 46 ∨ 57 < k.toNat) : ¬ b = k := by
  intro e
  subst e
  rcases h with h | rfl
  · unfold IsDg at h; omega
  · revert hk; decide
theorem dg_ne' {b : UInt8} (h : IsDg b) : ¬ b = 46 := by
  intro e
  subst e
  revert h
  unfold IsDg
  decide
theorem cut_pt {A B : List UInt8} (hA : ∀ b, b ∈ A → IsDg b) : (Lib.cut (ptL A B) [46]).1 = A ∧ (Lib.cut (ptL A B) [46]).2.1 = B := by
  by_cases hb : B = []
  · subst hb
    have e : ptL A [] = A := by simp [ptL, restL]
    have e1 : Lib.index A [46] = -1 := by
      rw [Lib.index_one]
      clear e
      induction A with
      | nil => rfl
      | cons b r ih =>
        have n1 := dg_ne' (hA b (by simp))
        rw [Lib.indexByte, ih (fun c hc => hA c (by simp [hc]))]
        simp [n1]
    rw [e]
    unfold Lib.cut
    rw [if_neg (by omega)]
    exact ⟨rfl, rfl⟩
  · have e : ptL A B = A ++ 46 :: B := by simp [ptL, restL, hb]
    have e1 : Lib.index (A ++ 46 :: B) [46] = A.length := by
      rw [Lib.index_one]
      clear e
      induction A with
      | nil => rfl
      | cons b r ih =>
        have n1 := dg_ne' (hA b (by simp))
        have h := ih (fun c hc => hA c (by simp [hc]))
        rw [List.cons_append, Lib.indexByte, h]
        simp [n1]
        try omega
    rw [e]
    unfold Lib.cut
    rw [if_pos (by omega), e1]
    constructor
    · show (A ++ 46 :: B).take (A.length : Int).toNat = A
      rw [show (A.length : Int).toNat = A.length by omega]
      simp
    · show (A ++ 46 :: B).drop ((A.length : Int).toNat + 1) = B
      rw [show (A.length : Int).toNat + 1 = (A ++ [46]).length by simp, show A ++ 46 :: B = (A ++ [46]) ++ B by simp]
      exact List.drop_left
end Go.Proofs.YtebheehjhnaklaaGreatDoor
namespace Go.Proofs.YtebheehjhnaklaaGreatDoor
open Go Go.RowKit
theorem set3 {w1 : World} {b : Nat} {a0 a1 a2 : Value} (h0 : w1.cell? ⟨b, 0, none⟩ = some a0) (h1 : w1.cell? ⟨b, 1, none⟩ = some a1) (h2 : w1.cell? ⟨b, 2, none⟩ = some a2) (x y z : Value) :
    (((w1.setCell ⟨b, 0, none⟩ x).setCell ⟨b, 1, none⟩ y).setCell ⟨b, 2, none⟩ z).cell? ⟨b, 0, none⟩ = some x ∧
    (((w1.setCell ⟨b, 0, none⟩ x).setCell ⟨b, 1, none⟩ y).setCell ⟨b, 2, none⟩ z).cell? ⟨b, 1, none⟩ = some y ∧
    (((w1.setCell ⟨b, 0, none⟩ x).setCell ⟨b, 1, none⟩ y).setCell ⟨b, 2, none⟩ z).cell? ⟨b, 2, none⟩ = some z := by
  refine ⟨?_, ?_, ?_⟩ <;> simp [h0, h1, h2, go_sem]
end Go.Proofs.YtebheehjhnaklaaGreatDoor
