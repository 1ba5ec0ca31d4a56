import Derived.Test.YtkpdpohnbnpelaaDoorX2
namespace Go.Proofs.YtkpdpohnbnpelaaDoor
open Go.RowKit
theorem ext_take (k : Nat) (l : List UInt8) : (⟨l.toArray⟩ : ByteArray).extract 0 k = ⟨(l.take k).toArray⟩ := by
  apply ByteArray.ext
  rw [ByteArray.data_extract]
  apply Array.ext'
  rw [Array.toList_extract]
  simp [List.extract_eq_take_drop]
theorem ext_drop (k : Nat) (l : List UInt8) : (⟨l.toArray⟩ : ByteArray).extract k l.length = ⟨(l.drop k).toArray⟩ := by
  apply ByteArray.ext
  rw [ByteArray.data_extract]
  apply Array.ext'
  rw [Array.toList_extract]
  simp only [List.extract_eq_take_drop, List.toList_toArray]
  exact List.take_of_length_le (by rw [List.length_drop]; exact Nat.le_refl _)
/-- what the model leaves of a prefix -/
def preD (P D : List UInt8) : List UInt8 := if P ≠ [] ∧ P.length < D.length ∧ D.take P.length = P then D.drop P.length else D
theorem tyPre_len {t : List UInt8} (h : TyOk t) : tyPre t = [] ∨ (tyPre t).length = 2 := by rcases h with rfl | rfl | rfl | rfl | rfl | rfl <;> decide
theorem pre_cases {P D : List UInt8} (hP : P = [] ∨ P.length = 2) :
    (P = [] ∧ preD P D = D) ∨ (P.isEmpty = false ∧ P.length = 2 ∧ D.length ≤ 2 ∧ preD P D = D) ∨
    (P.isEmpty = false ∧ P.length = 2 ∧ 2 < D.length ∧ (∃ Q : List UInt8, D.take 2 = Q ∧ (Q == P) = false) ∧ preD P D = D) ∨
    (P.isEmpty = false ∧ P.length = 2 ∧ 2 < D.length ∧ D.take 2 = P ∧ preD P D = D.drop 2) := by
  rcases hP with rfl | hP
  · exact .inl ⟨rfl, by unfold preD; rw [if_neg (by simp)]⟩
  · right
    have hne : P ≠ [] := fun e => by rw [e] at hP; simp at hP
    have he : P.isEmpty = false := by cases P; exact absurd rfl hne; rfl
    by_cases h2 : 2 < D.length
    · right
      by_cases ht : D.take 2 = P
      · exact .inr ⟨he, hP, h2, ht, by unfold preD; rw [if_pos ⟨hne, by omega, by rw [hP]; exact ht⟩, hP]⟩
      · exact .inl ⟨he, hP, h2, ⟨_, rfl, by simpa using ht⟩, by unfold preD; rw [if_neg (by rw [hP]; exact fun h => ht h.2.2)]⟩
    · exact .inl ⟨he, hP, by omega, by unfold preD; rw [if_neg (by omega)]⟩
/-- a prefix alone has no digits -/
theorem bare_pre {t : List UInt8} (h : TyOk t) (gr : Int) (h0 : 0 ≤ gr) (h2 : gr ≤ 2) (hP : (tyPre t).length = 2) : grpV gr t (tyPre t) = -1 ∧ grpV gr t [] = -1 := by
  have hg : gr = 0 ∨ gr = 1 ∨ gr = 2 := by omega
  rcases h with rfl | rfl | rfl | rfl | rfl | rfl
  · simp [tyPre] at hP
  · simp [tyPre] at hP
  all_goals (rcases hg with rfl | rfl | rfl <;> decide +kernel)
theorem pre_same {t : List UInt8} (h : TyOk t) (gr : Int) (h0 : 0 ≤ gr) (h2 : gr ≤ 2) (D : List UInt8) : grpV gr t (preD (tyPre t) D) = grpV gr t (Lib.trimPrefix D (tyPre t)) := by
  have hp := @List.isPrefixOf_iff_prefix UInt8 _ _ (tyPre t) D
  rcases pre_cases (D := D) (tyPre_len h) with ⟨e, e2⟩ | ⟨_, hl, hd, e2⟩ | ⟨_, hl, hd, ⟨Q, hQ, hne⟩, e2⟩ | ⟨_, hl, hd, ht, e2⟩
  · rw [e2, e]
    rfl
  · rw [e2]
    unfold Lib.trimPrefix Lib.hasPrefix
    by_cases hpre : (tyPre t).isPrefixOf D = true
    · rw [if_pos hpre]
      obtain ⟨r, hr⟩ := hp.1 hpre
      have hr0 : r = [] := by
        rw [← hr, List.length_append] at hd
        exact List.length_eq_zero_iff.1 (by omega)
      rw [hr0, List.append_nil] at hr
      rw [← hr, List.drop_length]
      have := bare_pre h gr h0 h2 hl
      rw [this.1, this.2]
    · rw [if_neg hpre]
  · rw [e2]
    unfold Lib.trimPrefix Lib.hasPrefix
    rw [if_neg]
    intro hpre
    obtain ⟨r, hr⟩ := hp.1 hpre
    have : Q = tyPre t := by rw [← hQ, ← hr, ← hl, List.take_left]
    rw [this] at hne
    simp at hne
  · rw [e2]
    unfold Lib.trimPrefix Lib.hasPrefix
    have hpre : (tyPre t).isPrefixOf D = true := hp.2 ⟨D.drop 2, by
      have := List.take_append_drop 2 D
      rw [ht] at this
      exact this⟩
    rw [if_pos hpre, hl]
end Go.Proofs.YtkpdpohnbnpelaaDoor
