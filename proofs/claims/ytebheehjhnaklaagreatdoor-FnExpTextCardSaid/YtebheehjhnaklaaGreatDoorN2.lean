import Derived.Test.YtebheehjhnaklaaGreatDoorY3
import Derived.Lib.Replace
namespace Go.Proofs.YtebheehjhnaklaaGreatDoor
open Go
/-- the first place of a byte -/
theorem index_one_cases (c : UInt8) : ∀ l : List UInt8, (Lib.index l [c] = -1 ∧ ∀ b ∈ l, b ≠ c) ∨ ∃ i : Nat, Lib.index l [c] = i ∧ i < l.length ∧ (∀ b ∈ l.take i, b ≠ c) ∧ l = l.take i ++ c :: l.drop (i + 1)
  | [] => .inl ⟨rfl, fun b hb => by cases hb⟩
  | b :: l => by
    by_cases hb : b = c
    · subst hb
      exact .inr ⟨0, by simp [Lib.index], by simp, by simp, by simp⟩
    · have h0 : ([c] : List UInt8).isPrefixOf (b :: l) = false := by
        simp only [List.isPrefixOf, Bool.and_true]
        simpa using fun e => hb e.symm
      rcases index_one_cases c l with ⟨h1, h2⟩ | ⟨i, h1, hi, h2, h3⟩
      · refine .inl ⟨by simp [Lib.index, h0, h1], fun x hx => ?_⟩
        rcases List.mem_cons.1 hx with rfl | hx
        · exact hb
        · exact h2 x hx
      · refine .inr ⟨i + 1, ?_, by simp; omega, fun x hx => ?_, ?_⟩
        · have hne : ¬ ((i : Int) == -1) = true := fun e => by have := beq_iff_eq.1 e; omega
          simp only [Lib.index, h0, h1]
          rw [if_neg (by simp), if_neg hne]
          rfl
        · simp only [List.take_succ_cons] at hx
          rcases List.mem_cons.1 hx with rfl | hx
          · exact hb
          · exact h2 x hx
        · conv => lhs; rw [h3]
          simp
end Go.Proofs.YtebheehjhnaklaaGreatDoor
