import Derived.Test.YtebheehjhnaklaaGreatDoorY3
import Derived.Lib.Replace
namespace Go.Proofs.YtebheehjhnaklaaGreatDoor
open Go
/-- a text without a byte -/
def wo (c : UInt8) (l : List UInt8) : List UInt8 := l.filter (fun b => !(b == c))
theorem wo_append (c : UInt8) (a b : List UInt8) : wo c (a ++ b) = wo c a ++ wo c b := by simp [wo]
theorem wo_self {c : UInt8} {l : List UInt8} (h : ∀ b ∈ l, b ≠ c) : wo c l = l := by
  unfold wo
  rw [List.filter_eq_self]
  intro b hb
  simp [h b hb]
theorem wo_len (c : UInt8) (l : List UInt8) : (wo c l).length ≤ l.length := List.length_filter_le _ _
theorem wo_free (c : UInt8) (l : List UInt8) : ∀ b ∈ wo c l, b ≠ c := by
  intro b hb e
  simp [wo, e] at hb
theorem wo_len_eq {c : UInt8} {l : List UInt8} (h : (wo c l).length = l.length) : ∀ b ∈ l, b ≠ c := by
  have e : wo c l = l := List.filter_eq_self.2 (List.length_filter_eq_length_iff.1 h)
  intro b hb
  rw [← e] at hb
  exact wo_free c l b hb
/-- the first place of a byte -/
theorem index_one_cases (c : UInt8) : ∀ l : List UInt8, (Lib.index l [c] = -1 ∧ ∀ b ∈ l, b ≠ c) ∨ ∃ i : Nat, Lib.index l [c] = i ∧ i < l.length ∧ (∀ b ∈ l.take i, b ≠ c) ∧ l = l.take i ++ c :: l.drop (i + 1)
  | [] => .inl ⟨rfl, fun b hb => by cases hb⟩
  | b :: l => by
    by_cases hb : b = c
    · subst hb
      exact .inr ⟨0, by simp [Lib.index], by simp, by simp, by simp⟩
    · have h0 : ([c] : List UInt8).isPrefixOf (b :: l) = false := by
        simp only [List.isPrefixOf, Bool.and_true]
        simpa using fun e => hb e.symm
      rcases index_one_cases c l with ⟨h1, h2⟩ | ⟨i, h1, hi, h2, h3⟩
      · refine .inl ⟨by simp [Lib.index, h0, h1], fun x hx => ?_⟩
        rcases List.mem_cons.1 hx with rfl | hx
        · exact hb
        · exact h2 x hx
      · refine .inr ⟨i + 1, ?_, by simp; omega, fun x hx => ?_, ?_⟩
        · have hne : ¬ ((i : Int) == -1) = true := fun e => by have := beq_iff_eq.1 e; omega
          simp only [Lib.index, h0, h1]
          rw [if_neg (by simp), if_neg hne]
          rfl
        · simp only [List.take_succ_cons] at hx
          rcases List.mem_cons.1 hx with rfl | hx
          · exact hb
          · exact h2 x hx
        · conv => lhs; rw [h3]
          simp
theorem replace_wo (c : UInt8) : ∀ (k : Nat) (l : List UInt8), l.length ≤ k → Lib.replaceK [c] [] (Lib.count l [c]) l = wo c l := by
  intro k
  induction k with
  | zero =>
    intro l hl
    obtain rfl : l = [] := List.length_eq_zero_iff.1 (by omega)
    rcases index_one_cases c [] with ⟨h1, h2⟩ | ⟨i, h1, hi, h2, h3⟩
    · rw [Lib.count_miss h1]; rfl
    · simp at hi
  | succ k ih =>
    intro l hl
    rcases index_one_cases c l with ⟨h1, h2⟩ | ⟨i, h1, hi, h2, h3⟩
    · rw [Lib.count_miss h1, wo_self h2]; rfl
    · have hd : (l.drop (i + 1)).length ≤ k := by rw [List.length_drop]; omega
      rw [Lib.count_hit (by simp) h1, Nat.add_comm 1, Lib.replaceK_hit _ _ _ _ i h1, List.length_singleton, ih _ hd]
      conv => rhs; rw [h3]
      rw [wo_append, wo_self h2, List.append_nil]
      congr 1
      simp [wo]
theorem replaceAll_wo (c : UInt8) (l : List UInt8) : Lib.replaceAll l [c] [] = wo c l := by
  have : Lib.replaceAll l [c] [] = Lib.replaceK [c] [] (Lib.count l [c]) l := by
    unfold Lib.replaceAll Lib.replace Lib.replaceNum
    rw [if_neg (by simp), if_pos (.inl (by omega))]
  rw [this]
  exact replace_wo c l.length l (Nat.le_refl _)
theorem wo_grpT (n : Nat) (c : UInt8) : ∀ l : List UInt8, wo c (grpT n [c] l) = wo c l
  | [] => rfl
  | b :: l => by
    rw [grpT, wo_append, show wo c (b :: grpT n [c] l) = wo c ([b] ++ grpT n [c] l) from rfl, wo_append, wo_grpT n c l, show wo c (b :: l) = wo c ([b] ++ l) from rfl, wo_append]
    split
    · simp [wo]
    · simp [wo]
theorem wo_grp (n : Nat) (c : UInt8) : ∀ l : List UInt8, wo c (grp n [c] l) = wo c l
  | [] => rfl
  | b :: l => by
    rw [grp, show wo c (b :: grpT n [c] l) = wo c ([b] ++ grpT n [c] l) from rfl, wo_append, wo_grpT n c l, show wo c (b :: l) = wo c ([b] ++ l) from rfl, wo_append]
end Go.Proofs.YtebheehjhnaklaaGreatDoor
