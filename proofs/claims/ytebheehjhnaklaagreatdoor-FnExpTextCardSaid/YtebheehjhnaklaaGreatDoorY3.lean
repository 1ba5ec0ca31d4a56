import Derived.Test.YtebheehjhnaklaaGreatDoorC3T
namespace Go.Proofs.YtebheehjhnaklaaGreatDoor
/-- digits behind the first one, with a mark ahead of each group of n from the end -/
def grpT (n : Nat) (sep : List UInt8) : List UInt8 → List UInt8
  | [] => []
  | b :: l => (if (l.length + 1) % n = 0 then sep else []) ++ b :: grpT n sep l
/-- digits with a mark between groups of n from the end -/
def grp (n : Nat) (sep : List UInt8) : List UInt8 → List UInt8
  | [] => []
  | b :: l => b :: grpT n sep l
theorem grpT_skip (n : Nat) (sep : List UInt8) : ∀ (a c : List UInt8), a.length < n → c.length % n = 0 → grpT n sep (a ++ c) = a ++ grpT n sep c
  | [], c, _, _ => by simp
  | b :: a, c, h, hc => by
    simp only [List.length_cons] at h
    have h1 : ¬ ((a ++ c).length + 1) % n = 0 := by
      obtain ⟨q, hq⟩ : ∃ q, c.length = n * q := ⟨c.length / n, by have := Nat.div_add_mod c.length n; omega⟩
      rw [List.length_append, hq, show a.length + n * q + 1 = (a.length + 1) + n * q by omega, Nat.add_mul_mod_self_left, Nat.mod_eq_of_lt (by omega)]
      omega
    simp only [List.cons_append, grpT, if_neg h1, List.nil_append]
    rw [grpT_skip n sep a c (by omega) hc]
theorem grpT_full (n : Nat) (sep : List UInt8) {g c : List UInt8} (hn : 1 ≤ n) (hg : g.length = n) (hc : c.length % n = 0) : grpT n sep (g ++ c) = sep ++ (g ++ grpT n sep c) := by
  match g, hg with
  | [], hg => simp at hg; omega
  | b :: a, hg =>
    simp only [List.length_cons] at hg
    have h1 : ((a ++ c).length + 1) % n = 0 := by
      rw [List.length_append, show a.length + c.length + 1 = c.length + n by omega, Nat.add_mod_right]
      exact hc
    simp only [List.cons_append, grpT, if_pos h1]
    rw [grpT_skip n sep a c (by omega) hc]
/-- the first group has what the others leave -/
theorem grp_head (n : Nat) (sep : List UInt8) {g c : List UInt8} (hn : 1 ≤ n) (hg : g.length = (g.length + c.length - 1) % n + 1) (hc : c.length % n = 0) : grp n sep (g ++ c) = g ++ grpT n sep c := by
  match g, hg with
  | [], hg => simp at hg
  | b :: a, hg =>
    simp only [List.length_cons] at hg
    have : a.length < n := by
      have := Nat.mod_lt (a.length + 1 + c.length - 1) (show 0 < n by omega)
      omega
    simp only [List.cons_append, grp]
    rw [grpT_skip n sep a c this hc]
theorem grpT_length (n : Nat) : ∀ (sep : List UInt8) (l : List UInt8), sep.length ≤ 1 → (grpT n sep l).length ≤ 2 * l.length
  | _, [], _ => by simp [grpT]
  | sep, b :: l, h => by
    have := grpT_length n sep l h
    simp only [grpT, List.length_append, List.length_cons]
    split <;> simp <;> omega
theorem grp_length (n : Nat) (sep l : List UInt8) (h : sep.length ≤ 1) : (grp n sep l).length ≤ 2 * l.length := by
  cases l with
  | nil => simp [grp]
  | cons b l => have := grpT_length n sep l h; simp [grp]; omega
end Go.Proofs.YtebheehjhnaklaaGreatDoor
