import Derived.Test.YtehocgedlepajaaQ1
namespace Go.Proofs.Ytehocgedlepajaa
theorem cmpI_bd (a b : Fd.D) : -1 ≤ Fd.cmpI a b ∧ Fd.cmpI a b ≤ 1 := by
  have hc : ∀ x y : Int, -1 ≤ Fd.cmpInt x y ∧ Fd.cmpInt x y ≤ 1 := fun x y => by unfold Fd.cmpInt; split <;> (try split) <;> omega
  have ha : ∀ a b : Fd.D, -1 ≤ Fd.cmpAmtI a b ∧ Fd.cmpAmtI a b ≤ 1 := fun a b => by
    unfold Fd.cmpAmtI; split
    · exact hc _ _
    · exact hc _ _
  have := ha a b
  rw [Fd.cmp_eq]
  unfold Fd.cmpS Fd.cmpCoreS
  rw [Fd.cmpAmt_eq] at this
  have h2 := ha b a
  rw [Fd.cmpAmt_eq] at h2
  split
  · split
    · exact hc _ _
    · split
      · omega
      · split <;> omega
  · omega
theorem addI_valid {a b : Fd.D} (h : (Fd.addI a b).2 = true) : Fd.vldP (Fd.addI a b).1 := by
  obtain ⟨ha, hb⟩ := Fd.add_yes h
  rcases Fd.addI_ok ha hb with ⟨_, n1, _⟩ | ⟨f, _⟩
  · exact n1.1
  · rw [f] at h; exact absurd h (by decide)
end Go.Proofs.Ytehocgedlepajaa
