import Derived.Test.YtehocgedlepajaaQ2
namespace Go.Proofs.Ytehocgedlepajaa
open Go.RowKit
theorem C3.set3 {w : World} {g : Nat} {x0 y0 z0 : Value} (h : C3 w g x0 y0 z0) (x y z : Value) : C3 (((w.setCell ⟨g, 0, none⟩ x).setCell ⟨g, 1, none⟩ y).setCell ⟨g, 2, none⟩ z) g x y z := by
  obtain ⟨a, b, c, d, e, f, u⟩ := h
  obtain ⟨q0, q1, q2⟩ := _root_.Go.Proofs.Ytehocgedlepajaa.set3 a b c x y z
  exact ⟨q0, q1, q2, by rw [set_frozen, set_frozen, set_frozen]; exact d, by rw [set_frozen, set_frozen, set_frozen]; exact e, by rw [set_frozen, set_frozen, set_frozen]; exact f, by simpa [World.setCell] using u⟩
end Go.Proofs.Ytehocgedlepajaa
