import Derived.Deep.QuietTactic
import Derived.Test.YtamlnbciejnbdaaGreatDoorU
namespace Go.Proofs.YtamlnbciejnbdaaGreatDoor
open Go.RowKit
/-- three cells of a block, as a later world has them -/
def C3 (w1 : World) (g : Nat) (x y z : Value) : Prop := w1.cell? ⟨g, 0, none⟩ = some x ∧ w1.cell? ⟨g, 1, none⟩ = some y ∧ w1.cell? ⟨g, 2, none⟩ = some z ∧
  w1.frozen? ⟨g, 0, none⟩ = false ∧ w1.frozen? ⟨g, 1, none⟩ = false ∧ w1.frozen? ⟨g, 2, none⟩ = false ∧ g < w1.heap.size
theorem C3.new (V : World) (x y z : Value) (t : TypeId) : C3 (V.alloc (.cells #[x, y, z] t)) V.heap.size x y z := by
  refine ⟨?_, ?_, ?_, ?_, ?_, ?_, ?_⟩ <;> simp [go_sem]
theorem C3.carry {V w1 : World} {g : Nat} {x y z : Value} (h : C3 V g x y z) (hb : Below V.heap.size V w1) : C3 w1 g x y z := by
  obtain ⟨a, b, c, d, e, f, u⟩ := h
  have hz := hb.size
  exact ⟨(hb.cell u).trans a, (hb.cell u).trans b, (hb.cell u).trans c, (hb.frozen u).trans d, (hb.frozen u).trans e, (hb.frozen u).trans f, by omega⟩
theorem C3.up {V : World} {g : Nat} {x y z : Value} (h : C3 V g x y z) (o : Obj) : C3 (V.alloc o) g x y z := h.carry ((Below.refl _ _).alloc (Nat.le_refl _) _)
theorem C3.drew {w : World} {g : Nat} {x y z : Value} (h : C3 w g x y z) : C3 w.drew g x y z := h
/-- a store into another block -/
theorem C3.far {w : World} {g : Nat} {x y z : Value} (h : C3 w g x y z) {b o : Nat} (v : Value) (hn : b ≠ g) : C3 (w.setCell ⟨b, o, none⟩ v) g x y z := by
  obtain ⟨a0, a1, a2, f0, f1, f2, u⟩ := h
  refine ⟨?_, ?_, ?_, ?_, ?_, ?_, ?_⟩
  · rw [World.cell?_setCell_far _ ⟨b, o, none⟩ _ _ hn]; exact a0
  · rw [World.cell?_setCell_far _ ⟨b, o, none⟩ _ _ hn]; exact a1
  · rw [World.cell?_setCell_far _ ⟨b, o, none⟩ _ _ hn]; exact a2
  · rw [set_frozen]; exact f0
  · rw [set_frozen]; exact f1
  · rw [set_frozen]; exact f2
  · simpa [World.setCell] using u
theorem C3.since {W : World} {g : Nat} {x y z : Value} (h : C3 W g x y z) : (∀ p : Since W, p.v.cell? ⟨g, 0, none⟩ = some x) ∧ (∀ p : Since W, p.v.cell? ⟨g, 1, none⟩ = some y) ∧ (∀ p : Since W, p.v.cell? ⟨g, 2, none⟩ = some z) :=
  ⟨fun p => (h.carry p.h).1, fun p => (h.carry p.h).2.1, fun p => (h.carry p.h).2.2.1⟩
end Go.Proofs.YtamlnbciejnbdaaGreatDoor
