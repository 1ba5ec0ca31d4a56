import Derived.Test.YteaaopippeploaaV6
import Derived.Test.YteaaopippeploaaR2
import Derived.ChangeSlices
import Derived.OpenShut
import Derived.ChangeMaps5
namespace Go.Proofs.Yteaaopippeploaa
open Go.ChangeShapes Go.WideShapes Go.ChangeAt Go.RowKit Go.Joins

theorem Try.cellsB : Try.prog.cellsOf 5 = 1 := by kernel_rfl
section
variable {H : Type} {enc : TypeId × Value → H} {P : Program}
/-- a slice of bytes that came in -/
theorem open_code {W : World} {base : Nat} {v0 : Value} {d0 : DataW H} {p0 : List MemPlace} (hval : Value.okWide Try.prog W .any base 22 v0) (h0 : DataW.Trod enc Try.prog W 0 (fun _ => true) true 22 v0 d0 p0) :
    ∃ s len cap, v0 = .slice s len cap ∧ len ≤ cap ∧ CodeAt s len W.heap.size W := by
  obtain ⟨a1, len, cap, rfl⟩ := okWide_slice Try.underlying22 hval
  obtain ⟨fuel, hf⟩ := h0
  refine ⟨a1, len, cap, rfl, ?_⟩
  rcases open_ints Try.underlying22 Try.underlying5 Try.cellsB hf with ⟨hcs, hx⟩ | ⟨a, len', cap', zs, hcs, _, hl, hm, hz, hx, hcell, hwz⟩
  · simp [Value.cells] at hcs
    obtain ⟨rfl, rfl, rfl⟩ := hcs
    exact ⟨Nat.le_refl _, .inl rfl⟩
  · simp [Value.cells] at hcs
    obtain ⟨rfl, rfl, rfl⟩ := hcs
    simp only [if_true] at hz
    refine ⟨hl, ?_⟩
    by_cases h : len = 0
    · exact .inl h
    right
    have h0 := hcell 0 (by omega)
    obtain ⟨ab, ao, spot⟩ := a
    have hspot : spot = none := by simpa [Addr.add] using World.cell?_spot h0
    subst hspot
    refine ⟨ab, ao, fun i => zs.getD i 0, rfl, World.block_lt_of_cell? _ _ h0, fun i hi => ?_⟩
    have hb := range_u8 hwz i
    rw [← List.getD_eq_getElem?_getD] at hb
    exact ⟨by have := hcell i (by omega); rwa [Addr.add_lit] at this, hb.1, hb.2⟩
theorem code_back {W W' : World} {v0 : Value} {d0 : DataW H} {p0 : List MemPlace} {sp : Nat → Bool} (h0 : DataW.Trod enc Try.prog W 0 (fun _ => true) true 22 v0 d0 p0) (hb : Below W.heap.size W W') (hlt : ∀ x ∈ p0, x.block < W.heap.size) (hsp : ∀ x ∈ p0, sp x.block = true) :
    DataW.Trod enc Try.prog W' 0 sp true 22 v0 d0 p0 :=
  WideElems.Trod_stays (by kernel_rfl) (by kernel_rfl) (of_decide_eq_true (by kernel_rfl)) h0 (fun x hx => hb.same (hlt x hx)) hsp
end

end Go.Proofs.Yteaaopippeploaa
