import Derived.Test.YtffdgpahbdmacaaRCS
namespace Go.Proofs.Ytffdgpahbdmacaa
open Go.ChangeShapes Go.WideShapes Go.ChangeAt Go.RowKit Go.Joins
theorem Try.cellsVa : Try.prog.cellsOf 57 = 6 := by kernel_rfl
theorem cellsDe : Try.prog.cellsOf 55 = 3 := by kernel_rfl
section
variable {H : Type} {enc : TypeId × Value → H} {P : Program}
set_option maxRecDepth 100000 in
theorem open_value {W : World} {base : Nat} {v0 : Value} {d0 : DataW H} {p0 : List MemPlace} (hval : Value.okWide Try.prog W .any base 57 v0) (h0 : DataW.Trod enc Try.prog W 0 (fun _ => true) true 57 v0 d0 p0) :
    ∃ (k i : Int) (n : Bool) (c e : Int) (x : ByteArray), v0 = .agg #[.int .i64 k, .int .i64 i, .bool n, .int .i64 c, .int .i64 e, .string x] ∧ x.size ≤ 9223372036854775807 := by
  obtain ⟨cs, rfl, hsz⟩ := okWide_struct Try.underlying57 hval
  rw [Try.cellsVa] at hsz
  obtain ⟨c0, c1, c2, c3, c4, c5, rfl⟩ : ∃ c0 c1 c2 c3 c4 c5, cs = #[c0, c1, c2, c3, c4, c5] := by
    obtain ⟨l⟩ := cs
    match l, hsz with
    | [c0, c1, c2, c3, c4, c5], _ => exact ⟨c0, c1, c2, c3, c4, c5, rfl⟩
  obtain ⟨fuel, hf⟩ := h0
  obtain ⟨xs, n, _, _, hl, hlen, hx⟩ := DataW.trod_struct Try.underlying57 hf
  obtain ⟨y0, y1, y2, y3, rfl⟩ : ∃ y0 y1 y2 y3, xs = [y0, y1, y2, y3] := by
    match xs, hlen with
    | [y0, y1, y2, y3], _ => exact ⟨y0, y1, y2, y3, rfl⟩
  have g0 : DataW.trod enc Try.prog W 0 (fun _ => true) true n 3 [c0] = some y0 := by
    have := hx 0 _ rfl
    simpa [Value.cells, cellsI, cellsBo, cellsSt, cellsDe] using this
  have g1 : DataW.trod enc Try.prog W 0 (fun _ => true) true n 3 [c1] = some y1 := by
    have := hx 1 _ rfl
    simpa [Value.cells, cellsI, cellsBo, cellsSt, cellsDe] using this
  have g2 : DataW.trod enc Try.prog W 0 (fun _ => true) true n 55 [c2, c3, c4] = some y2 := by
    have := hx 2 _ rfl
    simpa [Value.cells, cellsI, cellsBo, cellsSt, cellsDe] using this
  have g3 : DataW.trod enc Try.prog W 0 (fun _ => true) true n 9 [c5] = some y3 := by
    have := hx 3 _ rfl
    simpa [Value.cells, cellsI, cellsBo, cellsSt, cellsDe] using this
  obtain ⟨xs2, n2, _, _, hl2, hlen2, hx2⟩ := DataW.trod_struct Try.underlying55 g2
  obtain ⟨u0, u1, u2, rfl⟩ : ∃ u0 u1 u2, xs2 = [u0, u1, u2] := by
    match xs2, hlen2 with
    | [u0, u1, u2], _ => exact ⟨u0, u1, u2, rfl⟩
  have q0 : DataW.trod enc Try.prog W 0 (fun _ => true) true n2 4 [c2] = some u0 := by
    have := hx2 0 _ rfl
    simpa [Value.cells, cellsI, cellsBo, cellsSt, cellsDe] using this
  have q1 : DataW.trod enc Try.prog W 0 (fun _ => true) true n2 3 [c3] = some u1 := by
    have := hx2 1 _ rfl
    simpa [Value.cells, cellsI, cellsBo, cellsSt, cellsDe] using this
  have q2 : DataW.trod enc Try.prog W 0 (fun _ => true) true n2 3 [c4] = some u2 := by
    have := hx2 2 _ rfl
    simpa [Value.cells, cellsI, cellsBo, cellsSt, cellsDe] using this
  obtain ⟨k, e0, _⟩ := DataW.trod_int Try.underlying3 g0
  obtain ⟨i, e1, _⟩ := DataW.trod_int Try.underlying3 g1
  obtain ⟨nb, e2, _⟩ := DataW.trod_bool Try.underlying4 q0
  obtain ⟨c, e3, _⟩ := DataW.trod_int Try.underlying3 q1
  obtain ⟨e, e4, _⟩ := DataW.trod_int Try.underlying3 q2
  obtain ⟨x, e5, _, hs⟩ := DataW.trod_string Try.underlying9 g3
  simp at e0 e1 e2 e3 e4 e5
  subst e0 e1 e2 e3 e4 e5
  exact ⟨k, i, nb, c, e, x, rfl, by simp only [maxLen] at hs; omega⟩
theorem value_back {W W' : World} {v0 : Value} {d0 : DataW H} {p0 : List MemPlace} {sp : Nat → Bool} (h0 : DataW.Trod enc Try.prog W 0 (fun _ => true) true 57 v0 d0 p0) (hb : Below W.heap.size W W') (hlt : ∀ x ∈ p0, x.block < W.heap.size) (hsp : ∀ x ∈ p0, sp x.block = true) :
    DataW.Trod enc Try.prog W' 0 sp true 57 v0 d0 p0 :=
  WideElems.Trod_stays (by kernel_rfl) (by kernel_rfl) (of_decide_eq_true (by kernel_rfl)) h0 (fun x hx => hb.same (hlt x hx)) hsp
end
end Go.Proofs.Ytffdgpahbdmacaa
