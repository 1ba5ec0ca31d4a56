import Derived.Test.YtejganoipbblcaaGreatDoorRC
import Derived.Test.YtejganoipbblcaaGreatDoorW0
import Derived.ProofKit
import Derived.Lib.SmallJoins
import Derived.Below
import Derived.ChangeSame
import Derived.ChangeSlices
import Derived.ChangeArms
import Derived.Carry
import Derived.Deep.Fields
import Derived.Test.YtejganoipbblcaaGreatDoorS6
namespace Go.Proofs.YtejganoipbblcaaGreatDoor
open Go.ChangeShapes Go.WideShapes Go.ChangeAt Go.RowKit Go.Joins

theorem Tryz.cellsSp : Tryz.prog.cellsOf 53 = 9 := by kernel_rfl
section
variable {H : Type} {enc : TypeId × Value → H} {P : Program}
set_option maxRecDepth 100000 in
theorem open_spec {W : World} {base : Nat} {v0 : Value} {d0 : DataW H} {p0 : List MemPlace} (hval : Value.okWide Tryz.prog W .any base 53 v0) (h0 : DataW.Trod enc Tryz.prog W 0 (fun _ => true) true 53 v0 d0 p0) :
    ∃ f al si alt ze wi gr pr t, v0 = .agg #[.string f, .int .i64 al, .int .i64 si, .bool alt, .bool ze, .int .i64 wi, .int .i64 gr, .int .i64 pr, .string t] ∧ f.size ≤ 9223372036854775807 ∧ t.size ≤ 9223372036854775807 := by
  obtain ⟨cs, rfl, hsz⟩ := okWide_struct Tryz.underlying53 hval
  rw [Tryz.cellsSp] at hsz
  obtain ⟨c0, c1, c2, c3, c4, c5, c6, c7, c8, rfl⟩ : ∃ c0 c1 c2 c3 c4 c5 c6 c7 c8, cs = #[c0, c1, c2, c3, c4, c5, c6, c7, c8] := by
    obtain ⟨l⟩ := cs
    match l, hsz with
    | [c0, c1, c2, c3, c4, c5, c6, c7, c8], _ => exact ⟨c0, c1, c2, c3, c4, c5, c6, c7, c8, rfl⟩
  obtain ⟨fuel, hf⟩ := h0
  obtain ⟨xs, n, _, _, hl, hlen, hx⟩ := DataW.trod_struct Tryz.underlying53 hf
  obtain ⟨y0, y1, y2, y3, y4, y5, y6, y7, y8, rfl⟩ : ∃ y0 y1 y2 y3 y4 y5 y6 y7 y8, xs = [y0, y1, y2, y3, y4, y5, y6, y7, y8] := by
    match xs, hlen with
    | [y0, y1, y2, y3, y4, y5, y6, y7, y8], _ => exact ⟨y0, y1, y2, y3, y4, y5, y6, y7, y8, rfl⟩
  have g0 : DataW.trod enc Tryz.prog W 0 (fun _ => true) true n 9 [c0] = some y0 := by
    have := hx 0 _ rfl
    simpa [Value.cells, cellsI, cellsBo, cellsSt] using this
  have g1 : DataW.trod enc Tryz.prog W 0 (fun _ => true) true n 3 [c1] = some y1 := by
    have := hx 1 _ rfl
    simpa [Value.cells, cellsI, cellsBo, cellsSt] using this
  have g2 : DataW.trod enc Tryz.prog W 0 (fun _ => true) true n 3 [c2] = some y2 := by
    have := hx 2 _ rfl
    simpa [Value.cells, cellsI, cellsBo, cellsSt] using this
  have g3 : DataW.trod enc Tryz.prog W 0 (fun _ => true) true n 4 [c3] = some y3 := by
    have := hx 3 _ rfl
    simpa [Value.cells, cellsI, cellsBo, cellsSt] using this
  have g4 : DataW.trod enc Tryz.prog W 0 (fun _ => true) true n 4 [c4] = some y4 := by
    have := hx 4 _ rfl
    simpa [Value.cells, cellsI, cellsBo, cellsSt] using this
  have g5 : DataW.trod enc Tryz.prog W 0 (fun _ => true) true n 3 [c5] = some y5 := by
    have := hx 5 _ rfl
    simpa [Value.cells, cellsI, cellsBo, cellsSt] using this
  have g6 : DataW.trod enc Tryz.prog W 0 (fun _ => true) true n 3 [c6] = some y6 := by
    have := hx 6 _ rfl
    simpa [Value.cells, cellsI, cellsBo, cellsSt] using this
  have g7 : DataW.trod enc Tryz.prog W 0 (fun _ => true) true n 3 [c7] = some y7 := by
    have := hx 7 _ rfl
    simpa [Value.cells, cellsI, cellsBo, cellsSt] using this
  have g8 : DataW.trod enc Tryz.prog W 0 (fun _ => true) true n 9 [c8] = some y8 := by
    have := hx 8 _ rfl
    simpa [Value.cells, cellsI, cellsBo, cellsSt] using this
  obtain ⟨f, e0, _, hs0⟩ := DataW.trod_string Tryz.underlying9 g0
  obtain ⟨al, e1, _⟩ := DataW.trod_int Tryz.underlying3 g1
  obtain ⟨si, e2, _⟩ := DataW.trod_int Tryz.underlying3 g2
  obtain ⟨alt, e3, _⟩ := DataW.trod_bool Tryz.underlying4 g3
  obtain ⟨ze, e4, _⟩ := DataW.trod_bool Tryz.underlying4 g4
  obtain ⟨wi, e5, _⟩ := DataW.trod_int Tryz.underlying3 g5
  obtain ⟨gr, e6, _⟩ := DataW.trod_int Tryz.underlying3 g6
  obtain ⟨pr, e7, _⟩ := DataW.trod_int Tryz.underlying3 g7
  obtain ⟨t, e8, _, hs8⟩ := DataW.trod_string Tryz.underlying9 g8
  simp at e0 e1 e2 e3 e4 e5 e6 e7 e8
  subst e0 e1 e2 e3 e4 e5 e6 e7 e8
  exact ⟨f, al, si, alt, ze, wi, gr, pr, t, rfl, by simp only [maxLen] at hs0; omega, by simp only [maxLen] at hs8; omega⟩
theorem spec_back {W W' : World} {v0 : Value} {d0 : DataW H} {p0 : List MemPlace} {sp : Nat → Bool} (h0 : DataW.Trod enc Tryz.prog W 0 (fun _ => true) true 53 v0 d0 p0) (hb : Below W.heap.size W W') (hlt : ∀ x ∈ p0, x.block < W.heap.size) (hsp : ∀ x ∈ p0, sp x.block = true) :
    DataW.Trod enc Tryz.prog W' 0 sp true 53 v0 d0 p0 :=
  WideElems.Trod_stays (by kernel_rfl) (by kernel_rfl) (of_decide_eq_true (by kernel_rfl)) h0 (fun x hx => hb.same (hlt x hx)) hsp
end
set_option maxHeartbeats 2000000 in
theorem toSpec_any (f : ByteArray) (al si : Int) (alt ze : Bool) (wi gr pr : Int) (t : ByteArray) (w : World) :
    Calls Tryz.prog 36 #[.agg #[.string f, .int .i64 al, .int .i64 si, .bool alt, .bool ze, .int .i64 wi, .int .i64 gr, .int .i64 pr, .string t]] w fun r w' => r = .returned (.agg #[.string f, .int .i64 al, .int .i64 si, .bool alt, .bool ze, .int .i64 wi, .int .i64 gr, .int .i64 pr, .string t]) ∧ Below w.heap.size w w' := by
  go_enter Tryz.func36, Tryz.ntmps36
  go_wp2
  exact bodyPost_ret (v := .agg #[.string f, .int .i64 al, .int .i64 si, .bool alt, .bool ze, .int .i64 wi, .int .i64 gr, .int .i64 pr, .string t]) (by simp [results, Tryz.results36, go_sem]) rfl ⟨rfl, (by repeat (first | with_reducible exact Below.refl _ _ | with_reducible assumption | with_reducible refine Below.setCell ?_ (by first | omega | (simp; done) | (simp <;> omega)) _ | with_reducible refine below_drewN ?_ _ | with_reducible refine Below.drew ?_ | with_reducible refine Below.alloc ?_ (by first | omega | (simp; done) | (simp <;> omega)) _))⟩
set_option maxHeartbeats 2000000 in
theorem szSpec_any (f : ByteArray) (al si : Int) (alt ze : Bool) (wi gr pr : Int) (t : ByteArray) (w : World) (hf : f.size ≤ 9223372036854775807) (ht : t.size ≤ 9223372036854775807) :
    Calls Tryz.prog 34 #[.agg #[.string f, .int .i64 al, .int .i64 si, .bool alt, .bool ze, .int .i64 wi, .int .i64 gr, .int .i64 pr, .string t], .int .i64 1048576] w fun r w' => (∃ x, r = .returned (.int .i64 x)) ∧ Below w.heap.size w w' := by
  go_enter Tryz.func34, Tryz.ntmps34
  go_wp2
  all_goals go_ret
  all_goals exact ⟨⟨_, rfl⟩, (by repeat (first | with_reducible exact Below.refl _ _ | with_reducible assumption | with_reducible refine Below.setCell ?_ (by first | omega | (simp; done) | (simp <;> omega)) _ | with_reducible refine below_drewN ?_ _ | with_reducible refine Below.drew ?_ | with_reducible refine Below.alloc ?_ (by first | omega | (simp; done) | (simp <;> omega)) _))⟩
end Go.Proofs.YtejganoipbblcaaGreatDoor
namespace Go.Proofs.YtejganoipbblcaaGreatDoor
open Go.ChangeShapes Go.WideShapes Go.ChangeAt Go.RowKit Go.Joins
theorem Tryz.cellsVa : Tryz.prog.cellsOf 56 = 6 := by kernel_rfl
theorem cellsDe : Tryz.prog.cellsOf 54 = 3 := by kernel_rfl
section
variable {H : Type} {enc : TypeId × Value → H} {P : Program}
set_option maxRecDepth 100000 in
theorem open_value {W : World} {base : Nat} {v0 : Value} {d0 : DataW H} {p0 : List MemPlace} (hval : Value.okWide Tryz.prog W .any base 56 v0) (h0 : DataW.Trod enc Tryz.prog W 0 (fun _ => true) true 56 v0 d0 p0) :
    ∃ (k i : Int) (n : Bool) (c e : Int) (x : ByteArray), v0 = .agg #[.int .i64 k, .int .i64 i, .bool n, .int .i64 c, .int .i64 e, .string x] ∧ x.size ≤ 9223372036854775807 := by
  obtain ⟨cs, rfl, hsz⟩ := okWide_struct Tryz.underlying56 hval
  rw [Tryz.cellsVa] at hsz
  obtain ⟨c0, c1, c2, c3, c4, c5, rfl⟩ : ∃ c0 c1 c2 c3 c4 c5, cs = #[c0, c1, c2, c3, c4, c5] := by
    obtain ⟨l⟩ := cs
    match l, hsz with
    | [c0, c1, c2, c3, c4, c5], _ => exact ⟨c0, c1, c2, c3, c4, c5, rfl⟩
  obtain ⟨fuel, hf⟩ := h0
  obtain ⟨xs, n, _, _, hl, hlen, hx⟩ := DataW.trod_struct Tryz.underlying56 hf
  obtain ⟨y0, y1, y2, y3, rfl⟩ : ∃ y0 y1 y2 y3, xs = [y0, y1, y2, y3] := by
    match xs, hlen with
    | [y0, y1, y2, y3], _ => exact ⟨y0, y1, y2, y3, rfl⟩
  have g0 : DataW.trod enc Tryz.prog W 0 (fun _ => true) true n 3 [c0] = some y0 := by
    have := hx 0 _ rfl
    simpa [Value.cells, cellsI, cellsBo, cellsSt, cellsDe] using this
  have g1 : DataW.trod enc Tryz.prog W 0 (fun _ => true) true n 3 [c1] = some y1 := by
    have := hx 1 _ rfl
    simpa [Value.cells, cellsI, cellsBo, cellsSt, cellsDe] using this
  have g2 : DataW.trod enc Tryz.prog W 0 (fun _ => true) true n 54 [c2, c3, c4] = some y2 := by
    have := hx 2 _ rfl
    simpa [Value.cells, cellsI, cellsBo, cellsSt, cellsDe] using this
  have g3 : DataW.trod enc Tryz.prog W 0 (fun _ => true) true n 9 [c5] = some y3 := by
    have := hx 3 _ rfl
    simpa [Value.cells, cellsI, cellsBo, cellsSt, cellsDe] using this
  obtain ⟨xs2, n2, _, _, hl2, hlen2, hx2⟩ := DataW.trod_struct Tryz.underlying54 g2
  obtain ⟨u0, u1, u2, rfl⟩ : ∃ u0 u1 u2, xs2 = [u0, u1, u2] := by
    match xs2, hlen2 with
    | [u0, u1, u2], _ => exact ⟨u0, u1, u2, rfl⟩
  have q0 : DataW.trod enc Tryz.prog W 0 (fun _ => true) true n2 4 [c2] = some u0 := by
    have := hx2 0 _ rfl
    simpa [Value.cells, cellsI, cellsBo, cellsSt, cellsDe] using this
  have q1 : DataW.trod enc Tryz.prog W 0 (fun _ => true) true n2 3 [c3] = some u1 := by
    have := hx2 1 _ rfl
    simpa [Value.cells, cellsI, cellsBo, cellsSt, cellsDe] using this
  have q2 : DataW.trod enc Tryz.prog W 0 (fun _ => true) true n2 3 [c4] = some u2 := by
    have := hx2 2 _ rfl
    simpa [Value.cells, cellsI, cellsBo, cellsSt, cellsDe] using this
  obtain ⟨k, e0, _⟩ := DataW.trod_int Tryz.underlying3 g0
  obtain ⟨i, e1, _⟩ := DataW.trod_int Tryz.underlying3 g1
  obtain ⟨nb, e2, _⟩ := DataW.trod_bool Tryz.underlying4 q0
  obtain ⟨c, e3, _⟩ := DataW.trod_int Tryz.underlying3 q1
  obtain ⟨e, e4, _⟩ := DataW.trod_int Tryz.underlying3 q2
  obtain ⟨x, e5, _, hs⟩ := DataW.trod_string Tryz.underlying9 g3
  simp at e0 e1 e2 e3 e4 e5
  subst e0 e1 e2 e3 e4 e5
  exact ⟨k, i, nb, c, e, x, rfl, by simp only [maxLen] at hs; omega⟩
theorem value_back {W W' : World} {v0 : Value} {d0 : DataW H} {p0 : List MemPlace} {sp : Nat → Bool} (h0 : DataW.Trod enc Tryz.prog W 0 (fun _ => true) true 56 v0 d0 p0) (hb : Below W.heap.size W W') (hlt : ∀ x ∈ p0, x.block < W.heap.size) (hsp : ∀ x ∈ p0, sp x.block = true) :
    DataW.Trod enc Tryz.prog W' 0 sp true 56 v0 d0 p0 :=
  WideElems.Trod_stays (by kernel_rfl) (by kernel_rfl) (of_decide_eq_true (by kernel_rfl)) h0 (fun x hx => hb.same (hlt x hx)) hsp
end
end Go.Proofs.YtejganoipbblcaaGreatDoor
namespace Go.Proofs.YtejganoipbblcaaGreatDoor
open Go.ChangeShapes Go.WideShapes Go.ChangeAt Go.RowKit Go.Joins

theorem Tryz.cellsL : Tryz.prog.cellsOf 54 = 3 := by kernel_rfl
theorem readsDec {H : Type} {enc : TypeId × Value → H} {w : World} {base : Nat} {sp : Nat → Bool} {hd : Bool} (n : Bool) {c e : Int} (wc : (Lit.int .i64 c).wf = true) (we : (Lit.int .i64 e).wf = true) :
    DataW.Trod enc Tryz.prog w base sp hd 54 (.agg #[.bool n, .int .i64 c, .int .i64 e]) (.agg [.lit (.bool n), .lit (.int .i64 c), .lit (.int .i64 e)]) [] := by
  simpa using shut_agg3 (enc := enc) (w := w) (base := base) (spare := sp) (held := hd) (y0 := (.lit (.bool n), [])) (y1 := (.lit (.int .i64 c), [])) (y2 := (.lit (.int .i64 e), [])) Tryz.underlying54 (by kernel_rfl) Tryz.cellsL ⟨1, by simp [DataW.trod, Tryz.underlying4]⟩ ⟨1, by simp [DataW.trod, Tryz.underlying3, wc]⟩ ⟨1, by simp [DataW.trod, Tryz.underlying3, we]⟩

set_option maxHeartbeats 400000 in
theorem toDec_any (n : Bool) (c e : Int) (w : World) :
    Calls Tryz.prog 85 #[.agg #[.bool n, .int .i64 c, .int .i64 e]] w fun r w' => r = .returned (.agg #[.bool n, .int .i64 c, .int .i64 e]) ∧ Below w.heap.size w w' := by
  go_enter Tryz.func85, Tryz.ntmps85
  go_wp2
  exact bodyPost_ret (v := .agg #[.bool n, .int .i64 c, .int .i64 e]) (by simp [results, Tryz.results85, go_sem]) rfl ⟨rfl, (by repeat (first | with_reducible exact Below.refl _ _ | with_reducible assumption | with_reducible refine Below.setCell ?_ (by first | omega | (simp; done) | (simp <;> omega)) _ | with_reducible refine below_drewN ?_ _ | with_reducible refine Below.drew ?_ | with_reducible refine Below.alloc ?_ (by first | omega | (simp; done) | (simp <;> omega)) _))⟩

end Go.Proofs.YtejganoipbblcaaGreatDoor
