import Derived.Test.YteaaopippeploaaV5
import Derived.ProofKit
import Derived.Lib.SmallJoins
import Derived.Below
import Derived.ChangeSame
import Derived.ChangeSlices
import Derived.ChangeArms
import Derived.Carry
import Derived.Deep.Fields
namespace Go.Proofs.Yteaaopippeploaa
open Go.ChangeShapes Go.WideShapes Go.ChangeAt Go.RowKit Go.Joins

theorem Try.own : ownKnob Try.prog.godebug = none := by kernel_rfl
theorem Try.cellsSp : Try.prog.cellsOf 33 = 9 := by kernel_rfl
theorem cellsI : Try.prog.cellsOf 3 = 1 := by kernel_rfl
theorem cellsBo : Try.prog.cellsOf 4 = 1 := by kernel_rfl
theorem cellsSt : Try.prog.cellsOf 9 = 1 := by kernel_rfl
section
variable {H : Type} {enc : TypeId × Value → H} {P : Program}
/-- the row's last step where all that is known of the world is that nothing old has turned (after a note of the guide's) -/
theorem post_of_below {f : Func} {s : ChangeSpec} {apart fresh handsOn again : Bool} {W W' : World} {args : Array Value} {v : Value} {ds gs : List (DataW H)} {before pa pv : List MemPlace}
    (hW : DataW.Whole enc P f.params.toList s.vars apart W args.toList ds gs before)
    (hres : ∀ (b : Nat) (sp : Nat → Bool) (hd : Bool), DataW.TrodAll enc P W' b sp hd f.resultTypes.toList (v.resultList f.resultTypes.size) (s.fn H (ds ++ gs)).results [])
    (hargs : ∀ sp : Nat → Bool, (∀ p ∈ before, sp p.block = true) → DataW.TrodAll enc P W' 0 sp true f.params.toList args.toList (s.fn H (ds ++ gs)).args pa)
    (hvars : ∀ sp : Nat → Bool, (∀ p ∈ before, sp p.block = true) → DataW.TrodVars enc P W' sp s.vars (s.fn H (ds ++ gs)).vars pv)
    (hps : before = pa ++ pv) (hb : Below W.heap.size W W')
    (hok : ∀ (j : Nat) (t : TypeId) (r : Value), f.resultTypes[j]? = some t → (v.resultList f.resultTypes.size)[j]? = some r → Value.okWide P W' .any 0 t r) :
    s.post enc P f apart fresh handsOn again W args v W' := by
  have hlt : ∀ p ∈ before, p.block < W.heap.size := fun p hp => hW.lt p hp
  have hold : ∀ p ∈ before, (fun b => decide (b < W.heap.size)) p.block = true := fun p hp => by simpa using hlt p hp
  refine ⟨ds, gs, before, [], pa, pv, hW, hres _ _ _, hargs _ hold, hvars _ hold, World.keptBut_mono (fun p hp => ⟨hp, ?_⟩) (hb.frame (· ∈ before)), fun _ => ?_⟩
  · rw [hps, List.mem_append] at hp
    exact Or.inr hp
  · obtain ⟨_, _, _, _, _, hz, hn⟩ := hW
    have hall : ∀ p ∈ before, (fun _ : Nat => true) p.block = true := fun _ _ => rfl
    refine ⟨hok, _, _, ([] ++ pa) ++ pv, ⟨[] ++ pa, pv, trodAll_append (hargs _ (fun _ _ => rfl)) (hres _ _ _), hvars _ (fun _ _ => rfl), rfl, ?_, ?_⟩, ?_⟩
    · intro b off hp
      have hin : MemPlace.cell b off ∈ before := by rw [hps]; simpa using hp
      rw [hb.frozen (hlt _ hin)]
      exact hz b off hin
    · intro ha
      have := hn ha
      rw [hps] at this
      simpa using this
    · intro p hp _
      rw [hps]
      simpa using hp


theorem open_spec {W : World} {base : Nat} {v0 : Value} {d0 : DataW H} {p0 : List MemPlace} (hval : Value.okWide Try.prog W .any base 33 v0) (h0 : DataW.Trod enc Try.prog W 0 (fun _ => true) true 33 v0 d0 p0) :
    ∃ f al si alt ze wi gr pr t, v0 = .agg #[.string f, .int .i64 al, .int .i64 si, .bool alt, .bool ze, .int .i64 wi, .int .i64 gr, .int .i64 pr, .string t] ∧ f.size ≤ 9223372036854775807 ∧ t.size ≤ 9223372036854775807 := by
  obtain ⟨cs, rfl, hsz⟩ := okWide_struct Try.underlying33 hval
  rw [Try.cellsSp] at hsz
  obtain ⟨c0, c1, c2, c3, c4, c5, c6, c7, c8, rfl⟩ : ∃ c0 c1 c2 c3 c4 c5 c6 c7 c8, cs = #[c0, c1, c2, c3, c4, c5, c6, c7, c8] := by
    obtain ⟨l⟩ := cs
    match l, hsz with
    | [c0, c1, c2, c3, c4, c5, c6, c7, c8], _ => exact ⟨c0, c1, c2, c3, c4, c5, c6, c7, c8, rfl⟩
  obtain ⟨fuel, hf⟩ := h0
  obtain ⟨xs, n, _, _, hl, hlen, hx⟩ := DataW.trod_struct Try.underlying33 hf
  obtain ⟨y0, y1, y2, y3, y4, y5, y6, y7, y8, rfl⟩ : ∃ y0 y1 y2 y3 y4 y5 y6 y7 y8, xs = [y0, y1, y2, y3, y4, y5, y6, y7, y8] := by
    match xs, hlen with
    | [y0, y1, y2, y3, y4, y5, y6, y7, y8], _ => exact ⟨y0, y1, y2, y3, y4, y5, y6, y7, y8, rfl⟩
  have g0 : DataW.trod enc Try.prog W 0 (fun _ => true) true n 9 [c0] = some y0 := by
    have := hx 0 _ rfl
    simpa [Value.cells, cellsI, cellsBo, cellsSt] using this
  have g1 : DataW.trod enc Try.prog W 0 (fun _ => true) true n 3 [c1] = some y1 := by
    have := hx 1 _ rfl
    simpa [Value.cells, cellsI, cellsBo, cellsSt] using this
  have g2 : DataW.trod enc Try.prog W 0 (fun _ => true) true n 3 [c2] = some y2 := by
    have := hx 2 _ rfl
    simpa [Value.cells, cellsI, cellsBo, cellsSt] using this
  have g3 : DataW.trod enc Try.prog W 0 (fun _ => true) true n 4 [c3] = some y3 := by
    have := hx 3 _ rfl
    simpa [Value.cells, cellsI, cellsBo, cellsSt] using this
  have g4 : DataW.trod enc Try.prog W 0 (fun _ => true) true n 4 [c4] = some y4 := by
    have := hx 4 _ rfl
    simpa [Value.cells, cellsI, cellsBo, cellsSt] using this
  have g5 : DataW.trod enc Try.prog W 0 (fun _ => true) true n 3 [c5] = some y5 := by
    have := hx 5 _ rfl
    simpa [Value.cells, cellsI, cellsBo, cellsSt] using this
  have g6 : DataW.trod enc Try.prog W 0 (fun _ => true) true n 3 [c6] = some y6 := by
    have := hx 6 _ rfl
    simpa [Value.cells, cellsI, cellsBo, cellsSt] using this
  have g7 : DataW.trod enc Try.prog W 0 (fun _ => true) true n 3 [c7] = some y7 := by
    have := hx 7 _ rfl
    simpa [Value.cells, cellsI, cellsBo, cellsSt] using this
  have g8 : DataW.trod enc Try.prog W 0 (fun _ => true) true n 9 [c8] = some y8 := by
    have := hx 8 _ rfl
    simpa [Value.cells, cellsI, cellsBo, cellsSt] using this
  obtain ⟨f, e0, _, hs0⟩ := DataW.trod_string Try.underlying9 g0
  obtain ⟨al, e1, _⟩ := DataW.trod_int Try.underlying3 g1
  obtain ⟨si, e2, _⟩ := DataW.trod_int Try.underlying3 g2
  obtain ⟨alt, e3, _⟩ := DataW.trod_bool Try.underlying4 g3
  obtain ⟨ze, e4, _⟩ := DataW.trod_bool Try.underlying4 g4
  obtain ⟨wi, e5, _⟩ := DataW.trod_int Try.underlying3 g5
  obtain ⟨gr, e6, _⟩ := DataW.trod_int Try.underlying3 g6
  obtain ⟨pr, e7, _⟩ := DataW.trod_int Try.underlying3 g7
  obtain ⟨t, e8, _, hs8⟩ := DataW.trod_string Try.underlying9 g8
  simp at e0 e1 e2 e3 e4 e5 e6 e7 e8
  subst e0 e1 e2 e3 e4 e5 e6 e7 e8
  exact ⟨f, al, si, alt, ze, wi, gr, pr, t, rfl, by simp only [maxLen] at hs0; omega, by simp only [maxLen] at hs8; omega⟩
theorem spec_back {W W' : World} {v0 : Value} {d0 : DataW H} {p0 : List MemPlace} {sp : Nat → Bool} (h0 : DataW.Trod enc Try.prog W 0 (fun _ => true) true 33 v0 d0 p0) (hb : Below W.heap.size W W') (hlt : ∀ x ∈ p0, x.block < W.heap.size) (hsp : ∀ x ∈ p0, sp x.block = true) :
    DataW.Trod enc Try.prog W' 0 sp true 33 v0 d0 p0 :=
  WideElems.Trod_stays (by kernel_rfl) (by kernel_rfl) (of_decide_eq_true (by kernel_rfl)) h0 (fun x hx => hb.same (hlt x hx)) hsp
end
end Go.Proofs.Yteaaopippeploaa
