import Derived.Test.YtehocgedlepajaaD4
import Derived.Test.YtehocgedlepajaaPl3
import Derived.Test.YtehocgedlepajaaS6
import Derived.ProofKit
import Derived.Lib.SmallJoins
import Derived.Below
import Derived.ChangeSame
import Derived.ChangeSlices
import Derived.OpenShut
import Derived.Carry
import Derived.Deep.QuietTactic
namespace Go.Proofs.Ytehocgedlepajaa
open Go.ChangeShapes Go.WideShapes Go.ChangeAt Go.RowKit Go.Joins

theorem Try.own : ownKnob Try.prog.godebug = none := by kernel_rfl
theorem Try.cellsB : Try.prog.cellsOf 5 = 1 := by kernel_rfl

section
variable {H : Type} {enc : TypeId × Value → H} {P : Program}
/-- the row's last step where all that is known of the world is that nothing old has turned (after a note of the guide's) -/
theorem post_of_below {f : Func} {s : ChangeSpec} {apart fresh handsOn again : Bool} {W W' : World} {args : Array Value} {v : Value} {ds gs : List (DataW H)} {before pa pv : List MemPlace}
    (hW : DataW.Whole enc P f.params.toList s.vars apart W args.toList ds gs before)
    (hres : ∀ (b : Nat) (sp : Nat → Bool) (hd : Bool), DataW.TrodAll enc P W' b sp hd f.resultTypes.toList (v.resultList f.resultTypes.size) (s.fn H (ds ++ gs)).results [])
    (hargs : ∀ sp : Nat → Bool, (∀ p ∈ before, sp p.block = true) → DataW.TrodAll enc P W' 0 sp true f.params.toList args.toList (s.fn H (ds ++ gs)).args pa)
    (hvars : ∀ sp : Nat → Bool, (∀ p ∈ before, sp p.block = true) → DataW.TrodVars enc P W' sp s.vars (s.fn H (ds ++ gs)).vars pv)
    (hps : before = pa ++ pv) (hb : Below W.heap.size W W')
    (hok : ∀ (j : Nat) (t : TypeId) (r : Value), f.resultTypes[j]? = some t → (v.resultList f.resultTypes.size)[j]? = some r → Value.okWide P W' .any 0 t r) :
    s.post enc P f apart fresh handsOn again W args v W' := by
  have hlt : ∀ p ∈ before, p.block < W.heap.size := fun p hp => hW.lt p hp
  have hold : ∀ p ∈ before, (fun b => decide (b < W.heap.size)) p.block = true := fun p hp => by simpa using hlt p hp
  refine ⟨ds, gs, before, [], pa, pv, hW, hres _ _ _, hargs _ hold, hvars _ hold, World.keptBut_mono (fun p hp => ⟨hp, ?_⟩) (hb.frame (· ∈ before)), fun _ => ?_⟩
  · rw [hps, List.mem_append] at hp
    exact Or.inr hp
  · obtain ⟨_, _, _, _, _, hz, hn⟩ := hW
    have hall : ∀ p ∈ before, (fun _ : Nat => true) p.block = true := fun _ _ => rfl
    refine ⟨hok, _, _, ([] ++ pa) ++ pv, ⟨[] ++ pa, pv, trodAll_append (hargs _ (fun _ _ => rfl)) (hres _ _ _), hvars _ (fun _ _ => rfl), rfl, ?_, ?_⟩, ?_⟩
    · intro b off hp
      have hin : MemPlace.cell b off ∈ before := by rw [hps]; simpa using hp
      rw [hb.frozen (hlt _ hin)]
      exact hz b off hin
    · intro ha
      have := hn ha
      rw [hps] at this
      simpa using this
    · intro p hp _
      rw [hps]
      simpa using hp

/-- a slice of bytes that came in -/
theorem open_code {W : World} {base : Nat} {v0 : Value} {d0 : DataW H} {p0 : List MemPlace} (hval : Value.okWide Try.prog W .any base 22 v0) (h0 : DataW.Trod enc Try.prog W 0 (fun _ => true) true 22 v0 d0 p0) :
    ∃ s len cap, v0 = .slice s len cap ∧ len ≤ cap ∧ CodeAt s len W.heap.size W := by
  obtain ⟨a1, len, cap, rfl⟩ := okWide_slice Try.underlying22 hval
  obtain ⟨fuel, hf⟩ := h0
  refine ⟨a1, len, cap, rfl, ?_⟩
  rcases open_ints Try.underlying22 Try.underlying5 Try.cellsB hf with ⟨hcs, hx⟩ | ⟨a, len', cap', zs, hcs, _, hl, hm, hz, hx, hcell, hwz⟩
  · simp [Value.cells] at hcs
    obtain ⟨rfl, rfl, rfl⟩ := hcs
    exact ⟨Nat.le_refl _, .inl rfl⟩
  · simp [Value.cells] at hcs
    obtain ⟨rfl, rfl, rfl⟩ := hcs
    simp only [if_true] at hz
    refine ⟨hl, ?_⟩
    by_cases h : len = 0
    · exact .inl h
    right
    have h0 := hcell 0 (by omega)
    obtain ⟨ab, ao, spot⟩ := a
    have hspot : spot = none := by simpa [Addr.add] using World.cell?_spot h0
    subst hspot
    refine ⟨ab, ao, fun i => zs.getD i 0, rfl, World.block_lt_of_cell? _ _ h0, fun i hi => ?_⟩
    have hb := range_u8 hwz i
    rw [← List.getD_eq_getElem?_getD] at hb
    exact ⟨by have := hcell i (by omega); rwa [Addr.add_lit] at this, hb.1, hb.2⟩
theorem code_back {W W' : World} {v0 : Value} {d0 : DataW H} {p0 : List MemPlace} {sp : Nat → Bool} (h0 : DataW.Trod enc Try.prog W 0 (fun _ => true) true 22 v0 d0 p0) (hb : Below W.heap.size W W') (hlt : ∀ x ∈ p0, x.block < W.heap.size) (hsp : ∀ x ∈ p0, sp x.block = true) :
    DataW.Trod enc Try.prog W' 0 sp true 22 v0 d0 p0 :=
  WideElems.Trod_stays (by kernel_rfl) (by kernel_rfl) (of_decide_eq_true (by kernel_rfl)) h0 (fun x hx => hb.same (hlt x hx)) hsp
end

theorem dec_ne {n n' : Bool} {c c' e e' : Int} (h : (⟨n, c, e⟩ : Fd.D) ≠ ⟨n', c', e'⟩) : ¬ n = n' ∨ (n = n' ∧ ¬ c = c') ∨ (n = n' ∧ c = c' ∧ ¬ e = e') := by
  by_cases h1 : n = n'
  · by_cases h2 : c = c'
    · right; right; refine ⟨h1, h2, fun h3 => h ?_⟩; subst h1 h2 h3; rfl
    · right; left; exact ⟨h1, h2⟩
  · left; exact h1
set_option maxHeartbeats 400000 in
theorem equalDec_self (n : Bool) (c e : Int) (w : World) :
    Calls Try.prog 23 #[.agg #[.bool n, .int .i64 c, .int .i64 e], .agg #[.bool n, .int .i64 c, .int .i64 e]] w fun r w' => r = .returned (.bool true) ∧ Below w.heap.size w w' := by
  go_enter Try.func23, Try.ntmps23
  go_wp2
  go_ret
  exact ⟨rfl, (by repeat (first | with_reducible exact Below.refl _ _ | with_reducible assumption | with_reducible refine Below.setCell ?_ (by first | omega | (simp; done) | (simp <;> omega)) _ | with_reducible refine below_drewN ?_ _ | with_reducible refine Below.drew ?_ | with_reducible refine Below.alloc ?_ (by first | omega | (simp; done) | (simp <;> omega)) _))⟩
set_option maxHeartbeats 400000 in
theorem amount_any (n : Bool) (c e : Int) (w : World) (hv : Fd.vld ⟨n, c, e⟩ = true) :
    Calls Try.prog 45 #[.agg #[.bool n, .int .i64 c, .int .i64 e]] w fun r w' => r = .returned (.agg #[.bool false, .int .i64 c, .int .i64 e]) ∧ Below w.heap.size w w' := by
  cases n
  · go_enter Try.func45, Try.ntmps45
    go_wp2
    exact bodyPost_ret (v := .agg #[.bool false, .int .i64 c, .int .i64 e]) (by simp [results, Try.results45, go_sem]) rfl ⟨rfl, (by repeat (first | with_reducible exact Below.refl _ _ | with_reducible assumption | with_reducible refine Below.setCell ?_ (by first | omega | (simp; done) | (simp <;> omega)) _ | with_reducible refine below_drewN ?_ _ | with_reducible refine Below.drew ?_ | with_reducible refine Below.alloc ?_ (by first | omega | (simp; done) | (simp <;> omega)) _))⟩
  · have hS := fun W => NegateDec_any true c e W
    rw [show Fd.neg ⟨true, c, e⟩ = ⟨false, c, e⟩ from by unfold Fd.neg; rw [if_pos hv]; simp] at hS
    have HS := Lib.hid hS
    clear hS
    go_enter Try.func45, Try.ntmps45
    go_wp2_with (go_at_call 20; refine (HS.out _).mono ?_; rintro r w1 ⟨rfl, hb⟩; obtain ⟨hc, hf⟩ := bcell hb; have hB : Below w.heap.size w w1 := (by refine Below.trans ?_ (hb.mono (by first | omega | (simp; done) | (simp <;> omega))); repeat (first | with_reducible exact Below.refl _ _ | with_reducible assumption | with_reducible refine Below.setCell ?_ (by first | omega | (simp; done) | (simp <;> omega)) _ | with_reducible refine below_drewN ?_ _ | with_reducible refine Below.drew ?_ | with_reducible refine Below.alloc ?_ (by first | omega | (simp; done) | (simp <;> omega)) _)); have hz := hb.size; (try simp at hz); (try have hz0 : w.heap.size < w1.heap.size := by omega); (try have hz1 : w.heap.size + 1 < w1.heap.size := by omega); (try have hz2 : w.heap.size + 1 + 1 < w1.heap.size := by omega); have hm := bmono hb; (try simp at hm); (try have hm2 := bmono2 (by with_reducible assumption) hb); (try have hq2 := Nat.lt_of_succ_le hz); (try have hq3 := Nat.lt_of_lt_of_le (by with_reducible assumption : _ < World.heap.size _) hz))
    exact bodyPost_ret (v := .agg #[.bool false, .int .i64 c, .int .i64 e]) (by simp [results, Try.results45, go_sem, *]) rfl ⟨rfl, (by repeat (first | with_reducible exact Below.refl _ _ | with_reducible assumption | with_reducible refine Below.setCell ?_ (by first | omega | (simp; done) | (simp <;> omega)) _ | with_reducible refine below_drewN ?_ _ | with_reducible refine Below.drew ?_ | with_reducible refine Below.alloc ?_ (by first | omega | (simp; done) | (simp <;> omega)) _))⟩
end Go.Proofs.Ytehocgedlepajaa
