/- Promise 17: proved for every input. No condition. -/
import Derived.Test.YtffdgpahbdmacaaRC
import Derived.Test.YtffdgpahbdmacaaR9
import Derived.Test.YtffdgpahbdmacaaV9
namespace Go.Proofs.Ytffdgpahbdmacaa
open Go.ChangeShapes Go.WideShapes Go.ChangeAt Go.RowKit Go.Joins Go.ChangeMaps

theorem bare_any (w : World) : Calls Try.prog 14 #[] w fun r w' => r = .returned (.agg #[.string ⟨#[]⟩, .int .i64 0, .int .i64 0, .bool false, .bool false, .int .i64 0, .int .i64 0, .int .i64 (-1), .string ⟨#[]⟩]) ∧ Below w.heap.size w w' := by
  go_enter Try.func14, Try.ntmps14
  go_wp2
  exact bodyPost_ret (v := .agg #[.string ⟨#[]⟩, .int .i64 0, .int .i64 0, .bool false, .bool false, .int .i64 0, .int .i64 0, .int .i64 (-1), .string ⟨#[]⟩]) (by simp [results, Try.results14, go_sem]) rfl ⟨rfl, (by repeat (first | with_reducible exact Below.refl _ _ | with_reducible assumption | with_reducible refine Below.setCell ?_ (by first | omega | (simp; done) | (simp <;> omega)) _ | with_reducible refine below_drewN ?_ _ | with_reducible refine Below.drew ?_ | with_reducible refine Below.alloc ?_ (by first | omega | (simp; done) | (simp <;> omega)) _))⟩
def cN (X : Int → Bool) : Nat → Int
  | 0 => 0
  | k + 1 => cN X k + (if X k then 1 else 0)
theorem cN_bd (X : Int → Bool) (k : Nat) : 0 ≤ cN X k ∧ cN X k ≤ k := by
  induction k with
  | zero => exact ⟨Int.le_refl 0, Int.le_refl 0⟩
  | succ k ih =>
    unfold cN
    split <;> omega
theorem suit_few (al si : Int) (alt ze : Bool) (gr pr : Int) (b : UInt8) : cN (suitT al si alt ze gr pr ⟨#[b]⟩) 3 ≤ 1 := by
  have h : ∀ k : Int, suitT al si alt ze gr pr ⟨#[b]⟩ k = true → kindB b = k := by
    intro k hk
    have hk' : (kindB b == k && _) = true := hk
    simp only [Bool.and_eq_true, beq_iff_eq] at hk'
    exact hk'.1
  have h0 := h 0; have h1 := h 1; have h2 := h 2
  show ((0 : Int) + (if suitT al si alt ze gr pr ⟨#[b]⟩ 0 then 1 else 0)) + (if suitT al si alt ze gr pr ⟨#[b]⟩ 1 then 1 else 0) + (if suitT al si alt ze gr pr ⟨#[b]⟩ 2 then 1 else 0) ≤ 1
  generalize suitT al si alt ze gr pr ⟨#[b]⟩ 0 = x0 at *
  generalize suitT al si alt ze gr pr ⟨#[b]⟩ 1 = x1 at *
  generalize suitT al si alt ze gr pr ⟨#[b]⟩ 2 = x2 at *
  cases x0 <;> cases x1 <;> cases x2 <;> simp at * <;> omega
theorem suit_kind {al si : Int} {alt ze : Bool} {gr pr : Int} {t : ByteArray} {k : Int} (h : suitT al si alt ze gr pr t k = true) : 0 ≤ k ∧ k ≤ 2 := by
  unfold suitT at h
  by_cases h0 : k = 0
  · omega
  · by_cases h1 : k = 1
    · omega
    · by_cases h2 : k = 2
      · omega
      · split at h
        · rw [if_neg h0, if_neg h1, if_neg h2] at h; cases h
        · rw [if_neg h0, if_neg h1, if_neg h2] at h; simp at h
        · cases h

set_option maxRecDepth 100000 in
set_option maxHeartbeats 16000000 in
theorem FnSpecSuits_law (s : Option Addr) (len cap : Nat) (w : World) (hcode : CodeAt s len w.heap.size w) (hcap : len ≤ cap) :
    Calls Try.prog 3 #[.slice s len cap] w fun r w' => r = .returned (.bool true) ∧ Below w.heap.size w w' := by
  by_cases hl : 1048576 < len
  · go_enter Try.func3, Try.ntmps3
    go_wp2
    go_ret
    exact ⟨rfl, (by repeat (first | with_reducible exact Below.refl _ _ | with_reducible assumption | with_reducible refine Below.setCell ?_ (by first | omega | (simp; done) | (simp <;> omega)) _ | with_reducible refine below_drewN ?_ _ | with_reducible refine Below.drew ?_ | with_reducible refine Below.alloc ?_ (by first | omega | (simp; done) | (simp <;> omega)) _))⟩
  go_enter Try.func3, Try.ntmps3
  go_wp2_with (go_at_call 10; (with_reducible refine Calls.mono (DrawSpecSuits_any _ _ _ _ hcode hcap) ?_); rintro r wd ⟨⟨f, al, si, alt, ze, wi, gr, pr, t, kd, rfl⟩, hB⟩; have hz := hB.size; (try simp at hz))
  have k1 := fun W => SpecSuits_any f al si alt ze wi gr pr t kd W
  have k2 := fun W => SpecSuitsS_any f al si alt ze wi gr pr t kd W
  have k3 := fun W => ValidSpec_any f al si alt ze wi gr pr t W
  have za := C9.new wd (.string f) (.int .i64 al) (.int .i64 si) (.bool alt) (.bool ze) (.int .i64 wi) (.int .i64 gr) (.int .i64 pr) (.string t) 24
  cases hv : vSp f al si wi gr pr t
  · rw [hv] at k1 k2 k3
    rw [show suitW false al si alt ze gr pr t kd = false from rfl] at k1 k2
    clear hv
    have K1 := Lib.hid k1; have K2 := Lib.hid k2; have K3 := Lib.hid k3
    clear k1 k2 k3
    go_wp2_with (first | (go_at_call 11; (with_reducible refine Calls.mono (K1.out _) ?_); rintro r w1 ⟨rfl, hb⟩; have hz := hb.size; (try simp at hz); have hB : Below w.heap.size w w1 := (by refine Below.trans ?_ (hb.mono (by first | omega | (simp; done) | (simp <;> omega))); repeat (first | with_reducible exact Below.refl _ _ | with_reducible assumption | with_reducible refine Below.setCell ?_ (by first | omega | (simp; done) | (simp <;> omega)) _ | with_reducible refine below_drewN ?_ _ | with_reducible refine Below.drew ?_ | with_reducible refine Below.alloc ?_ (by first | omega | (simp; done) | (simp <;> omega)) _)); (try (have zN := C9.carry_of za (by repeat (first | with_reducible assumption | with_reducible apply C9.up | (with_reducible apply C9.far; (case hn => (first | omega | (simp; omega)))) | with_reducible apply C9.set0 | with_reducible apply C9.set1 | with_reducible apply C9.set2 | with_reducible apply C9.set3 | with_reducible apply C9.set4 | with_reducible apply C9.set5 | with_reducible apply C9.set6 | with_reducible apply C9.set7 | with_reducible apply C9.set8 | with_reducible apply C9.drew)) hb; clear za; have za := zN; clear zN; have zz := za; obtain ⟨x0, x1, x2, x3, x4, x5, x6, x7, x8, xf, xl⟩ := zz))) | (go_at_call 12; (with_reducible refine Calls.mono (K2.out _) ?_); rintro r w1 ⟨rfl, hb⟩; have hz := hb.size; (try simp at hz); have hB : Below w.heap.size w w1 := (by refine Below.trans ?_ (hb.mono (by first | omega | (simp; done) | (simp <;> omega))); repeat (first | with_reducible exact Below.refl _ _ | with_reducible assumption | with_reducible refine Below.setCell ?_ (by first | omega | (simp; done) | (simp <;> omega)) _ | with_reducible refine below_drewN ?_ _ | with_reducible refine Below.drew ?_ | with_reducible refine Below.alloc ?_ (by first | omega | (simp; done) | (simp <;> omega)) _)); (try (have zN := C9.carry_of za (by repeat (first | with_reducible assumption | with_reducible apply C9.up | (with_reducible apply C9.far; (case hn => (first | omega | (simp; omega)))) | with_reducible apply C9.set0 | with_reducible apply C9.set1 | with_reducible apply C9.set2 | with_reducible apply C9.set3 | with_reducible apply C9.set4 | with_reducible apply C9.set5 | with_reducible apply C9.set6 | with_reducible apply C9.set7 | with_reducible apply C9.set8 | with_reducible apply C9.drew)) hb; clear za; have za := zN; clear zN; have zz := za; obtain ⟨x0, x1, x2, x3, x4, x5, x6, x7, x8, xf, xl⟩ := zz))) | (go_at_call 13; (with_reducible refine Calls.mono (K3.out _) ?_); rintro r w1 ⟨rfl, hb⟩; have hz := hb.size; (try simp at hz); have hB : Below w.heap.size w w1 := (by refine Below.trans ?_ (hb.mono (by first | omega | (simp; done) | (simp <;> omega))); repeat (first | with_reducible exact Below.refl _ _ | with_reducible assumption | with_reducible refine Below.setCell ?_ (by first | omega | (simp; done) | (simp <;> omega)) _ | with_reducible refine below_drewN ?_ _ | with_reducible refine Below.drew ?_ | with_reducible refine Below.alloc ?_ (by first | omega | (simp; done) | (simp <;> omega)) _)); (try (have zN := C9.carry_of za (by repeat (first | with_reducible assumption | with_reducible apply C9.up | (with_reducible apply C9.far; (case hn => (first | omega | (simp; omega)))) | with_reducible apply C9.set0 | with_reducible apply C9.set1 | with_reducible apply C9.set2 | with_reducible apply C9.set3 | with_reducible apply C9.set4 | with_reducible apply C9.set5 | with_reducible apply C9.set6 | with_reducible apply C9.set7 | with_reducible apply C9.set8 | with_reducible apply C9.drew)) hb; clear za; have za := zN; clear zN; have zz := za; obtain ⟨x0, x1, x2, x3, x4, x5, x6, x7, x8, xf, xl⟩ := zz))))
    all_goals go_ret
    all_goals exact ⟨rfl, (by repeat (first | with_reducible exact Below.refl _ _ | with_reducible assumption | with_reducible refine Below.setCell ?_ (by first | omega | (simp; done) | (simp <;> omega)) _ | with_reducible refine below_drewN ?_ _ | with_reducible refine Below.drew ?_ | with_reducible refine Below.alloc ?_ (by first | omega | (simp; done) | (simp <;> omega)) _))⟩
  · have V := vSp_open hv
    have kS := fun k W => SpecSuits_any f al si alt ze wi gr pr t k W
    have kB := fun k W => SpecSuits_any ⟨#[]⟩ 0 0 false false 0 0 (-1) ⟨#[]⟩ k W
    rw [hv] at k1 k2 k3
    simp only [hv] at kS
    have hX : ∀ k, suitW true al si alt ze gr pr t k = suitT al si alt ze gr pr t k := fun k => rfl
    simp only [hX] at k1 k2 kS
    have hfew : t = ⟨#[]⟩ ∨ ((t.toList == []) = false ∧ t.toList.isEmpty = false ∧ cN (suitT al si alt ze gr pr t) 3 ≤ 1) := by
      rcases okType_cases V.type with rfl | ⟨b, rfl⟩
      · exact .inl rfl
      · have hne := nonempty_list (s := ⟨#[b]⟩) (by show 1 ≤ 1; omega)
        exact .inr ⟨beq_eq_false_iff_ne.2 (fun e => by rw [e] at hne; cases hne), hne, suit_few al si alt ze gr pr b⟩
    have hk := fun h => suit_kind (al := al) (si := si) (alt := alt) (ze := ze) (gr := gr) (pr := pr) (t := t) (k := kd) h
    clear hv V hX
    generalize suitT al si alt ze gr pr t = X at *
    have ho : (X kd = false) ∨ (X kd = true ∧ 0 ≤ kd ∧ kd ≤ 2) := by
      cases h : X kd
      · exact .inl rfl
      · exact .inr ⟨rfl, hk h⟩
    have KS := Lib.hid kS; have KB := Lib.hid kB; have HF := Lib.hid hfew; have HO := Lib.hid ho
    generalize X kd = o at *
    have K1 := Lib.hid k1; have K2 := Lib.hid k2; have K3 := Lib.hid k3
    clear k1 k2 k3 kS kB hfew ho hk
    go_wp2_with (first | (go_at_call 11; (with_reducible refine Calls.mono (K1.out _) ?_); rintro r w1 ⟨rfl, hb⟩; have hz := hb.size; (try simp at hz); have hB : Below w.heap.size w w1 := (by refine Below.trans ?_ (hb.mono (by first | omega | (simp; done) | (simp <;> omega))); repeat (first | with_reducible exact Below.refl _ _ | with_reducible assumption | with_reducible refine Below.setCell ?_ (by first | omega | (simp; done) | (simp <;> omega)) _ | with_reducible refine below_drewN ?_ _ | with_reducible refine Below.drew ?_ | with_reducible refine Below.alloc ?_ (by first | omega | (simp; done) | (simp <;> omega)) _)); (try (have zN := C9.carry_of za (by repeat (first | with_reducible assumption | with_reducible apply C9.up | (with_reducible apply C9.far; (case hn => (first | omega | (simp; omega)))) | with_reducible apply C9.set0 | with_reducible apply C9.set1 | with_reducible apply C9.set2 | with_reducible apply C9.set3 | with_reducible apply C9.set4 | with_reducible apply C9.set5 | with_reducible apply C9.set6 | with_reducible apply C9.set7 | with_reducible apply C9.set8 | with_reducible apply C9.drew)) hb; clear za; have za := zN; clear zN; have zz := za; obtain ⟨x0, x1, x2, x3, x4, x5, x6, x7, x8, xf, xl⟩ := zz))) | (go_at_call 12; (with_reducible refine Calls.mono (K2.out _) ?_); rintro r w1 ⟨rfl, hb⟩; have hz := hb.size; (try simp at hz); have hB : Below w.heap.size w w1 := (by refine Below.trans ?_ (hb.mono (by first | omega | (simp; done) | (simp <;> omega))); repeat (first | with_reducible exact Below.refl _ _ | with_reducible assumption | with_reducible refine Below.setCell ?_ (by first | omega | (simp; done) | (simp <;> omega)) _ | with_reducible refine below_drewN ?_ _ | with_reducible refine Below.drew ?_ | with_reducible refine Below.alloc ?_ (by first | omega | (simp; done) | (simp <;> omega)) _)); (try (have zN := C9.carry_of za (by repeat (first | with_reducible assumption | with_reducible apply C9.up | (with_reducible apply C9.far; (case hn => (first | omega | (simp; omega)))) | with_reducible apply C9.set0 | with_reducible apply C9.set1 | with_reducible apply C9.set2 | with_reducible apply C9.set3 | with_reducible apply C9.set4 | with_reducible apply C9.set5 | with_reducible apply C9.set6 | with_reducible apply C9.set7 | with_reducible apply C9.set8 | with_reducible apply C9.drew)) hb; clear za; have za := zN; clear zN; have zz := za; obtain ⟨x0, x1, x2, x3, x4, x5, x6, x7, x8, xf, xl⟩ := zz))) | (go_at_call 13; (with_reducible refine Calls.mono (K3.out _) ?_); rintro r w1 ⟨rfl, hb⟩; have hz := hb.size; (try simp at hz); have hB : Below w.heap.size w w1 := (by refine Below.trans ?_ (hb.mono (by first | omega | (simp; done) | (simp <;> omega))); repeat (first | with_reducible exact Below.refl _ _ | with_reducible assumption | with_reducible refine Below.setCell ?_ (by first | omega | (simp; done) | (simp <;> omega)) _ | with_reducible refine below_drewN ?_ _ | with_reducible refine Below.drew ?_ | with_reducible refine Below.alloc ?_ (by first | omega | (simp; done) | (simp <;> omega)) _)); (try (have zN := C9.carry_of za (by repeat (first | with_reducible assumption | with_reducible apply C9.up | (with_reducible apply C9.far; (case hn => (first | omega | (simp; omega)))) | with_reducible apply C9.set0 | with_reducible apply C9.set1 | with_reducible apply C9.set2 | with_reducible apply C9.set3 | with_reducible apply C9.set4 | with_reducible apply C9.set5 | with_reducible apply C9.set6 | with_reducible apply C9.set7 | with_reducible apply C9.set8 | with_reducible apply C9.drew)) hb; clear za; have za := zN; clear zN; have zz := za; obtain ⟨x0, x1, x2, x3, x4, x5, x6, x7, x8, xf, xl⟩ := zz))))
    go_loopg [6, 7] 3 (fun g s6 s7 wr => ∃ j : Nat, s6 = .int .i64 (cN X j) ∧ s7 = .int .i64 j ∧ j ≤ 3 ∧ Below w.heap.size w wr ∧ C9 wr wd.heap.size (.string f) (.int .i64 al) (.int .i64 si) (.bool alt) (.bool ze) (.int .i64 wi) (.int .i64 gr) (.int .i64 pr) (.string t) ∧ Aside (g = 3 - j))
    case atStart => exact ⟨0, rfl, rfl, by omega, by repeat (first | with_reducible exact Below.refl _ _ | with_reducible assumption | with_reducible refine Below.setCell ?_ (by first | omega | (simp; done) | (simp <;> omega)) _ | with_reducible refine below_drewN ?_ _ | with_reducible refine Below.drew ?_ | with_reducible refine Below.alloc ?_ (by first | omega | (simp; done) | (simp <;> omega)) _), by first | exact za | exact za.up _, by show _ = _; omega⟩
    case round =>
      obtain ⟨j, rfl, rfl, hj, hB, za, hg⟩ := hrel
      have hg' := hg.out
      clear hg
      have zz := za
      obtain ⟨x0, x1, x2, x3, x4, x5, x6, x7, x8, xf, xl⟩ := zz
      have hbd := cN_bd X j
      by_cases hlt : j < 3
      · have hjc : j = 0 ∨ j = 1 ∨ j = 2 := by omega
        have kb : ∀ W, Calls Try.prog 11 #[.agg #[.string ⟨#[]⟩, .int .i64 0, .int .i64 0, .bool false, .bool false, .int .i64 0, .int .i64 0, .int .i64 (-1), .string ⟨#[]⟩], .int .i64 j] W fun r w' => r = .returned (.bool true) ∧ Below W.heap.size W w' := fun W => by
          have h := KB.out j W
          rcases hjc with rfl | rfl | rfl <;> exact h
        have ks := fun W => KS.out j W
        have i1 : (j : Int) ≤ 2 := by omega
        have hS : cN X (j + 1) = cN X j + (if X j = true then 1 else 0) := rfl
        clear hjc
        generalize X j = x at *
        generalize cN X j = n at *
        have HS := Lib.hid hS
        have KB2 := Lib.hid kb; have KS2 := Lib.hid ks
        clear kb ks hS
        cases x
        · go_wp2_with (first | (go_at_call 11; (with_reducible refine Calls.mono (KS2.out _) ?_); rintro r w1 ⟨rfl, hb⟩; have hz := hb.size; (try simp at hz); have hB : Below w.heap.size w w1 := (by refine Below.trans ?_ (hb.mono (by first | omega | (simp; done) | (simp <;> omega))); repeat (first | with_reducible exact Below.refl _ _ | with_reducible assumption | with_reducible refine Below.setCell ?_ (by first | omega | (simp; done) | (simp <;> omega)) _ | with_reducible refine below_drewN ?_ _ | with_reducible refine Below.drew ?_ | with_reducible refine Below.alloc ?_ (by first | omega | (simp; done) | (simp <;> omega)) _)); (try (have zN := C9.carry_of za (by repeat (first | with_reducible assumption | with_reducible apply C9.up | (with_reducible apply C9.far; (case hn => (first | omega | (simp; omega)))) | with_reducible apply C9.set0 | with_reducible apply C9.set1 | with_reducible apply C9.set2 | with_reducible apply C9.set3 | with_reducible apply C9.set4 | with_reducible apply C9.set5 | with_reducible apply C9.set6 | with_reducible apply C9.set7 | with_reducible apply C9.set8 | with_reducible apply C9.drew)) hb; clear za; have za := zN; clear zN; have zz := za; obtain ⟨x0, x1, x2, x3, x4, x5, x6, x7, x8, xf, xl⟩ := zz))) | (go_at_call 11; (with_reducible refine Calls.mono (KB2.out _) ?_); rintro r w1 ⟨rfl, hb⟩; have hz := hb.size; (try simp at hz); have hB : Below w.heap.size w w1 := (by refine Below.trans ?_ (hb.mono (by first | omega | (simp; done) | (simp <;> omega))); repeat (first | with_reducible exact Below.refl _ _ | with_reducible assumption | with_reducible refine Below.setCell ?_ (by first | omega | (simp; done) | (simp <;> omega)) _ | with_reducible refine below_drewN ?_ _ | with_reducible refine Below.drew ?_ | with_reducible refine Below.alloc ?_ (by first | omega | (simp; done) | (simp <;> omega)) _)); (try (have zN := C9.carry_of za (by repeat (first | with_reducible assumption | with_reducible apply C9.up | (with_reducible apply C9.far; (case hn => (first | omega | (simp; omega)))) | with_reducible apply C9.set0 | with_reducible apply C9.set1 | with_reducible apply C9.set2 | with_reducible apply C9.set3 | with_reducible apply C9.set4 | with_reducible apply C9.set5 | with_reducible apply C9.set6 | with_reducible apply C9.set7 | with_reducible apply C9.set8 | with_reducible apply C9.drew)) hb; clear za; have za := zN; clear zN; have zz := za; obtain ⟨x0, x1, x2, x3, x4, x5, x6, x7, x8, xf, xl⟩ := zz))) | (go_at_call 14; (with_reducible refine Calls.mono (bare_any _) ?_); rintro r w1 ⟨rfl, hb⟩; have hz := hb.size; (try simp at hz); have hB : Below w.heap.size w w1 := (by refine Below.trans ?_ (hb.mono (by first | omega | (simp; done) | (simp <;> omega))); repeat (first | with_reducible exact Below.refl _ _ | with_reducible assumption | with_reducible refine Below.setCell ?_ (by first | omega | (simp; done) | (simp <;> omega)) _ | with_reducible refine below_drewN ?_ _ | with_reducible refine Below.drew ?_ | with_reducible refine Below.alloc ?_ (by first | omega | (simp; done) | (simp <;> omega)) _)); (try (have zN := C9.carry_of za (by repeat (first | with_reducible assumption | with_reducible apply C9.up | (with_reducible apply C9.far; (case hn => (first | omega | (simp; omega)))) | with_reducible apply C9.set0 | with_reducible apply C9.set1 | with_reducible apply C9.set2 | with_reducible apply C9.set3 | with_reducible apply C9.set4 | with_reducible apply C9.set5 | with_reducible apply C9.set6 | with_reducible apply C9.set7 | with_reducible apply C9.set8 | with_reducible apply C9.drew)) hb; clear za; have za := zN; clear zN; have zz := za; obtain ⟨x0, x1, x2, x3, x4, x5, x6, x7, x8, xf, xl⟩ := zz))))
          go_roundg (3 - (j + 1))
          case measure => omega
          case rel => exact ⟨j + 1, by first | (rw [HS.out]; simp; done) | (rw [HS.out]; go_num), by go_num, by omega, by repeat (first | with_reducible exact Below.refl _ _ | with_reducible assumption | with_reducible refine Below.setCell ?_ (by first | omega | (simp; done) | (simp <;> omega)) _ | with_reducible refine below_drewN ?_ _ | with_reducible refine Below.drew ?_ | with_reducible refine Below.alloc ?_ (by first | omega | (simp; done) | (simp <;> omega)) _), za, rfl⟩
        · go_wp2_with (first | (go_at_call 11; (with_reducible refine Calls.mono (KS2.out _) ?_); rintro r w1 ⟨rfl, hb⟩; have hz := hb.size; (try simp at hz); have hB : Below w.heap.size w w1 := (by refine Below.trans ?_ (hb.mono (by first | omega | (simp; done) | (simp <;> omega))); repeat (first | with_reducible exact Below.refl _ _ | with_reducible assumption | with_reducible refine Below.setCell ?_ (by first | omega | (simp; done) | (simp <;> omega)) _ | with_reducible refine below_drewN ?_ _ | with_reducible refine Below.drew ?_ | with_reducible refine Below.alloc ?_ (by first | omega | (simp; done) | (simp <;> omega)) _)); (try (have zN := C9.carry_of za (by repeat (first | with_reducible assumption | with_reducible apply C9.up | (with_reducible apply C9.far; (case hn => (first | omega | (simp; omega)))) | with_reducible apply C9.set0 | with_reducible apply C9.set1 | with_reducible apply C9.set2 | with_reducible apply C9.set3 | with_reducible apply C9.set4 | with_reducible apply C9.set5 | with_reducible apply C9.set6 | with_reducible apply C9.set7 | with_reducible apply C9.set8 | with_reducible apply C9.drew)) hb; clear za; have za := zN; clear zN; have zz := za; obtain ⟨x0, x1, x2, x3, x4, x5, x6, x7, x8, xf, xl⟩ := zz))) | (go_at_call 11; (with_reducible refine Calls.mono (KB2.out _) ?_); rintro r w1 ⟨rfl, hb⟩; have hz := hb.size; (try simp at hz); have hB : Below w.heap.size w w1 := (by refine Below.trans ?_ (hb.mono (by first | omega | (simp; done) | (simp <;> omega))); repeat (first | with_reducible exact Below.refl _ _ | with_reducible assumption | with_reducible refine Below.setCell ?_ (by first | omega | (simp; done) | (simp <;> omega)) _ | with_reducible refine below_drewN ?_ _ | with_reducible refine Below.drew ?_ | with_reducible refine Below.alloc ?_ (by first | omega | (simp; done) | (simp <;> omega)) _)); (try (have zN := C9.carry_of za (by repeat (first | with_reducible assumption | with_reducible apply C9.up | (with_reducible apply C9.far; (case hn => (first | omega | (simp; omega)))) | with_reducible apply C9.set0 | with_reducible apply C9.set1 | with_reducible apply C9.set2 | with_reducible apply C9.set3 | with_reducible apply C9.set4 | with_reducible apply C9.set5 | with_reducible apply C9.set6 | with_reducible apply C9.set7 | with_reducible apply C9.set8 | with_reducible apply C9.drew)) hb; clear za; have za := zN; clear zN; have zz := za; obtain ⟨x0, x1, x2, x3, x4, x5, x6, x7, x8, xf, xl⟩ := zz))) | (go_at_call 14; (with_reducible refine Calls.mono (bare_any _) ?_); rintro r w1 ⟨rfl, hb⟩; have hz := hb.size; (try simp at hz); have hB : Below w.heap.size w w1 := (by refine Below.trans ?_ (hb.mono (by first | omega | (simp; done) | (simp <;> omega))); repeat (first | with_reducible exact Below.refl _ _ | with_reducible assumption | with_reducible refine Below.setCell ?_ (by first | omega | (simp; done) | (simp <;> omega)) _ | with_reducible refine below_drewN ?_ _ | with_reducible refine Below.drew ?_ | with_reducible refine Below.alloc ?_ (by first | omega | (simp; done) | (simp <;> omega)) _)); (try (have zN := C9.carry_of za (by repeat (first | with_reducible assumption | with_reducible apply C9.up | (with_reducible apply C9.far; (case hn => (first | omega | (simp; omega)))) | with_reducible apply C9.set0 | with_reducible apply C9.set1 | with_reducible apply C9.set2 | with_reducible apply C9.set3 | with_reducible apply C9.set4 | with_reducible apply C9.set5 | with_reducible apply C9.set6 | with_reducible apply C9.set7 | with_reducible apply C9.set8 | with_reducible apply C9.drew)) hb; clear za; have za := zN; clear zN; have zz := za; obtain ⟨x0, x1, x2, x3, x4, x5, x6, x7, x8, xf, xl⟩ := zz))))
          go_roundg (3 - (j + 1))
          case measure => omega
          case rel => exact ⟨j + 1, by first | (rw [HS.out]; simp; done) | (rw [HS.out]; go_num), by go_num, by omega, by repeat (first | with_reducible exact Below.refl _ _ | with_reducible assumption | with_reducible refine Below.setCell ?_ (by first | omega | (simp; done) | (simp <;> omega)) _ | with_reducible refine below_drewN ?_ _ | with_reducible refine Below.drew ?_ | with_reducible refine Below.alloc ?_ (by first | omega | (simp; done) | (simp <;> omega)) _), za, rfl⟩
      · obtain rfl : j = 3 := by omega
        have i1 : ¬ ((3 : Nat) : Int) ≤ 2 := by omega
        rcases HF.out with rfl | ⟨f1, f2, f3⟩
        · rcases HO.out with rfl | ⟨rfl, o1, o2⟩
          all_goals
            go_wp2
            go_ret
            exact ⟨rfl, hB⟩
        · generalize cN X 3 = n at *
          rcases HO.out with rfl | ⟨rfl, o1, o2⟩
          all_goals
            go_wp2
            go_ret
            exact ⟨rfl, hB⟩

set_option maxRecDepth 100000 in
theorem FnSpecSuits_lifted (os : Os) (started : os.Started) (H : Type) (enc : TypeId × Value → H) :
    ReturnsInHanded {} Try.checked os 3 .any (Rows.fnSpecSuitsSpec.pre6 enc Try.prog Try.f3 Rows.fnSpecSuitsRow.domain false) (Rows.fnSpecSuitsSpec.post enc Try.prog Try.f3 false true false false) := by
  refine returnsInHanded_of_change (C := Try.checked) Try.own started (by kernel_rfl) Try.func3
    (ChangeSpec.witness6 (enc := enc) (C := Try.checked) false ⟨#[], #[.slice none 0 0], []⟩ 8 (by kernel_rfl) (by kernel_rfl) (by kernel_rfl) (by kernel_rfl)) ?_
  intro W base args ds gs before hval0 hW hcnd _
  have hval : ∀ (j : Nat) t v, Try.f3.params[j]? = some t → args[j]? = some v → Value.okWide Try.prog W .any base t v := hval0
  have hW' := hW
  obtain ⟨p, q, hA0, hV, rfl, hfz, hnd⟩ := hW
  have hA : DataW.TrodAll enc Try.prog W 0 (fun _ => true) true Try.f3.params.toList args.toList ds p := hA0
  rw [Try.params3] at hA hval
  obtain ⟨v0, d0, rfl, rfl, h0⟩ := trodAll_one hA
  obtain ⟨rfl, rfl⟩ := trodVars_none hV
  obtain ⟨s, len, cap, rfl, hcap, hcode⟩ := open_code (hval 0 22 v0 rfl rfl) h0
  clear hA0 hval0
  have hlt := fun x hx => hW'.lt x hx
  refine (FnSpecSuits_law s len cap W hcode hcap).mono fun e_ W' ⟨he, hb⟩ => ?_
  subst he
  exact ⟨_, rfl, post_of_below (pa := p) (pv := []) hW' (fun _ _ _ => trodAll_mk1 (shut_bool Try.underlying4 true)) (fun sp hsp => trodAll_mk1 (code_back h0 hb (fun x hx => hlt x (by simp [hx])) (fun x hx => hsp x (by simp [hx])))) (fun _ _ => rfl) (by simp) hb (ok_one (by kernel_rfl) rfl (okWide_bool_mk Try.underlying4 true))⟩

theorem FnSpecSuits_holds : Rows.FnSpecSuitsSaid :=
  OpenClaim.holds_of_wide 3 Try.f3 rfl rfl rfl rfl rfl rfl rfl ⟨rfl, rfl, rfl, rfl, rfl⟩ rfl rfl rfl rfl rfl (by kernel_rfl) Try.func3 (by kernel_rfl)
    (of_decide_eq_true (by kernel_rfl)) (by unfold Func.isWrapper; first | (rw [if_pos (by decide +kernel)]; kernel_rfl) | (rw [if_neg (by decide +kernel)]; exact ⟨rfl, rfl⟩))
    (fun os started H enc _ => FnSpecSuits_lifted os started H enc)
end Go.Proofs.Ytffdgpahbdmacaa
