import Derived.Test.YteaaopippeploaaDoorW1
import Derived.Deep.QuietTactic
import Derived.BigQuiet
import Derived.Deep.RegionHeld
namespace Go.Proofs.YteaaopippeploaaDoor
open Go.RowKit

theorem set_frozen (w : World) (p : Addr) (v : Value) (b o : Nat) : (w.setCell p v).frozen? ⟨b, o, none⟩ = w.frozen? ⟨b, o, none⟩ := by simp [go_sem]
/-- a world after W in which nothing old has turned -/
structure Since (W : World) where
  v : World
  h : Below W.heap.size W v
instance (W : World) : Nonempty (Since W) := ⟨⟨W, Below.refl _ _⟩⟩
instance (W : World) : Inhabited (Since W) := ⟨⟨W, Below.refl _ _⟩⟩
theorem wp_region_since {P : Program} {id : Nat} {Q : Exit → Act → World → Prop} {a : Act} {w : World} {l : List Oper} (hm : P.follows .mixedOrders = true) (hB : Region.lexB .any l.toArray = true)
    (h : wpQuiet P l.toArray (fun w' => ∃ p : Since w, w' = p.v) (fun a' => ∀ w', (∃ p : Since w, w' = p.v) → Q .normal a' w') l a) : (Code.region id l.toArray true).wp P Q a w :=
  wp_region_quiet (C := fun w' => ∃ p : Since w, w' = p.v) hm hB ⟨⟨w.drew, (Below.refl _ _).drew⟩, rfl⟩ (by simpa using h)
theorem Calls.since_of {P : Program} {f : FuncId} {args : Array Value} {W : World} {p : Since W} {v : Value} (h : Calls P f args p.v fun r w' => r = .returned v ∧ Below p.v.heap.size p.v w') :
    Calls P f args p.v fun e w'' => e = .returned v ∧ ∃ q : Since W, w'' = q.v :=
  h.mono fun _ w'' ⟨he, hb⟩ => ⟨he, ⟨w'', p.h.trans (hb.mono p.h.size)⟩, rfl⟩
/-- nine cells of a block, as a later world has them -/
structure C9 (w : World) (g : Nat) (v0 v1 v2 v3 v4 v5 v6 v7 v8 : Value) : Prop where
  c0 : w.cell? ⟨g, 0, none⟩ = some v0
  c1 : w.cell? ⟨g, 1, none⟩ = some v1
  c2 : w.cell? ⟨g, 2, none⟩ = some v2
  c3 : w.cell? ⟨g, 3, none⟩ = some v3
  c4 : w.cell? ⟨g, 4, none⟩ = some v4
  c5 : w.cell? ⟨g, 5, none⟩ = some v5
  c6 : w.cell? ⟨g, 6, none⟩ = some v6
  c7 : w.cell? ⟨g, 7, none⟩ = some v7
  c8 : w.cell? ⟨g, 8, none⟩ = some v8
  fz : ∀ o, w.frozen? ⟨g, o, none⟩ = false
  lt : g < w.heap.size
theorem C9.new (V : World) (v0 v1 v2 v3 v4 v5 v6 v7 v8 : Value) (t : TypeId) : C9 (V.alloc (.cells #[v0, v1, v2, v3, v4, v5, v6, v7, v8] t)) V.heap.size v0 v1 v2 v3 v4 v5 v6 v7 v8 := by
  constructor <;> simp [go_sem]
theorem C9.keep {w w' : World} {g : Nat} {v0 v1 v2 v3 v4 v5 v6 v7 v8 : Value} (h : C9 w g v0 v1 v2 v3 v4 v5 v6 v7 v8) (hs : w.heap.size ≤ w'.heap.size) (hc : ∀ o, w'.cell? ⟨g, o, none⟩ = w.cell? ⟨g, o, none⟩) (hf : ∀ o, w'.frozen? ⟨g, o, none⟩ = w.frozen? ⟨g, o, none⟩) : C9 w' g v0 v1 v2 v3 v4 v5 v6 v7 v8 :=
  ⟨(hc _).trans h.c0, (hc _).trans h.c1, (hc _).trans h.c2, (hc _).trans h.c3, (hc _).trans h.c4, (hc _).trans h.c5, (hc _).trans h.c6, (hc _).trans h.c7, (hc _).trans h.c8, fun o => (hf o).trans (h.fz o), Nat.lt_of_lt_of_le h.lt hs⟩
theorem C9.carry {g : Nat} {w w' : World} {v0 v1 v2 v3 v4 v5 v6 v7 v8 : Value} (h : C9 w g v0 v1 v2 v3 v4 v5 v6 v7 v8) (hb : Below w.heap.size w w') : C9 w' g v0 v1 v2 v3 v4 v5 v6 v7 v8 :=
  h.keep hb.size (fun o => hb.cell (p := ⟨g, o, none⟩) h.lt) (fun o => hb.frozen (p := ⟨g, o, none⟩) h.lt)
theorem C9.up {g : Nat} {w : World} {v0 v1 v2 v3 v4 v5 v6 v7 v8 : Value} (h : C9 w g v0 v1 v2 v3 v4 v5 v6 v7 v8) (o : Obj) : C9 (w.alloc o) g v0 v1 v2 v3 v4 v5 v6 v7 v8 := h.carry ((Below.refl _ _).alloc (Nat.le_refl _) _)
theorem C9.drew {g : Nat} {w : World} {v0 v1 v2 v3 v4 v5 v6 v7 v8 : Value} (h : C9 w g v0 v1 v2 v3 v4 v5 v6 v7 v8) : C9 w.drew g v0 v1 v2 v3 v4 v5 v6 v7 v8 := h.keep (Nat.le_refl _) (fun _ => rfl) (fun _ => rfl)
theorem C9.far {g : Nat} {w : World} {v0 v1 v2 v3 v4 v5 v6 v7 v8 : Value} (h : C9 w g v0 v1 v2 v3 v4 v5 v6 v7 v8) {b o : Nat} (hn : b ≠ g) (v : Value) : C9 (w.setCell ⟨b, o, none⟩ v) g v0 v1 v2 v3 v4 v5 v6 v7 v8 :=
  h.keep ((Below.setCell (p := ⟨b, o, none⟩) (Below.refl 0 w) (Nat.zero_le _) v).size) (fun _ => World.cell?_setCell_far _ ⟨b, o, none⟩ _ _ hn) (fun _ => set_frozen _ _ _ _ _)
theorem C9.set0 {g : Nat} {w : World} {v0 v1 v2 v3 v4 v5 v6 v7 v8 : Value} (h : C9 w g v0 v1 v2 v3 v4 v5 v6 v7 v8) (x : Value) : C9 (w.setCell ⟨g, 0, none⟩ x) g x v1 v2 v3 v4 v5 v6 v7 v8 := by
  obtain ⟨h0, h1, h2, h3, h4, h5, h6, h7, h8, hf, hl⟩ := h
  have hz := (Below.setCell (p := ⟨g, 0, none⟩) (Below.refl 0 w) (Nat.zero_le _) x).size
  constructor <;> first | (simp [go_sem, *]; done) | (intro o; rw [set_frozen]; exact hf o) | omega
theorem C9.set1 {g : Nat} {w : World} {v0 v1 v2 v3 v4 v5 v6 v7 v8 : Value} (h : C9 w g v0 v1 v2 v3 v4 v5 v6 v7 v8) (x : Value) : C9 (w.setCell ⟨g, 1, none⟩ x) g v0 x v2 v3 v4 v5 v6 v7 v8 := by
  obtain ⟨h0, h1, h2, h3, h4, h5, h6, h7, h8, hf, hl⟩ := h
  have hz := (Below.setCell (p := ⟨g, 1, none⟩) (Below.refl 0 w) (Nat.zero_le _) x).size
  constructor <;> first | (simp [go_sem, *]; done) | (intro o; rw [set_frozen]; exact hf o) | omega
theorem C9.set2 {g : Nat} {w : World} {v0 v1 v2 v3 v4 v5 v6 v7 v8 : Value} (h : C9 w g v0 v1 v2 v3 v4 v5 v6 v7 v8) (x : Value) : C9 (w.setCell ⟨g, 2, none⟩ x) g v0 v1 x v3 v4 v5 v6 v7 v8 := by
  obtain ⟨h0, h1, h2, h3, h4, h5, h6, h7, h8, hf, hl⟩ := h
  have hz := (Below.setCell (p := ⟨g, 2, none⟩) (Below.refl 0 w) (Nat.zero_le _) x).size
  constructor <;> first | (simp [go_sem, *]; done) | (intro o; rw [set_frozen]; exact hf o) | omega
theorem C9.set3 {g : Nat} {w : World} {v0 v1 v2 v3 v4 v5 v6 v7 v8 : Value} (h : C9 w g v0 v1 v2 v3 v4 v5 v6 v7 v8) (x : Value) : C9 (w.setCell ⟨g, 3, none⟩ x) g v0 v1 v2 x v4 v5 v6 v7 v8 := by
  obtain ⟨h0, h1, h2, h3, h4, h5, h6, h7, h8, hf, hl⟩ := h
  have hz := (Below.setCell (p := ⟨g, 3, none⟩) (Below.refl 0 w) (Nat.zero_le _) x).size
  constructor <;> first | (simp [go_sem, *]; done) | (intro o; rw [set_frozen]; exact hf o) | omega
theorem C9.set4 {g : Nat} {w : World} {v0 v1 v2 v3 v4 v5 v6 v7 v8 : Value} (h : C9 w g v0 v1 v2 v3 v4 v5 v6 v7 v8) (x : Value) : C9 (w.setCell ⟨g, 4, none⟩ x) g v0 v1 v2 v3 x v5 v6 v7 v8 := by
  obtain ⟨h0, h1, h2, h3, h4, h5, h6, h7, h8, hf, hl⟩ := h
  have hz := (Below.setCell (p := ⟨g, 4, none⟩) (Below.refl 0 w) (Nat.zero_le _) x).size
  constructor <;> first | (simp [go_sem, *]; done) | (intro o; rw [set_frozen]; exact hf o) | omega
theorem C9.set5 {g : Nat} {w : World} {v0 v1 v2 v3 v4 v5 v6 v7 v8 : Value} (h : C9 w g v0 v1 v2 v3 v4 v5 v6 v7 v8) (x : Value) : C9 (w.setCell ⟨g, 5, none⟩ x) g v0 v1 v2 v3 v4 x v6 v7 v8 := by
  obtain ⟨h0, h1, h2, h3, h4, h5, h6, h7, h8, hf, hl⟩ := h
  have hz := (Below.setCell (p := ⟨g, 5, none⟩) (Below.refl 0 w) (Nat.zero_le _) x).size
  constructor <;> first | (simp [go_sem, *]; done) | (intro o; rw [set_frozen]; exact hf o) | omega
theorem C9.set6 {g : Nat} {w : World} {v0 v1 v2 v3 v4 v5 v6 v7 v8 : Value} (h : C9 w g v0 v1 v2 v3 v4 v5 v6 v7 v8) (x : Value) : C9 (w.setCell ⟨g, 6, none⟩ x) g v0 v1 v2 v3 v4 v5 x v7 v8 := by
  obtain ⟨h0, h1, h2, h3, h4, h5, h6, h7, h8, hf, hl⟩ := h
  have hz := (Below.setCell (p := ⟨g, 6, none⟩) (Below.refl 0 w) (Nat.zero_le _) x).size
  constructor <;> first | (simp [go_sem, *]; done) | (intro o; rw [set_frozen]; exact hf o) | omega
theorem C9.set7 {g : Nat} {w : World} {v0 v1 v2 v3 v4 v5 v6 v7 v8 : Value} (h : C9 w g v0 v1 v2 v3 v4 v5 v6 v7 v8) (x : Value) : C9 (w.setCell ⟨g, 7, none⟩ x) g v0 v1 v2 v3 v4 v5 v6 x v8 := by
  obtain ⟨h0, h1, h2, h3, h4, h5, h6, h7, h8, hf, hl⟩ := h
  have hz := (Below.setCell (p := ⟨g, 7, none⟩) (Below.refl 0 w) (Nat.zero_le _) x).size
  constructor <;> first | (simp [go_sem, *]; done) | (intro o; rw [set_frozen]; exact hf o) | omega
theorem C9.set8 {g : Nat} {w : World} {v0 v1 v2 v3 v4 v5 v6 v7 v8 : Value} (h : C9 w g v0 v1 v2 v3 v4 v5 v6 v7 v8) (x : Value) : C9 (w.setCell ⟨g, 8, none⟩ x) g v0 v1 v2 v3 v4 v5 v6 v7 x := by
  obtain ⟨h0, h1, h2, h3, h4, h5, h6, h7, h8, hf, hl⟩ := h
  have hz := (Below.setCell (p := ⟨g, 8, none⟩) (Below.refl 0 w) (Nat.zero_le _) x).size
  constructor <;> first | (simp [go_sem, *]; done) | (intro o; rw [set_frozen]; exact hf o) | omega
theorem C9.since {W : World} {g : Nat} {v0 v1 v2 v3 v4 v5 v6 v7 v8 : Value} (h : C9 W g v0 v1 v2 v3 v4 v5 v6 v7 v8) : (∀ p : Since W, p.v.cell? ⟨g, 0, none⟩ = some v0) ∧ (∀ p : Since W, p.v.cell? ⟨g, 1, none⟩ = some v1) ∧ (∀ p : Since W, p.v.cell? ⟨g, 2, none⟩ = some v2) ∧ (∀ p : Since W, p.v.cell? ⟨g, 3, none⟩ = some v3) ∧ (∀ p : Since W, p.v.cell? ⟨g, 4, none⟩ = some v4) ∧ (∀ p : Since W, p.v.cell? ⟨g, 5, none⟩ = some v5) ∧ (∀ p : Since W, p.v.cell? ⟨g, 6, none⟩ = some v6) ∧ (∀ p : Since W, p.v.cell? ⟨g, 7, none⟩ = some v7) ∧ (∀ p : Since W, p.v.cell? ⟨g, 8, none⟩ = some v8) :=
  ⟨fun p => (h.carry p.h).c0, fun p => (h.carry p.h).c1, fun p => (h.carry p.h).c2, fun p => (h.carry p.h).c3, fun p => (h.carry p.h).c4, fun p => (h.carry p.h).c5, fun p => (h.carry p.h).c6, fun p => (h.carry p.h).c7, fun p => (h.carry p.h).c8⟩
theorem okType_cases {t : ByteArray} (h : okType t = true) : t = ⟨#[]⟩ ∨ ∃ b, t = ⟨#[b]⟩ := by
  rcases bytes_cases t with rfl | ⟨b, rfl⟩ | h2
  · exact .inl rfl
  · exact .inr ⟨b, rfl⟩
  · rw [okType_two h2] at h; cases h
theorem okFill_cases {f : ByteArray} {al : Int} (h : okFill f al = true) : f = ⟨#[]⟩ ∨ ∃ b, f = ⟨#[b]⟩ := by
  rcases bytes_cases f with rfl | ⟨b, rfl⟩ | h2
  · exact .inl rfl
  · exact .inr ⟨b, rfl⟩
  · rw [okFill_two h2] at h; cases h
structure VS (f : ByteArray) (al si wi gr pr : Int) (t : ByteArray) : Prop where
  al0 : 0 ≤ al
  al4 : al ≤ 4
  si0 : 0 ≤ si
  si3 : si ≤ 3
  gr0 : 0 ≤ gr
  gr2 : gr ≤ 2
  wi0 : 0 ≤ wi
  wi30 : wi ≤ 30
  pr0 : -1 ≤ pr
  pr9 : pr ≤ 9
  fill : okFill f al = true
  type : okType t = true
theorem vSp_open {f : ByteArray} {al si wi gr pr : Int} {t : ByteArray} (h : vSp f al si wi gr pr t = true) : VS f al si wi gr pr t := by
  simp only [vSp, inr, Bool.and_eq_true, decide_eq_true_eq] at h
  obtain ⟨⟨⟨⟨⟨⟨⟨a, b⟩, c, d⟩, e, f⟩, g, h⟩, i, j⟩, k⟩, l⟩ := h
  exact ⟨a, b, c, d, e, f, g, h, i, j, k, l⟩


theorem dec2_eq {i : Nat} (h : i < 100) : Lib.decDigits i = dec2 i := by
  have h0 : ((List.range 100).all fun i => Lib.decDigits i == dec2 i) = true := by decide +kernel
  exact eq_of_beq (List.all_eq_true.1 h0 i (List.mem_range.2 h))
theorem of_list (s : ByteArray) : s = ⟨s.data.toList.toArray⟩ := by
  apply ByteArray.ext
  simp
theorem Itoa_two (i : Nat) (h : i < 100) (w : World) : Calls Tryd.prog 25 #[.int .i64 i] w fun r w' => r = .returned (.string ⟨(dec2 i).toArray⟩) ∧ Below w.heap.size w w' := by
  rw [← dec2_eq h]
  exact (Tryd.strconv_Itoa_small i h w).mono (by rintro r w1 ⟨rfl, rfl⟩; exact ⟨rfl, Below.refl _ _⟩)
theorem numberS_two (k : Nat) (h : k < 100) (w : World) : Calls Tryd.prog 51 #[.int .i64 k] w fun r w' => r = .returned (.string ⟨(dec2 k).toArray⟩) ∧ w = w' := by
  by_cases h1 : k < 10
  · exact numberS_one k h1 w
  · have i1 : ¬ (k : Int) < 10 := by omega
    have hd : ((k : Int)).tdiv 10 = ((k / 10 : Nat) : Int) := by rw [Int.tdiv_eq_ediv_of_nonneg (by omega)]; rfl
    have hm : ((k : Int)).tmod 10 = ((k % 10 : Nat) : Int) := by rw [Int.tmod_eq_emod_of_nonneg (by omega)]; rfl
    have hd' : ((k : Int)) / 10 = ((k / 10 : Nat) : Int) := rfl
    have hm' : ((k : Int)) % 10 = ((k % 10 : Nat) : Int) := rfl
    have ka := fun W => numberS_one (k / 10) (by omega) W
    have kb := fun W => numberS_one (k % 10) (by omega) W
    have hw : dec2 k = dec2 (k / 10) ++ dec2 (k % 10) := by
      unfold dec2
      rw [if_neg h1, if_pos (by omega), if_pos (by omega)]
      rfl
    have la := dec2_len (k / 10)
    have lb := dec2_len (k % 10)
    rw [hw]
    generalize dec2 (k / 10) = A at *
    generalize dec2 (k % 10) = B at *
    generalize k / 10 = q at *
    generalize k % 10 = m at *
    have KA := Lib.hid ka; have KB := Lib.hid kb
    clear ka kb hw
    go_enter Tryd.func51, Tryd.ntmps51
    go_wp2_with (first | (go_at_call_of 51 (Value.int .i64 q); (with_reducible refine Calls.mono (KA.out _) ?_); rintro r w1 ⟨rfl, rfl⟩) | (go_at_call 51; (with_reducible refine Calls.mono (KA.out _) ?_); rintro r w1 ⟨rfl, rfl⟩) | (go_at_call 51; (with_reducible refine Calls.mono (KB.out _) ?_); rintro r w1 ⟨rfl, rfl⟩))
    go_ret
    exact ⟨ret_str (cat_l _ _), rfl⟩
end Go.Proofs.YteaaopippeploaaDoor
