import Derived.Test.YtebheehjhnaklaaGreatDoorW0
import Derived.Test.YtebheehjhnaklaaGreatDoorC3T
namespace Go.Proofs.YtebheehjhnaklaaGreatDoor
open Go.RowKit
/-- the kind of a type -/
def kindB (b : UInt8) : Int :=
  if b == 100 || b == 98 || b == 111 || b == 120 || b == 88 || b == 99 then 0 else if b == 102 || b == 101 || b == 69 || b == 103 || b == 71 || b == 37 then 1 else if b == 115 then 2 else -1
/-- the marks that mean nothing for texts -/
def marksW (al si : Int) (alt ze : Bool) (gr : Int) : Bool := al == 4 || (!(si == 0) || (alt || (ze || !(gr == 0))))
/-- a type suits a kind, and so do the marks -/
def suitT (al si : Int) (alt ze : Bool) (gr pr : Int) (t : ByteArray) (k : Int) : Bool :=
  match t.data.toList with
  | [] => if k = 0 then pr == -1 else if k = 1 then pr == -1 && !alt else if k = 2 then !marksW al si alt ze gr else false
  | [b] => kindB b == k && (if k = 0 then pr == -1 && (if b == 99 then !marksW al si alt ze gr else (!(gr == 1) || b == 100)) else if k = 1 then true else if k = 2 then !marksW al si alt ze gr else false)
  | _ => false
def suitW (v : Bool) (al si : Int) (alt ze : Bool) (gr pr : Int) (t : ByteArray) (k : Int) : Bool := v && suitT al si alt ze gr pr t k
theorem idx_whole (b : UInt8) : decide (0 ≤ Lib.indexByte [100, 98, 111, 120, 88, 99] b) = (kindB b == 0) :=
  eq_of_beq (all_bytes (fun b => decide (0 ≤ Lib.indexByte [100, 98, 111, 120, 88, 99] b) == (kindB b == 0)) (by kernel_rfl) b)
theorem idx_real (b : UInt8) : decide (0 ≤ Lib.indexByte [102, 101, 69, 103, 71, 37] b) = (kindB b == 1) :=
  eq_of_beq (all_bytes (fun b => decide (0 ≤ Lib.indexByte [102, 101, 69, 103, 71, 37] b) == (kindB b == 1)) (by kernel_rfl) b)
theorem idx_text (b : UInt8) : decide (0 ≤ Lib.indexByte [115] b) = (kindB b == 2) :=
  eq_of_beq (all_bytes (fun b => decide (0 ≤ Lib.indexByte [115] b) == (kindB b == 2)) (by kernel_rfl) b)
theorem okType_cases {t : ByteArray} (h : okType t = true) : t = ⟨#[]⟩ ∨ ∃ b, t = ⟨#[b]⟩ := by
  rcases bytes_cases t with rfl | ⟨b, rfl⟩ | h2
  · exact .inl rfl
  · exact .inr ⟨b, rfl⟩
  · rw [okType_two h2] at h; cases h
theorem okFill_cases {f : ByteArray} {al : Int} (h : okFill f al = true) : f = ⟨#[]⟩ ∨ ∃ b, f = ⟨#[b]⟩ := by
  rcases bytes_cases f with rfl | ⟨b, rfl⟩ | h2
  · exact .inl rfl
  · exact .inr ⟨b, rfl⟩
  · rw [okFill_two h2] at h; cases h
structure VS (f : ByteArray) (al si wi gr pr : Int) (t : ByteArray) : Prop where
  al0 : 0 ≤ al
  al4 : al ≤ 4
  si0 : 0 ≤ si
  si3 : si ≤ 3
  gr0 : 0 ≤ gr
  gr2 : gr ≤ 2
  wi0 : 0 ≤ wi
  wi30 : wi ≤ 30
  pr0 : -1 ≤ pr
  pr9 : pr ≤ 9
  fill : okFill f al = true
  type : okType t = true
theorem vSp_open {f : ByteArray} {al si wi gr pr : Int} {t : ByteArray} (h : vSp f al si wi gr pr t = true) : VS f al si wi gr pr t := by
  simp only [vSp, inr, Bool.and_eq_true, decide_eq_true_eq] at h
  obtain ⟨⟨⟨⟨⟨⟨⟨a, b⟩, c, d⟩, e, f⟩, g, h⟩, i, j⟩, k⟩, l⟩ := h
  exact ⟨a, b, c, d, e, f, g, h, i, j, k, l⟩
set_option maxHeartbeats 1000000 in
theorem hasNumberMarks_any (f : ByteArray) (al si : Int) (alt ze : Bool) (wi gr pr : Int) (t : ByteArray) (w : World) :
    Calls Tryz.prog 140 #[.agg #[.string f, .int .i64 al, .int .i64 si, .bool alt, .bool ze, .int .i64 wi, .int .i64 gr, .int .i64 pr, .string t]] w fun r w' => r = .returned (.bool (marksW al si alt ze gr)) ∧ Below w.heap.size w w' := by
  go_enter Tryz.func140, Tryz.ntmps140
  go_wp2
  all_goals go_ret
  all_goals refine ⟨ret_bool ?_, (by repeat (first | with_reducible exact Below.refl _ _ | with_reducible assumption | with_reducible refine Below.setCell ?_ (by first | omega | (simp; done) | (simp <;> omega)) _ | with_reducible refine below_drewN ?_ _ | with_reducible refine Below.drew ?_ | with_reducible refine Below.alloc ?_ (by first | omega | (simp; done) | (simp <;> omega)) _))⟩
  all_goals first | (simp_all [marksW, bne]; done)
set_option maxHeartbeats 2000000 in
theorem kindOfS_one (b : UInt8) (w : World) :
    Calls Tryz.prog 132 #[.string ⟨#[b]⟩] w fun r w' => r = .returned (.int .i64 (kindB b)) ∧ w = w' := by
  go_enter Tryz.func132, Tryz.ntmps132
  go_wp2
  all_goals go_ret
  all_goals refine ⟨ret_int ?_, rfl⟩
  all_goals first | (simp_all [kindB]; done)
end Go.Proofs.YtebheehjhnaklaaGreatDoor
namespace Go.Proofs.YtebheehjhnaklaaGreatDoor
open Go.RowKit
/-- nine cells of a block, as a later world has them -/
structure C9 (w : World) (g : Nat) (v0 v1 v2 v3 v4 v5 v6 v7 v8 : Value) : Prop where
  c0 : w.cell? ⟨g, 0, none⟩ = some v0
  c1 : w.cell? ⟨g, 1, none⟩ = some v1
  c2 : w.cell? ⟨g, 2, none⟩ = some v2
  c3 : w.cell? ⟨g, 3, none⟩ = some v3
  c4 : w.cell? ⟨g, 4, none⟩ = some v4
  c5 : w.cell? ⟨g, 5, none⟩ = some v5
  c6 : w.cell? ⟨g, 6, none⟩ = some v6
  c7 : w.cell? ⟨g, 7, none⟩ = some v7
  c8 : w.cell? ⟨g, 8, none⟩ = some v8
  fz : ∀ o, w.frozen? ⟨g, o, none⟩ = false
  lt : g < w.heap.size
theorem C9.new (V : World) (v0 v1 v2 v3 v4 v5 v6 v7 v8 : Value) (t : TypeId) : C9 (V.alloc (.cells #[v0, v1, v2, v3, v4, v5, v6, v7, v8] t)) V.heap.size v0 v1 v2 v3 v4 v5 v6 v7 v8 := by
  constructor <;> simp [go_sem]
theorem C9.keep {w w' : World} {g : Nat} {v0 v1 v2 v3 v4 v5 v6 v7 v8 : Value} (h : C9 w g v0 v1 v2 v3 v4 v5 v6 v7 v8) (hs : w.heap.size ≤ w'.heap.size) (hc : ∀ o, w'.cell? ⟨g, o, none⟩ = w.cell? ⟨g, o, none⟩) (hf : ∀ o, w'.frozen? ⟨g, o, none⟩ = w.frozen? ⟨g, o, none⟩) : C9 w' g v0 v1 v2 v3 v4 v5 v6 v7 v8 :=
  ⟨(hc _).trans h.c0, (hc _).trans h.c1, (hc _).trans h.c2, (hc _).trans h.c3, (hc _).trans h.c4, (hc _).trans h.c5, (hc _).trans h.c6, (hc _).trans h.c7, (hc _).trans h.c8, fun o => (hf o).trans (h.fz o), Nat.lt_of_lt_of_le h.lt hs⟩
theorem C9.carry {g : Nat} {w w' : World} {v0 v1 v2 v3 v4 v5 v6 v7 v8 : Value} (h : C9 w g v0 v1 v2 v3 v4 v5 v6 v7 v8) (hb : Below w.heap.size w w') : C9 w' g v0 v1 v2 v3 v4 v5 v6 v7 v8 :=
  h.keep hb.size (fun o => hb.cell (p := ⟨g, o, none⟩) h.lt) (fun o => hb.frozen (p := ⟨g, o, none⟩) h.lt)
theorem C9.up {g : Nat} {w : World} {v0 v1 v2 v3 v4 v5 v6 v7 v8 : Value} (h : C9 w g v0 v1 v2 v3 v4 v5 v6 v7 v8) (o : Obj) : C9 (w.alloc o) g v0 v1 v2 v3 v4 v5 v6 v7 v8 := h.carry ((Below.refl _ _).alloc (Nat.le_refl _) _)
theorem C9.drew {g : Nat} {w : World} {v0 v1 v2 v3 v4 v5 v6 v7 v8 : Value} (h : C9 w g v0 v1 v2 v3 v4 v5 v6 v7 v8) : C9 w.drew g v0 v1 v2 v3 v4 v5 v6 v7 v8 := h.keep (Nat.le_refl _) (fun _ => rfl) (fun _ => rfl)
theorem C9.far {g : Nat} {w : World} {v0 v1 v2 v3 v4 v5 v6 v7 v8 : Value} (h : C9 w g v0 v1 v2 v3 v4 v5 v6 v7 v8) {b o : Nat} (hn : b ≠ g) (v : Value) : C9 (w.setCell ⟨b, o, none⟩ v) g v0 v1 v2 v3 v4 v5 v6 v7 v8 :=
  h.keep ((Below.setCell (p := ⟨b, o, none⟩) (Below.refl 0 w) (Nat.zero_le _) v).size) (fun _ => World.cell?_setCell_far _ ⟨b, o, none⟩ _ _ hn) (fun _ => set_frozen _ _ _ _ _)
theorem C9.set0 {g : Nat} {w : World} {v0 v1 v2 v3 v4 v5 v6 v7 v8 : Value} (h : C9 w g v0 v1 v2 v3 v4 v5 v6 v7 v8) (x : Value) : C9 (w.setCell ⟨g, 0, none⟩ x) g x v1 v2 v3 v4 v5 v6 v7 v8 := by
  obtain ⟨h0, h1, h2, h3, h4, h5, h6, h7, h8, hf, hl⟩ := h
  have hz := (Below.setCell (p := ⟨g, 0, none⟩) (Below.refl 0 w) (Nat.zero_le _) x).size
  constructor <;> first | (simp [go_sem, *]; done) | (intro o; rw [set_frozen]; exact hf o) | omega
theorem C9.set1 {g : Nat} {w : World} {v0 v1 v2 v3 v4 v5 v6 v7 v8 : Value} (h : C9 w g v0 v1 v2 v3 v4 v5 v6 v7 v8) (x : Value) : C9 (w.setCell ⟨g, 1, none⟩ x) g v0 x v2 v3 v4 v5 v6 v7 v8 := by
  obtain ⟨h0, h1, h2, h3, h4, h5, h6, h7, h8, hf, hl⟩ := h
  have hz := (Below.setCell (p := ⟨g, 1, none⟩) (Below.refl 0 w) (Nat.zero_le _) x).size
  constructor <;> first | (simp [go_sem, *]; done) | (intro o; rw [set_frozen]; exact hf o) | omega
theorem C9.set2 {g : Nat} {w : World} {v0 v1 v2 v3 v4 v5 v6 v7 v8 : Value} (h : C9 w g v0 v1 v2 v3 v4 v5 v6 v7 v8) (x : Value) : C9 (w.setCell ⟨g, 2, none⟩ x) g v0 v1 x v3 v4 v5 v6 v7 v8 := by
  obtain ⟨h0, h1, h2, h3, h4, h5, h6, h7, h8, hf, hl⟩ := h
  have hz := (Below.setCell (p := ⟨g, 2, none⟩) (Below.refl 0 w) (Nat.zero_le _) x).size
  constructor <;> first | (simp [go_sem, *]; done) | (intro o; rw [set_frozen]; exact hf o) | omega
theorem C9.set3 {g : Nat} {w : World} {v0 v1 v2 v3 v4 v5 v6 v7 v8 : Value} (h : C9 w g v0 v1 v2 v3 v4 v5 v6 v7 v8) (x : Value) : C9 (w.setCell ⟨g, 3, none⟩ x) g v0 v1 v2 x v4 v5 v6 v7 v8 := by
  obtain ⟨h0, h1, h2, h3, h4, h5, h6, h7, h8, hf, hl⟩ := h
  have hz := (Below.setCell (p := ⟨g, 3, none⟩) (Below.refl 0 w) (Nat.zero_le _) x).size
  constructor <;> first | (simp [go_sem, *]; done) | (intro o; rw [set_frozen]; exact hf o) | omega
theorem C9.set4 {g : Nat} {w : World} {v0 v1 v2 v3 v4 v5 v6 v7 v8 : Value} (h : C9 w g v0 v1 v2 v3 v4 v5 v6 v7 v8) (x : Value) : C9 (w.setCell ⟨g, 4, none⟩ x) g v0 v1 v2 v3 x v5 v6 v7 v8 := by
  obtain ⟨h0, h1, h2, h3, h4, h5, h6, h7, h8, hf, hl⟩ := h
  have hz := (Below.setCell (p := ⟨g, 4, none⟩) (Below.refl 0 w) (Nat.zero_le _) x).size
  constructor <;> first | (simp [go_sem, *]; done) | (intro o; rw [set_frozen]; exact hf o) | omega
theorem C9.set5 {g : Nat} {w : World} {v0 v1 v2 v3 v4 v5 v6 v7 v8 : Value} (h : C9 w g v0 v1 v2 v3 v4 v5 v6 v7 v8) (x : Value) : C9 (w.setCell ⟨g, 5, none⟩ x) g v0 v1 v2 v3 v4 x v6 v7 v8 := by
  obtain ⟨h0, h1, h2, h3, h4, h5, h6, h7, h8, hf, hl⟩ := h
  have hz := (Below.setCell (p := ⟨g, 5, none⟩) (Below.refl 0 w) (Nat.zero_le _) x).size
  constructor <;> first | (simp [go_sem, *]; done) | (intro o; rw [set_frozen]; exact hf o) | omega
theorem C9.set6 {g : Nat} {w : World} {v0 v1 v2 v3 v4 v5 v6 v7 v8 : Value} (h : C9 w g v0 v1 v2 v3 v4 v5 v6 v7 v8) (x : Value) : C9 (w.setCell ⟨g, 6, none⟩ x) g v0 v1 v2 v3 v4 v5 x v7 v8 := by
  obtain ⟨h0, h1, h2, h3, h4, h5, h6, h7, h8, hf, hl⟩ := h
  have hz := (Below.setCell (p := ⟨g, 6, none⟩) (Below.refl 0 w) (Nat.zero_le _) x).size
  constructor <;> first | (simp [go_sem, *]; done) | (intro o; rw [set_frozen]; exact hf o) | omega
theorem C9.set7 {g : Nat} {w : World} {v0 v1 v2 v3 v4 v5 v6 v7 v8 : Value} (h : C9 w g v0 v1 v2 v3 v4 v5 v6 v7 v8) (x : Value) : C9 (w.setCell ⟨g, 7, none⟩ x) g v0 v1 v2 v3 v4 v5 v6 x v8 := by
  obtain ⟨h0, h1, h2, h3, h4, h5, h6, h7, h8, hf, hl⟩ := h
  have hz := (Below.setCell (p := ⟨g, 7, none⟩) (Below.refl 0 w) (Nat.zero_le _) x).size
  constructor <;> first | (simp [go_sem, *]; done) | (intro o; rw [set_frozen]; exact hf o) | omega
theorem C9.set8 {g : Nat} {w : World} {v0 v1 v2 v3 v4 v5 v6 v7 v8 : Value} (h : C9 w g v0 v1 v2 v3 v4 v5 v6 v7 v8) (x : Value) : C9 (w.setCell ⟨g, 8, none⟩ x) g v0 v1 v2 v3 v4 v5 v6 v7 x := by
  obtain ⟨h0, h1, h2, h3, h4, h5, h6, h7, h8, hf, hl⟩ := h
  have hz := (Below.setCell (p := ⟨g, 8, none⟩) (Below.refl 0 w) (Nat.zero_le _) x).size
  constructor <;> first | (simp [go_sem, *]; done) | (intro o; rw [set_frozen]; exact hf o) | omega
theorem C9.since {W : World} {g : Nat} {v0 v1 v2 v3 v4 v5 v6 v7 v8 : Value} (h : C9 W g v0 v1 v2 v3 v4 v5 v6 v7 v8) : (∀ p : Since W, p.v.cell? ⟨g, 0, none⟩ = some v0) ∧ (∀ p : Since W, p.v.cell? ⟨g, 1, none⟩ = some v1) ∧ (∀ p : Since W, p.v.cell? ⟨g, 2, none⟩ = some v2) ∧ (∀ p : Since W, p.v.cell? ⟨g, 3, none⟩ = some v3) ∧ (∀ p : Since W, p.v.cell? ⟨g, 4, none⟩ = some v4) ∧ (∀ p : Since W, p.v.cell? ⟨g, 5, none⟩ = some v5) ∧ (∀ p : Since W, p.v.cell? ⟨g, 6, none⟩ = some v6) ∧ (∀ p : Since W, p.v.cell? ⟨g, 7, none⟩ = some v7) ∧ (∀ p : Since W, p.v.cell? ⟨g, 8, none⟩ = some v8) :=
  ⟨fun p => (h.carry p.h).c0, fun p => (h.carry p.h).c1, fun p => (h.carry p.h).c2, fun p => (h.carry p.h).c3, fun p => (h.carry p.h).c4, fun p => (h.carry p.h).c5, fun p => (h.carry p.h).c6, fun p => (h.carry p.h).c7, fun p => (h.carry p.h).c8⟩
end Go.Proofs.YtebheehjhnaklaaGreatDoor
