/- Promise 21: proved for every input. No condition. The tables of the library that the row lists are tied to their text, or pinned. -/
import Derived.Test.YtejganoipbblcaaGreatDoorGPL
import Derived.Test.YtejganoipbblcaaGreatDoorV11
import Derived.Test.YtejganoipbblcaaGreatDoorGV2
import Derived.Test.YtejganoipbblcaaGreatDoorRC
import Derived.Test.YtejganoipbblcaaGreatDoorZ10
import Derived.Test.YtejganoipbblcaaGreatDoorTie
import Derived.Test.YtejganoipbblcaaGreatDoorCards
import Derived.LaidMore
import Derived.Lib.LaidTab
import Derived.Stop.LaidErr
import Derived.Handy
import Derived.Deep.LoopGhost
import Derived.Lay
import Derived.OpenShut
import Derived.Stop.Joined
import Derived.SevenTiedAt
namespace Go.Proofs.YtejganoipbblcaaGreatDoor
open Go Go.ChangeShapes Go.WideShapes Go.ChangeAt Go.WideMaps Go.WideElems Go.RowKit Go.Joins Go.ChangeMaps
/-- the 12 cells of a struct, as a later world has them -/
structure C12 (w : World) (g : Nat) (v0 v1 v2 v3 v4 v5 v6 v7 v8 v9 v10 v11 : Value) : Prop where
  c0 : w.cell? ⟨g, 0, none⟩ = some v0
  c1 : w.cell? ⟨g, 1, none⟩ = some v1
  c2 : w.cell? ⟨g, 2, none⟩ = some v2
  c3 : w.cell? ⟨g, 3, none⟩ = some v3
  c4 : w.cell? ⟨g, 4, none⟩ = some v4
  c5 : w.cell? ⟨g, 5, none⟩ = some v5
  c6 : w.cell? ⟨g, 6, none⟩ = some v6
  c7 : w.cell? ⟨g, 7, none⟩ = some v7
  c8 : w.cell? ⟨g, 8, none⟩ = some v8
  c9 : w.cell? ⟨g, 9, none⟩ = some v9
  c10 : w.cell? ⟨g, 10, none⟩ = some v10
  c11 : w.cell? ⟨g, 11, none⟩ = some v11
  fz : ∀ o, w.frozen? ⟨g, o, none⟩ = false
  lt : g < w.heap.size
theorem C12.new (V : World) (v0 v1 v2 v3 v4 v5 v6 v7 v8 v9 v10 v11 : Value) (t : TypeId) : C12 (V.alloc (.cells #[v0, v1, v2, v3, v4, v5, v6, v7, v8, v9, v10, v11] t)) V.heap.size v0 v1 v2 v3 v4 v5 v6 v7 v8 v9 v10 v11 := by
  constructor <;> simp [go_sem]
theorem C12.keep {w w' : World} {g : Nat} {v0 v1 v2 v3 v4 v5 v6 v7 v8 v9 v10 v11 : Value} (h : C12 w g v0 v1 v2 v3 v4 v5 v6 v7 v8 v9 v10 v11) (hs : w.heap.size ≤ w'.heap.size) (hc : ∀ o, w'.cell? ⟨g, o, none⟩ = w.cell? ⟨g, o, none⟩) (hf : ∀ o, w'.frozen? ⟨g, o, none⟩ = w.frozen? ⟨g, o, none⟩) : C12 w' g v0 v1 v2 v3 v4 v5 v6 v7 v8 v9 v10 v11 :=
  ⟨(hc _).trans h.c0, (hc _).trans h.c1, (hc _).trans h.c2, (hc _).trans h.c3, (hc _).trans h.c4, (hc _).trans h.c5, (hc _).trans h.c6, (hc _).trans h.c7, (hc _).trans h.c8, (hc _).trans h.c9, (hc _).trans h.c10, (hc _).trans h.c11, fun o => (hf o).trans (h.fz o), Nat.lt_of_lt_of_le h.lt hs⟩
theorem C12.carry {g : Nat} {w w' : World} {v0 v1 v2 v3 v4 v5 v6 v7 v8 v9 v10 v11 : Value} (h : C12 w g v0 v1 v2 v3 v4 v5 v6 v7 v8 v9 v10 v11) (hb : Below w.heap.size w w') : C12 w' g v0 v1 v2 v3 v4 v5 v6 v7 v8 v9 v10 v11 :=
  h.keep hb.size (fun o => hb.cell (p := ⟨g, o, none⟩) h.lt) (fun o => hb.frozen (p := ⟨g, o, none⟩) h.lt)
theorem C12.up {g : Nat} {w : World} {v0 v1 v2 v3 v4 v5 v6 v7 v8 v9 v10 v11 : Value} (h : C12 w g v0 v1 v2 v3 v4 v5 v6 v7 v8 v9 v10 v11) (o : Obj) : C12 (w.alloc o) g v0 v1 v2 v3 v4 v5 v6 v7 v8 v9 v10 v11 := h.carry ((Below.refl _ _).alloc (Nat.le_refl _) _)
theorem C12.drew {g : Nat} {w : World} {v0 v1 v2 v3 v4 v5 v6 v7 v8 v9 v10 v11 : Value} (h : C12 w g v0 v1 v2 v3 v4 v5 v6 v7 v8 v9 v10 v11) : C12 w.drew g v0 v1 v2 v3 v4 v5 v6 v7 v8 v9 v10 v11 := h.keep (Nat.le_refl _) (fun _ => rfl) (fun _ => rfl)
theorem C12.far {g : Nat} {w : World} {v0 v1 v2 v3 v4 v5 v6 v7 v8 v9 v10 v11 : Value} (h : C12 w g v0 v1 v2 v3 v4 v5 v6 v7 v8 v9 v10 v11) {b o : Nat} (hn : b ≠ g) (v : Value) : C12 (w.setCell ⟨b, o, none⟩ v) g v0 v1 v2 v3 v4 v5 v6 v7 v8 v9 v10 v11 :=
  h.keep ((Below.setCell (p := ⟨b, o, none⟩) (Below.refl 0 w) (Nat.zero_le _) v).size) (fun _ => World.cell?_setCell_far _ ⟨b, o, none⟩ _ _ hn) (fun _ => set_frozen _ _ _ _ _)
theorem C12.set0 {g : Nat} {w : World} {v0 v1 v2 v3 v4 v5 v6 v7 v8 v9 v10 v11 : Value} (h : C12 w g v0 v1 v2 v3 v4 v5 v6 v7 v8 v9 v10 v11) (x : Value) : C12 (w.setCell ⟨g, 0, none⟩ x) g x v1 v2 v3 v4 v5 v6 v7 v8 v9 v10 v11 := by
  obtain ⟨h0, h1, h2, h3, h4, h5, h6, h7, h8, h9, h10, h11, hf, hl⟩ := h
  have hz := (Below.setCell (p := ⟨g, 0, none⟩) (Below.refl 0 w) (Nat.zero_le _) x).size
  constructor <;> first | (simp [go_sem, *]; done) | (intro o; rw [set_frozen]; exact hf o) | omega
theorem C12.set1 {g : Nat} {w : World} {v0 v1 v2 v3 v4 v5 v6 v7 v8 v9 v10 v11 : Value} (h : C12 w g v0 v1 v2 v3 v4 v5 v6 v7 v8 v9 v10 v11) (x : Value) : C12 (w.setCell ⟨g, 1, none⟩ x) g v0 x v2 v3 v4 v5 v6 v7 v8 v9 v10 v11 := by
  obtain ⟨h0, h1, h2, h3, h4, h5, h6, h7, h8, h9, h10, h11, hf, hl⟩ := h
  have hz := (Below.setCell (p := ⟨g, 1, none⟩) (Below.refl 0 w) (Nat.zero_le _) x).size
  constructor <;> first | (simp [go_sem, *]; done) | (intro o; rw [set_frozen]; exact hf o) | omega
theorem C12.set2 {g : Nat} {w : World} {v0 v1 v2 v3 v4 v5 v6 v7 v8 v9 v10 v11 : Value} (h : C12 w g v0 v1 v2 v3 v4 v5 v6 v7 v8 v9 v10 v11) (x : Value) : C12 (w.setCell ⟨g, 2, none⟩ x) g v0 v1 x v3 v4 v5 v6 v7 v8 v9 v10 v11 := by
  obtain ⟨h0, h1, h2, h3, h4, h5, h6, h7, h8, h9, h10, h11, hf, hl⟩ := h
  have hz := (Below.setCell (p := ⟨g, 2, none⟩) (Below.refl 0 w) (Nat.zero_le _) x).size
  constructor <;> first | (simp [go_sem, *]; done) | (intro o; rw [set_frozen]; exact hf o) | omega
theorem C12.set3 {g : Nat} {w : World} {v0 v1 v2 v3 v4 v5 v6 v7 v8 v9 v10 v11 : Value} (h : C12 w g v0 v1 v2 v3 v4 v5 v6 v7 v8 v9 v10 v11) (x : Value) : C12 (w.setCell ⟨g, 3, none⟩ x) g v0 v1 v2 x v4 v5 v6 v7 v8 v9 v10 v11 := by
  obtain ⟨h0, h1, h2, h3, h4, h5, h6, h7, h8, h9, h10, h11, hf, hl⟩ := h
  have hz := (Below.setCell (p := ⟨g, 3, none⟩) (Below.refl 0 w) (Nat.zero_le _) x).size
  constructor <;> first | (simp [go_sem, *]; done) | (intro o; rw [set_frozen]; exact hf o) | omega
theorem C12.set4 {g : Nat} {w : World} {v0 v1 v2 v3 v4 v5 v6 v7 v8 v9 v10 v11 : Value} (h : C12 w g v0 v1 v2 v3 v4 v5 v6 v7 v8 v9 v10 v11) (x : Value) : C12 (w.setCell ⟨g, 4, none⟩ x) g v0 v1 v2 v3 x v5 v6 v7 v8 v9 v10 v11 := by
  obtain ⟨h0, h1, h2, h3, h4, h5, h6, h7, h8, h9, h10, h11, hf, hl⟩ := h
  have hz := (Below.setCell (p := ⟨g, 4, none⟩) (Below.refl 0 w) (Nat.zero_le _) x).size
  constructor <;> first | (simp [go_sem, *]; done) | (intro o; rw [set_frozen]; exact hf o) | omega
theorem C12.set5 {g : Nat} {w : World} {v0 v1 v2 v3 v4 v5 v6 v7 v8 v9 v10 v11 : Value} (h : C12 w g v0 v1 v2 v3 v4 v5 v6 v7 v8 v9 v10 v11) (x : Value) : C12 (w.setCell ⟨g, 5, none⟩ x) g v0 v1 v2 v3 v4 x v6 v7 v8 v9 v10 v11 := by
  obtain ⟨h0, h1, h2, h3, h4, h5, h6, h7, h8, h9, h10, h11, hf, hl⟩ := h
  have hz := (Below.setCell (p := ⟨g, 5, none⟩) (Below.refl 0 w) (Nat.zero_le _) x).size
  constructor <;> first | (simp [go_sem, *]; done) | (intro o; rw [set_frozen]; exact hf o) | omega
theorem C12.set6 {g : Nat} {w : World} {v0 v1 v2 v3 v4 v5 v6 v7 v8 v9 v10 v11 : Value} (h : C12 w g v0 v1 v2 v3 v4 v5 v6 v7 v8 v9 v10 v11) (x : Value) : C12 (w.setCell ⟨g, 6, none⟩ x) g v0 v1 v2 v3 v4 v5 x v7 v8 v9 v10 v11 := by
  obtain ⟨h0, h1, h2, h3, h4, h5, h6, h7, h8, h9, h10, h11, hf, hl⟩ := h
  have hz := (Below.setCell (p := ⟨g, 6, none⟩) (Below.refl 0 w) (Nat.zero_le _) x).size
  constructor <;> first | (simp [go_sem, *]; done) | (intro o; rw [set_frozen]; exact hf o) | omega
theorem C12.set7 {g : Nat} {w : World} {v0 v1 v2 v3 v4 v5 v6 v7 v8 v9 v10 v11 : Value} (h : C12 w g v0 v1 v2 v3 v4 v5 v6 v7 v8 v9 v10 v11) (x : Value) : C12 (w.setCell ⟨g, 7, none⟩ x) g v0 v1 v2 v3 v4 v5 v6 x v8 v9 v10 v11 := by
  obtain ⟨h0, h1, h2, h3, h4, h5, h6, h7, h8, h9, h10, h11, hf, hl⟩ := h
  have hz := (Below.setCell (p := ⟨g, 7, none⟩) (Below.refl 0 w) (Nat.zero_le _) x).size
  constructor <;> first | (simp [go_sem, *]; done) | (intro o; rw [set_frozen]; exact hf o) | omega
theorem C12.set8 {g : Nat} {w : World} {v0 v1 v2 v3 v4 v5 v6 v7 v8 v9 v10 v11 : Value} (h : C12 w g v0 v1 v2 v3 v4 v5 v6 v7 v8 v9 v10 v11) (x : Value) : C12 (w.setCell ⟨g, 8, none⟩ x) g v0 v1 v2 v3 v4 v5 v6 v7 x v9 v10 v11 := by
  obtain ⟨h0, h1, h2, h3, h4, h5, h6, h7, h8, h9, h10, h11, hf, hl⟩ := h
  have hz := (Below.setCell (p := ⟨g, 8, none⟩) (Below.refl 0 w) (Nat.zero_le _) x).size
  constructor <;> first | (simp [go_sem, *]; done) | (intro o; rw [set_frozen]; exact hf o) | omega
theorem C12.set9 {g : Nat} {w : World} {v0 v1 v2 v3 v4 v5 v6 v7 v8 v9 v10 v11 : Value} (h : C12 w g v0 v1 v2 v3 v4 v5 v6 v7 v8 v9 v10 v11) (x : Value) : C12 (w.setCell ⟨g, 9, none⟩ x) g v0 v1 v2 v3 v4 v5 v6 v7 v8 x v10 v11 := by
  obtain ⟨h0, h1, h2, h3, h4, h5, h6, h7, h8, h9, h10, h11, hf, hl⟩ := h
  have hz := (Below.setCell (p := ⟨g, 9, none⟩) (Below.refl 0 w) (Nat.zero_le _) x).size
  constructor <;> first | (simp [go_sem, *]; done) | (intro o; rw [set_frozen]; exact hf o) | omega
theorem C12.set10 {g : Nat} {w : World} {v0 v1 v2 v3 v4 v5 v6 v7 v8 v9 v10 v11 : Value} (h : C12 w g v0 v1 v2 v3 v4 v5 v6 v7 v8 v9 v10 v11) (x : Value) : C12 (w.setCell ⟨g, 10, none⟩ x) g v0 v1 v2 v3 v4 v5 v6 v7 v8 v9 x v11 := by
  obtain ⟨h0, h1, h2, h3, h4, h5, h6, h7, h8, h9, h10, h11, hf, hl⟩ := h
  have hz := (Below.setCell (p := ⟨g, 10, none⟩) (Below.refl 0 w) (Nat.zero_le _) x).size
  constructor <;> first | (simp [go_sem, *]; done) | (intro o; rw [set_frozen]; exact hf o) | omega
theorem C12.set11 {g : Nat} {w : World} {v0 v1 v2 v3 v4 v5 v6 v7 v8 v9 v10 v11 : Value} (h : C12 w g v0 v1 v2 v3 v4 v5 v6 v7 v8 v9 v10 v11) (x : Value) : C12 (w.setCell ⟨g, 11, none⟩ x) g v0 v1 v2 v3 v4 v5 v6 v7 v8 v9 v10 x := by
  obtain ⟨h0, h1, h2, h3, h4, h5, h6, h7, h8, h9, h10, h11, hf, hl⟩ := h
  have hz := (Below.setCell (p := ⟨g, 11, none⟩) (Below.refl 0 w) (Nat.zero_le _) x).size
  constructor <;> first | (simp [go_sem, *]; done) | (intro o; rw [set_frozen]; exact hf o) | omega
theorem C12.since {W : World} {g : Nat} {v0 v1 v2 v3 v4 v5 v6 v7 v8 v9 v10 v11 : Value} (h : C12 W g v0 v1 v2 v3 v4 v5 v6 v7 v8 v9 v10 v11) : (∀ p : Since W, p.v.cell? ⟨g, 0, none⟩ = some v0) ∧ (∀ p : Since W, p.v.cell? ⟨g, 1, none⟩ = some v1) ∧ (∀ p : Since W, p.v.cell? ⟨g, 2, none⟩ = some v2) ∧ (∀ p : Since W, p.v.cell? ⟨g, 3, none⟩ = some v3) ∧ (∀ p : Since W, p.v.cell? ⟨g, 4, none⟩ = some v4) ∧ (∀ p : Since W, p.v.cell? ⟨g, 5, none⟩ = some v5) ∧ (∀ p : Since W, p.v.cell? ⟨g, 6, none⟩ = some v6) ∧ (∀ p : Since W, p.v.cell? ⟨g, 7, none⟩ = some v7) ∧ (∀ p : Since W, p.v.cell? ⟨g, 8, none⟩ = some v8) ∧ (∀ p : Since W, p.v.cell? ⟨g, 9, none⟩ = some v9) ∧ (∀ p : Since W, p.v.cell? ⟨g, 10, none⟩ = some v10) ∧ (∀ p : Since W, p.v.cell? ⟨g, 11, none⟩ = some v11) :=
  ⟨fun p => (h.carry p.h).c0, fun p => (h.carry p.h).c1, fun p => (h.carry p.h).c2, fun p => (h.carry p.h).c3, fun p => (h.carry p.h).c4, fun p => (h.carry p.h).c5, fun p => (h.carry p.h).c6, fun p => (h.carry p.h).c7, fun p => (h.carry p.h).c8, fun p => (h.carry p.h).c9, fun p => (h.carry p.h).c10, fun p => (h.carry p.h).c11⟩
theorem C12.carry_of {W0 V w1 : World} {g : Nat} {u0 u1 u2 u3 u4 u5 u6 u7 u8 u9 u10 u11 v0 v1 v2 v3 v4 v5 v6 v7 v8 v9 v10 v11 : Value} (_ : C12 W0 g u0 u1 u2 u3 u4 u5 u6 u7 u8 u9 u10 u11) (h : C12 V g v0 v1 v2 v3 v4 v5 v6 v7 v8 v9 v10 v11) (hb : Below V.heap.size V w1) : C12 w1 g v0 v1 v2 v3 v4 v5 v6 v7 v8 v9 v10 v11 := h.carry hb
set_option maxHeartbeats 1000000 in
theorem equalSpec_self (f : ByteArray) (al si : Int) (alt ze : Bool) (wi gr pr : Int) (t : ByteArray) (w : World) :
    Calls Tryz.prog 13 #[.agg #[.string f, .int .i64 al, .int .i64 si, .bool alt, .bool ze, .int .i64 wi, .int .i64 gr, .int .i64 pr, .string t], .agg #[.string f, .int .i64 al, .int .i64 si, .bool alt, .bool ze, .int .i64 wi, .int .i64 gr, .int .i64 pr, .string t]] w fun r w' => r = .returned (.bool true) ∧ Below w.heap.size w w' := by
  go_enter Tryz.func13, Tryz.ntmps13
  go_wp2
  go_ret
  exact ⟨rfl, (by repeat (first | with_reducible exact Below.refl _ _ | with_reducible assumption | with_reducible refine Below.setCell ?_ (by first | omega | (simp; done) | (simp <;> omega)) _ | with_reducible refine below_drewN ?_ _ | with_reducible refine Below.drew ?_ | with_reducible refine Below.alloc ?_ (by first | omega | (simp; done) | (simp <;> omega)) _))⟩

set_option maxRecDepth 100000 in
set_option maxHeartbeats 40000000 in
theorem FnPlainSpecValue_law (s : Option Addr) (len cap : Nat) (w : World) (hT : PT w) (hD : DT w) (hcode : CodeAt s len w.heap.size w) (hcap : len ≤ cap) :
    Calls Tryz.prog 3 #[.slice s len cap] w fun r w' => r = .returned (.bool true) ∧ Below w.heap.size w w' := by
  by_cases hl : 1048576 < len
  · go_enter Tryz.func3, Tryz.ntmps3
    go_wp2
    go_ret
    exact ⟨rfl, (by repeat (first | with_reducible exact Below.refl _ _ | with_reducible assumption | with_reducible refine Below.setCell ?_ (by first | omega | (simp; done) | (simp <;> omega)) _ | with_reducible refine below_drewN ?_ _ | with_reducible refine Below.drew ?_ | with_reducible refine Below.alloc ?_ (by first | omega | (simp; done) | (simp <;> omega)) _))⟩
  go_enter Tryz.func3, Tryz.ntmps3
  go_wp2_with (go_at_call 11; (with_reducible refine Calls.mono (DrawPlainSpec_any _ _ _ _ hcode hcap) ?_); rintro r w1 ⟨⟨f, al, si, alt, ze, wi, gr, pr, t, kd, rfl⟩, hB⟩; have hz := hB.size; (try simp at hz))
  have k1 := fun W => PlainSpec_any f al si alt ze wi gr pr t kd W
  have k2 := fun W => PlainSpecS_any f al si alt ze wi gr pr t kd W
  have k3 := fun W => SpecSuits_any f al si alt ze wi gr pr t kd W
  cases hX : suitW (vSp f al si wi gr pr t) al si alt ze gr pr t kd
  · rw [hX] at k1 k2 k3
    rw [show plainV false f al si alt ze wi gr pr t kd = .agg #[.string ⟨#[]⟩, .int .i64 0, .int .i64 0, .bool false, .bool false, .int .i64 0, .int .i64 0, .int .i64 0, .string ⟨#[]⟩] from rfl] at k1 k2
    have K1 := Lib.hid k1; have K2 := Lib.hid k2; have K3 := Lib.hid k3
    clear k1 k2 k3 hX
    have za := (C9.new w1 (.string f) (.int .i64 al) (.int .i64 si) (.bool alt) (.bool ze) (.int .i64 wi) (.int .i64 gr) (.int .i64 pr) (.string t) 24)
    go_wp2_with (go_at_call 12; (with_reducible refine Calls.mono (K1.out _) ?_); rintro r w2 ⟨rfl, hb⟩; have hz2 := hb.size; (try simp at hz2); replace za := za.carry hb; have hB2 : Below w.heap.size w w2 := (by refine Below.trans ?_ (hb.mono (by first | omega | (simp; done) | (simp <;> omega))); repeat (first | with_reducible exact Below.refl _ _ | with_reducible assumption | with_reducible refine Below.setCell ?_ (by first | omega | (simp; done) | (simp <;> omega)) _ | with_reducible refine below_drewN ?_ _ | with_reducible refine Below.drew ?_ | with_reducible refine Below.alloc ?_ (by first | omega | (simp; done) | (simp <;> omega)) _)); clear hb)
    replace za := za.up (.cells #[.string ⟨#[]⟩, .int .i64 0, .int .i64 0, .bool false, .bool false, .int .i64 0, .int .i64 0, .int .i64 0, .string ⟨#[]⟩] 24)
    have zb := C9.new w2 (.string ⟨#[]⟩) (.int .i64 0) (.int .i64 0) (.bool false) (.bool false) (.int .i64 0) (.int .i64 0) (.int .i64 0) (.string ⟨#[]⟩) 24
    clear hB
    have hB : Below w.heap.size w (w2.alloc (.cells #[.string ⟨#[]⟩, .int .i64 0, .int .i64 0, .bool false, .bool false, .int .i64 0, .int .i64 0, .int .i64 0, .string ⟨#[]⟩] 24)) := hB2.alloc (by have := hB2.size; omega) _
    go_wp2
    obtain ⟨sza0, sza1, sza2, sza3, sza4, sza5, sza6, sza7, sza8⟩ := C9.since za
    obtain ⟨szb0, szb1, szb2, szb3, szb4, szb5, szb6, szb7, szb8⟩ := C9.since zb
    refine wp_region_since (by kernel_rfl) (by kernel_rfl) ?_
    repeat (quiet_step (first | (go_at_call 14; with_reducible exact Calls.since_of (K2.out _)) | (go_at_call 13; with_reducible exact Calls.since_of (equalSpec_self _ _ _ _ _ _ _ _ _ _)) | (go_at_call 15; with_reducible exact Calls.since_of (K3.out _))))
    refine wpQuiet_nil ?_
    intro w_ hw_
    obtain ⟨⟨w1, hb⟩, hw2⟩ := hw_
    have hw3 : w1 = w_ := hw2.symm
    clear hw2
    subst hw3
    clear sza0 sza1 sza2 sza3 sza4 sza5 sza6 sza7 sza8 szb0 szb1 szb2 szb3 szb4 szb5 szb6 szb7 szb8
    replace hB := hB.trans (hb.mono hB.size)
    have hz := hb.size
    replace za := C9.carry za hb
    have zz := za
    obtain ⟨x0, x1, x2, x3, x4, x5, x6, x7, x8, x9, xl⟩ := zz
    replace zb := C9.carry zb hb
    have zz := zb
    obtain ⟨x0, x1, x2, x3, x4, x5, x6, x7, x8, x9, xl⟩ := zz
    go_wp2
    obtain ⟨sza0, sza1, sza2, sza3, sza4, sza5, sza6, sza7, sza8⟩ := C9.since za
    obtain ⟨szb0, szb1, szb2, szb3, szb4, szb5, szb6, szb7, szb8⟩ := C9.since zb
    refine wp_region_since (by kernel_rfl) (by kernel_rfl) ?_
    repeat (quiet_step (first | (go_at_call 14; with_reducible exact Calls.since_of (K2.out _)) | (go_at_call 13; with_reducible exact Calls.since_of (equalSpec_self _ _ _ _ _ _ _ _ _ _)) | (go_at_call 15; with_reducible exact Calls.since_of (K3.out _))))
    refine wpQuiet_nil ?_
    intro w_ hw_
    obtain ⟨⟨w1, hb⟩, hw2⟩ := hw_
    have hw3 : w1 = w_ := hw2.symm
    clear hw2
    subst hw3
    clear sza0 sza1 sza2 sza3 sza4 sza5 sza6 sza7 sza8 szb0 szb1 szb2 szb3 szb4 szb5 szb6 szb7 szb8
    replace hB := hB.trans (hb.mono hB.size)
    have hz := hb.size
    replace za := C9.carry za hb
    have zz := za
    obtain ⟨x0, x1, x2, x3, x4, x5, x6, x7, x8, x9, xl⟩ := zz
    replace zb := C9.carry zb hb
    have zz := zb
    obtain ⟨x0, x1, x2, x3, x4, x5, x6, x7, x8, x9, xl⟩ := zz
    go_wp2
    go_ret
    exact ⟨rfl, (by repeat (first | with_reducible exact Below.refl _ _ | with_reducible assumption | with_reducible refine Below.setCell ?_ (by first | omega | (simp; done) | (simp <;> omega)) _ | with_reducible refine below_drewN ?_ _ | with_reducible refine Below.drew ?_ | with_reducible refine Below.alloc ?_ (by first | omega | (simp; done) | (simp <;> omega)) _))⟩
  · have hk : kd = 0 ∨ kd = 1 ∨ kd = 2 := by
      have h := hX
      unfold suitW at h
      simp only [Bool.and_eq_true] at h
      have h2 := h.2
      unfold suitT at h2
      split at h2
      · by_cases h0 : kd = 0
        · exact .inl h0
        · by_cases h1 : kd = 1
          · exact .inr (.inl h1)
          · by_cases h3 : kd = 2
            · exact .inr (.inr h3)
            · rw [if_neg h0, if_neg h1, if_neg h3] at h2; cases h2
      · simp only [Bool.and_eq_true] at h2
        have h3 := h2.2
        by_cases h0 : kd = 0
        · exact .inl h0
        · by_cases h1 : kd = 1
          · exact .inr (.inl h1)
          · by_cases h4 : kd = 2
            · exact .inr (.inr h4)
            · rw [if_neg h0, if_neg h1, if_neg h4] at h3; cases h3
      · cases h2
    have hXX : ∀ l : List UInt8, (l != l) = false := fun l => by simp
    have hXB : ∀ b : Bool, (b != b) = false := fun b => by cases b <;> rfl
    rcases hk with rfl | rfl | rfl
    · have ka0 := fun W h h' => FormatValue_any f al si alt ze wi gr pr t 0 65 false 0 0 ⟨#[]⟩ (by decide) W h h'
      have kb0 := fun W h h' => FormatValue_any (fillW true f ze) (alW al ze 0) (siW si 0 (isC t)) alt false wi gr pr (tyW t 0) 0 65 false 0 0 ⟨#[]⟩ (by decide) W h h'
      rw [(fv_plain hX 65 false 0 0 ⟨#[]⟩).1, (fv_plain hX 65 false 0 0 ⟨#[]⟩).2] at kb0
      have ka1 := fun W h h' => FormatValue_any f al si alt ze wi gr pr t 0 (-1234) false 0 0 ⟨#[]⟩ (by decide) W h h'
      have kb1 := fun W h h' => FormatValue_any (fillW true f ze) (alW al ze 0) (siW si 0 (isC t)) alt false wi gr pr (tyW t 0) 0 (-1234) false 0 0 ⟨#[]⟩ (by decide) W h h'
      rw [(fv_plain hX (-1234) false 0 0 ⟨#[]⟩).1, (fv_plain hX (-1234) false 0 0 ⟨#[]⟩).2] at kb1
      rw [hX] at k1 k2 k3
      rw [show plainV true f al si alt ze wi gr pr t 0 = .agg #[.string (fillW true f ze), .int .i64 (alW al ze 0), .int .i64 (siW si 0 (isC t)), .bool alt, .bool false, .int .i64 wi, .int .i64 gr, .int .i64 pr, .string (tyW t 0)] from rfl] at k1 k2
      generalize fvW f al si alt ze wi gr pr t 0 65 false 0 0 ⟨#[]⟩ = X0 at *
      generalize fvB f al si alt ze wi gr pr t 0 65 false 0 0 ⟨#[]⟩ = b0 at *
      generalize fvW f al si alt ze wi gr pr t 0 (-1234) false 0 0 ⟨#[]⟩ = X1 at *
      generalize fvB f al si alt ze wi gr pr t 0 (-1234) false 0 0 ⟨#[]⟩ = b1 at *
      clear hX
      generalize fillW true f ze = f' at *
      generalize alW al ze 0 = al' at *
      generalize siW si 0 (isC t) = si' at *
      generalize tyW t 0 = t' at *
      have K1 := Lib.hid k1; have K2 := Lib.hid k2; have K3 := Lib.hid k3; have KA0 := Lib.hid ka0; have KB0 := Lib.hid kb0; have KA1 := Lib.hid ka1; have KB1 := Lib.hid kb1
      clear k1 k2 k3 ka0 kb0 ka1 kb1
      have za := C9.new w1 (.string f) (.int .i64 al) (.int .i64 si) (.bool alt) (.bool ze) (.int .i64 wi) (.int .i64 gr) (.int .i64 pr) (.string t) 24
      go_wp2_with (go_at_call 12; (with_reducible refine Calls.mono (K1.out _) ?_); rintro r w2 ⟨rfl, hb⟩; have hz2 := hb.size; (try simp at hz2); replace za := za.carry hb; have hB2 : Below w.heap.size w w2 := (by refine Below.trans ?_ (hb.mono (by first | omega | (simp; done) | (simp <;> omega))); repeat (first | with_reducible exact Below.refl _ _ | with_reducible assumption | with_reducible refine Below.setCell ?_ (by first | omega | (simp; done) | (simp <;> omega)) _ | with_reducible refine below_drewN ?_ _ | with_reducible refine Below.drew ?_ | with_reducible refine Below.alloc ?_ (by first | omega | (simp; done) | (simp <;> omega)) _)); clear hb)
      replace za := za.up (.cells #[.string f', .int .i64 al', .int .i64 si', .bool alt, .bool false, .int .i64 wi, .int .i64 gr, .int .i64 pr, .string t'] 24)
      have zb := C9.new w2 (.string f') (.int .i64 al') (.int .i64 si') (.bool alt) (.bool false) (.int .i64 wi) (.int .i64 gr) (.int .i64 pr) (.string t') 24
      clear hB
      have hB : Below w.heap.size w (w2.alloc (.cells #[.string f', .int .i64 al', .int .i64 si', .bool alt, .bool false, .int .i64 wi, .int .i64 gr, .int .i64 pr, .string t'] 24)) := hB2.alloc (by have := hB2.size; omega) _
      go_wp2
      obtain ⟨sza0, sza1, sza2, sza3, sza4, sza5, sza6, sza7, sza8⟩ := C9.since za
      obtain ⟨szb0, szb1, szb2, szb3, szb4, szb5, szb6, szb7, szb8⟩ := C9.since zb
      refine wp_region_since (by kernel_rfl) (by kernel_rfl) ?_
      repeat (quiet_step (first | (go_at_call 14; with_reducible exact Calls.since_of (K2.out _)) | (go_at_call 13; with_reducible exact Calls.since_of (equalSpec_self _ _ _ _ _ _ _ _ _ _)) | (go_at_call 15; with_reducible exact Calls.since_of (K3.out _))))
      refine wpQuiet_nil ?_
      intro w_ hw_
      obtain ⟨⟨w3, hb⟩, hw2⟩ := hw_
      have hw3 : w3 = w_ := hw2.symm
      clear hw2
      subst hw3
      clear sza0 sza1 sza2 sza3 sza4 sza5 sza6 sza7 sza8 szb0 szb1 szb2 szb3 szb4 szb5 szb6 szb7 szb8
      replace hB := hB.trans (hb.mono hB.size)
      have hz := hb.size
      replace za := C9.carry za hb
      have zz := za; obtain ⟨za_x0, za_x1, za_x2, za_x3, za_x4, za_x5, za_x6, za_x7, za_x8, za_xf, za_xl⟩ := zz
      replace zb := C9.carry zb hb
      have zz := zb; obtain ⟨zb_x0, zb_x1, zb_x2, zb_x3, zb_x4, zb_x5, zb_x6, zb_x7, zb_x8, zb_xf, zb_xl⟩ := zz
      go_wp2
      have hz := hB.size
      have zl : C12 (w3.alloc (.cells #[.int .i64 0, .int .i64 65, .bool false, .int .i64 0, .int .i64 0, .string ⟨#[]⟩, .int .i64 0, .int .i64 (-1234), .bool false, .int .i64 0, .int .i64 0, .string ⟨#[]⟩] 33)) (w3.heap.size) (.int .i64 0) (.int .i64 65) (.bool false) (.int .i64 0) (.int .i64 0) (.string ⟨#[]⟩) (.int .i64 0) (.int .i64 (-1234)) (.bool false) (.int .i64 0) (.int .i64 0) (.string ⟨#[]⟩) := by
        have h := C12.new w3 (.int .i64 0) (.int .i64 65) (.bool false) (.int .i64 0) (.int .i64 0) (.string ⟨#[]⟩) (.int .i64 0) (.int .i64 (-1234)) (.bool false) (.int .i64 0) (.int .i64 0) (.string ⟨#[]⟩) 33
        exact h
      replace za := (za.up (.cells #[.int .i64 0, .int .i64 65, .bool false, .int .i64 0, .int .i64 0, .string ⟨#[]⟩, .int .i64 0, .int .i64 (-1234), .bool false, .int .i64 0, .int .i64 0, .string ⟨#[]⟩] 33))
      replace zb := (zb.up (.cells #[.int .i64 0, .int .i64 65, .bool false, .int .i64 0, .int .i64 0, .string ⟨#[]⟩, .int .i64 0, .int .i64 (-1234), .bool false, .int .i64 0, .int .i64 0, .string ⟨#[]⟩] 33))
      replace hB : Below w.heap.size w (w3.alloc (.cells #[.int .i64 0, .int .i64 65, .bool false, .int .i64 0, .int .i64 0, .string ⟨#[]⟩, .int .i64 0, .int .i64 (-1234), .bool false, .int .i64 0, .int .i64 0, .string ⟨#[]⟩] 33)) := (hB).alloc (by first | omega | (simp; omega)) _
      have zz := za; obtain ⟨za_x0, za_x1, za_x2, za_x3, za_x4, za_x5, za_x6, za_x7, za_x8, za_xf, za_xl⟩ := zz
      have zz := zb; obtain ⟨zb_x0, zb_x1, zb_x2, zb_x3, zb_x4, zb_x5, zb_x6, zb_x7, zb_x8, zb_xf, zb_xl⟩ := zz
      have zz := zl; obtain ⟨zl_c0, zl_c1, zl_c2, zl_c3, zl_c4, zl_c5, zl_c6, zl_c7, zl_c8, zl_c9, zl_c10, zl_c11, zl_fz, zl_lt⟩ := zz
      go_loopg [7] 2 (fun g s7 wr => ∃ k : Nat, k ≤ 2 ∧ s7 = .int .i64 k ∧ C12 wr w3.heap.size (.int .i64 0) (.int .i64 65) (.bool false) (.int .i64 0) (.int .i64 0) (.string ⟨#[]⟩) (.int .i64 0) (.int .i64 (-1234)) (.bool false) (.int .i64 0) (.int .i64 0) (.string ⟨#[]⟩) ∧ C9 wr w1.heap.size (.string f) (.int .i64 al) (.int .i64 si) (.bool alt) (.bool ze) (.int .i64 wi) (.int .i64 gr) (.int .i64 pr) (.string t) ∧ C9 wr w2.heap.size (.string f') (.int .i64 al') (.int .i64 si') (.bool alt) (.bool false) (.int .i64 wi) (.int .i64 gr) (.int .i64 pr) (.string t') ∧ Below w.heap.size w wr ∧ Aside (g = 2 - k))
      case atStart => exact ⟨0, by omega, rfl, zl, za, zb, hB, by show _ = _; omega⟩
      case round =>
        obtain ⟨k, hk, rfl, zl, za, zb, hB, hg⟩ := hrel
        have hg' := hg.out
        clear hg
        have zz := za; obtain ⟨za_x0, za_x1, za_x2, za_x3, za_x4, za_x5, za_x6, za_x7, za_x8, za_xf, za_xl⟩ := zz
        have zz := zb; obtain ⟨zb_x0, zb_x1, zb_x2, zb_x3, zb_x4, zb_x5, zb_x6, zb_x7, zb_x8, zb_xf, zb_xl⟩ := zz
        have zz := zl; obtain ⟨zl_c0, zl_c1, zl_c2, zl_c3, zl_c4, zl_c5, zl_c6, zl_c7, zl_c8, zl_c9, zl_c10, zl_c11, zl_fz, zl_lt⟩ := zz
        have hz := hB.size
        have hk3 : k = 0 ∨ k = 1 ∨ k = 2 := by omega
        rcases hk3 with rfl | rfl | rfl
        · have KA := KA0; have KB := KB0
          go_wp2
          obtain ⟨sza0, sza1, sza2, sza3, sza4, sza5, sza6, sza7, sza8⟩ := C9.since za
          obtain ⟨szb0, szb1, szb2, szb3, szb4, szb5, szb6, szb7, szb8⟩ := C9.since zb
          obtain ⟨szl0, szl1, szl2, szl3, szl4, szl5, szl6, szl7, szl8, szl9, szl10, szl11⟩ := C12.since zl
          refine wp_region_since (by kernel_rfl) (by kernel_rfl) ?_
          repeat (quiet_step (first | (go_at_call 16; with_reducible exact Calls.since_of (KA.out _ (hT.on (hB.trans (Below.mono (Since.h _) hB.size))) (hD.on (hB.trans (Below.mono (Since.h _) hB.size)))))))
          refine wpQuiet_nil ?_
          intro w_ hw_
          obtain ⟨⟨w5, hb⟩, hw2⟩ := hw_
          have hw3 : w5 = w_ := hw2.symm
          clear hw2
          subst hw3
          clear sza0 sza1 sza2 sza3 sza4 sza5 sza6 sza7 sza8 szb0 szb1 szb2 szb3 szb4 szb5 szb6 szb7 szb8 szl0 szl1 szl2 szl3 szl4 szl5 szl6 szl7 szl8 szl9 szl10 szl11
          replace hB := hB.trans (hb.mono hB.size)
          have hz := hb.size
          replace za := C9.carry za hb
          have zz := za; obtain ⟨za_x0, za_x1, za_x2, za_x3, za_x4, za_x5, za_x6, za_x7, za_x8, za_xf, za_xl⟩ := zz
          replace zb := C9.carry zb hb
          have zz := zb; obtain ⟨zb_x0, zb_x1, zb_x2, zb_x3, zb_x4, zb_x5, zb_x6, zb_x7, zb_x8, zb_xf, zb_xl⟩ := zz
          replace zl := C12.carry zl hb
          have zz := zl; obtain ⟨zl_c0, zl_c1, zl_c2, zl_c3, zl_c4, zl_c5, zl_c6, zl_c7, zl_c8, zl_c9, zl_c10, zl_c11, zl_fz, zl_lt⟩ := zz
          go_wp2
          obtain ⟨sza0, sza1, sza2, sza3, sza4, sza5, sza6, sza7, sza8⟩ := C9.since za
          obtain ⟨szb0, szb1, szb2, szb3, szb4, szb5, szb6, szb7, szb8⟩ := C9.since zb
          obtain ⟨szl0, szl1, szl2, szl3, szl4, szl5, szl6, szl7, szl8, szl9, szl10, szl11⟩ := C12.since zl
          refine wp_region_since (by kernel_rfl) (by kernel_rfl) ?_
          repeat (quiet_step (first | (go_at_call 16; with_reducible exact Calls.since_of (KB.out _ (hT.on (hB.trans (Below.mono (Since.h _) hB.size))) (hD.on (hB.trans (Below.mono (Since.h _) hB.size)))))))
          refine wpQuiet_nil ?_
          intro w_ hw_
          obtain ⟨⟨w6, hb⟩, hw2⟩ := hw_
          have hw3 : w6 = w_ := hw2.symm
          clear hw2
          subst hw3
          clear sza0 sza1 sza2 sza3 sza4 sza5 sza6 sza7 sza8 szb0 szb1 szb2 szb3 szb4 szb5 szb6 szb7 szb8 szl0 szl1 szl2 szl3 szl4 szl5 szl6 szl7 szl8 szl9 szl10 szl11
          replace hB := hB.trans (hb.mono hB.size)
          have hz := hb.size
          replace za := C9.carry za hb
          have zz := za; obtain ⟨za_x0, za_x1, za_x2, za_x3, za_x4, za_x5, za_x6, za_x7, za_x8, za_xf, za_xl⟩ := zz
          replace zb := C9.carry zb hb
          have zz := zb; obtain ⟨zb_x0, zb_x1, zb_x2, zb_x3, zb_x4, zb_x5, zb_x6, zb_x7, zb_x8, zb_xf, zb_xl⟩ := zz
          replace zl := C12.carry zl hb
          have zz := zl; obtain ⟨zl_c0, zl_c1, zl_c2, zl_c3, zl_c4, zl_c5, zl_c6, zl_c7, zl_c8, zl_c9, zl_c10, zl_c11, zl_fz, zl_lt⟩ := zz
          go_wp2
          go_roundg (2 - 1)
          case measure => omega
          case rel => exact ⟨1, by omega, rfl, zl, za, zb, hB, rfl⟩
        · have KA := KA1; have KB := KB1
          go_wp2
          obtain ⟨sza0, sza1, sza2, sza3, sza4, sza5, sza6, sza7, sza8⟩ := C9.since za
          obtain ⟨szb0, szb1, szb2, szb3, szb4, szb5, szb6, szb7, szb8⟩ := C9.since zb
          obtain ⟨szl0, szl1, szl2, szl3, szl4, szl5, szl6, szl7, szl8, szl9, szl10, szl11⟩ := C12.since zl
          refine wp_region_since (by kernel_rfl) (by kernel_rfl) ?_
          repeat (quiet_step (first | (go_at_call 16; with_reducible exact Calls.since_of (KA.out _ (hT.on (hB.trans (Below.mono (Since.h _) hB.size))) (hD.on (hB.trans (Below.mono (Since.h _) hB.size)))))))
          refine wpQuiet_nil ?_
          intro w_ hw_
          obtain ⟨⟨w5, hb⟩, hw2⟩ := hw_
          have hw3 : w5 = w_ := hw2.symm
          clear hw2
          subst hw3
          clear sza0 sza1 sza2 sza3 sza4 sza5 sza6 sza7 sza8 szb0 szb1 szb2 szb3 szb4 szb5 szb6 szb7 szb8 szl0 szl1 szl2 szl3 szl4 szl5 szl6 szl7 szl8 szl9 szl10 szl11
          replace hB := hB.trans (hb.mono hB.size)
          have hz := hb.size
          replace za := C9.carry za hb
          have zz := za; obtain ⟨za_x0, za_x1, za_x2, za_x3, za_x4, za_x5, za_x6, za_x7, za_x8, za_xf, za_xl⟩ := zz
          replace zb := C9.carry zb hb
          have zz := zb; obtain ⟨zb_x0, zb_x1, zb_x2, zb_x3, zb_x4, zb_x5, zb_x6, zb_x7, zb_x8, zb_xf, zb_xl⟩ := zz
          replace zl := C12.carry zl hb
          have zz := zl; obtain ⟨zl_c0, zl_c1, zl_c2, zl_c3, zl_c4, zl_c5, zl_c6, zl_c7, zl_c8, zl_c9, zl_c10, zl_c11, zl_fz, zl_lt⟩ := zz
          go_wp2
          obtain ⟨sza0, sza1, sza2, sza3, sza4, sza5, sza6, sza7, sza8⟩ := C9.since za
          obtain ⟨szb0, szb1, szb2, szb3, szb4, szb5, szb6, szb7, szb8⟩ := C9.since zb
          obtain ⟨szl0, szl1, szl2, szl3, szl4, szl5, szl6, szl7, szl8, szl9, szl10, szl11⟩ := C12.since zl
          refine wp_region_since (by kernel_rfl) (by kernel_rfl) ?_
          repeat (quiet_step (first | (go_at_call 16; with_reducible exact Calls.since_of (KB.out _ (hT.on (hB.trans (Below.mono (Since.h _) hB.size))) (hD.on (hB.trans (Below.mono (Since.h _) hB.size)))))))
          refine wpQuiet_nil ?_
          intro w_ hw_
          obtain ⟨⟨w6, hb⟩, hw2⟩ := hw_
          have hw3 : w6 = w_ := hw2.symm
          clear hw2
          subst hw3
          clear sza0 sza1 sza2 sza3 sza4 sza5 sza6 sza7 sza8 szb0 szb1 szb2 szb3 szb4 szb5 szb6 szb7 szb8 szl0 szl1 szl2 szl3 szl4 szl5 szl6 szl7 szl8 szl9 szl10 szl11
          replace hB := hB.trans (hb.mono hB.size)
          have hz := hb.size
          replace za := C9.carry za hb
          have zz := za; obtain ⟨za_x0, za_x1, za_x2, za_x3, za_x4, za_x5, za_x6, za_x7, za_x8, za_xf, za_xl⟩ := zz
          replace zb := C9.carry zb hb
          have zz := zb; obtain ⟨zb_x0, zb_x1, zb_x2, zb_x3, zb_x4, zb_x5, zb_x6, zb_x7, zb_x8, zb_xf, zb_xl⟩ := zz
          replace zl := C12.carry zl hb
          have zz := zl; obtain ⟨zl_c0, zl_c1, zl_c2, zl_c3, zl_c4, zl_c5, zl_c6, zl_c7, zl_c8, zl_c9, zl_c10, zl_c11, zl_fz, zl_lt⟩ := zz
          go_wp2
          go_roundg (2 - 2)
          case measure => omega
          case rel => exact ⟨2, by omega, rfl, zl, za, zb, hB, rfl⟩
        · go_wp2
          go_ret
          exact ⟨rfl, hB⟩
    · have ka0 := fun W h h' => FormatValue_any f al si alt ze wi gr pr t 1 0 false 0 0 ⟨#[]⟩ (by decide) W h h'
      have kb0 := fun W h h' => FormatValue_any (fillW true f ze) (alW al ze 1) (siW si 1 (isC t)) alt false wi gr pr (tyW t 1) 1 0 false 0 0 ⟨#[]⟩ (by decide) W h h'
      rw [(fv_plain hX 0 false 0 0 ⟨#[]⟩).1, (fv_plain hX 0 false 0 0 ⟨#[]⟩).2] at kb0
      have ka1 := fun W h h' => FormatValue_any f al si alt ze wi gr pr t 1 0 true 12345 (-2) ⟨#[]⟩ (by decide) W h h'
      have kb1 := fun W h h' => FormatValue_any (fillW true f ze) (alW al ze 1) (siW si 1 (isC t)) alt false wi gr pr (tyW t 1) 1 0 true 12345 (-2) ⟨#[]⟩ (by decide) W h h'
      rw [(fv_plain hX 0 true 12345 (-2) ⟨#[]⟩).1, (fv_plain hX 0 true 12345 (-2) ⟨#[]⟩).2] at kb1
      rw [hX] at k1 k2 k3
      rw [show plainV true f al si alt ze wi gr pr t 1 = .agg #[.string (fillW true f ze), .int .i64 (alW al ze 1), .int .i64 (siW si 1 (isC t)), .bool alt, .bool false, .int .i64 wi, .int .i64 gr, .int .i64 pr, .string (tyW t 1)] from rfl] at k1 k2
      generalize fvW f al si alt ze wi gr pr t 1 0 false 0 0 ⟨#[]⟩ = X0 at *
      generalize fvB f al si alt ze wi gr pr t 1 0 false 0 0 ⟨#[]⟩ = b0 at *
      generalize fvW f al si alt ze wi gr pr t 1 0 true 12345 (-2) ⟨#[]⟩ = X1 at *
      generalize fvB f al si alt ze wi gr pr t 1 0 true 12345 (-2) ⟨#[]⟩ = b1 at *
      clear hX
      generalize fillW true f ze = f' at *
      generalize alW al ze 1 = al' at *
      generalize siW si 1 (isC t) = si' at *
      generalize tyW t 1 = t' at *
      have K1 := Lib.hid k1; have K2 := Lib.hid k2; have K3 := Lib.hid k3; have KA0 := Lib.hid ka0; have KB0 := Lib.hid kb0; have KA1 := Lib.hid ka1; have KB1 := Lib.hid kb1
      clear k1 k2 k3 ka0 kb0 ka1 kb1
      have za := C9.new w1 (.string f) (.int .i64 al) (.int .i64 si) (.bool alt) (.bool ze) (.int .i64 wi) (.int .i64 gr) (.int .i64 pr) (.string t) 24
      go_wp2_with (go_at_call 12; (with_reducible refine Calls.mono (K1.out _) ?_); rintro r w2 ⟨rfl, hb⟩; have hz2 := hb.size; (try simp at hz2); replace za := za.carry hb; have hB2 : Below w.heap.size w w2 := (by refine Below.trans ?_ (hb.mono (by first | omega | (simp; done) | (simp <;> omega))); repeat (first | with_reducible exact Below.refl _ _ | with_reducible assumption | with_reducible refine Below.setCell ?_ (by first | omega | (simp; done) | (simp <;> omega)) _ | with_reducible refine below_drewN ?_ _ | with_reducible refine Below.drew ?_ | with_reducible refine Below.alloc ?_ (by first | omega | (simp; done) | (simp <;> omega)) _)); clear hb)
      replace za := za.up (.cells #[.string f', .int .i64 al', .int .i64 si', .bool alt, .bool false, .int .i64 wi, .int .i64 gr, .int .i64 pr, .string t'] 24)
      have zb := C9.new w2 (.string f') (.int .i64 al') (.int .i64 si') (.bool alt) (.bool false) (.int .i64 wi) (.int .i64 gr) (.int .i64 pr) (.string t') 24
      clear hB
      have hB : Below w.heap.size w (w2.alloc (.cells #[.string f', .int .i64 al', .int .i64 si', .bool alt, .bool false, .int .i64 wi, .int .i64 gr, .int .i64 pr, .string t'] 24)) := hB2.alloc (by have := hB2.size; omega) _
      go_wp2
      obtain ⟨sza0, sza1, sza2, sza3, sza4, sza5, sza6, sza7, sza8⟩ := C9.since za
      obtain ⟨szb0, szb1, szb2, szb3, szb4, szb5, szb6, szb7, szb8⟩ := C9.since zb
      refine wp_region_since (by kernel_rfl) (by kernel_rfl) ?_
      repeat (quiet_step (first | (go_at_call 14; with_reducible exact Calls.since_of (K2.out _)) | (go_at_call 13; with_reducible exact Calls.since_of (equalSpec_self _ _ _ _ _ _ _ _ _ _)) | (go_at_call 15; with_reducible exact Calls.since_of (K3.out _))))
      refine wpQuiet_nil ?_
      intro w_ hw_
      obtain ⟨⟨w3, hb⟩, hw2⟩ := hw_
      have hw3 : w3 = w_ := hw2.symm
      clear hw2
      subst hw3
      clear sza0 sza1 sza2 sza3 sza4 sza5 sza6 sza7 sza8 szb0 szb1 szb2 szb3 szb4 szb5 szb6 szb7 szb8
      replace hB := hB.trans (hb.mono hB.size)
      have hz := hb.size
      replace za := C9.carry za hb
      have zz := za; obtain ⟨za_x0, za_x1, za_x2, za_x3, za_x4, za_x5, za_x6, za_x7, za_x8, za_xf, za_xl⟩ := zz
      replace zb := C9.carry zb hb
      have zz := zb; obtain ⟨zb_x0, zb_x1, zb_x2, zb_x3, zb_x4, zb_x5, zb_x6, zb_x7, zb_x8, zb_xf, zb_xl⟩ := zz
      go_wp2
      have hz := hB.size
      have zl : C12 (w3.alloc (.cells #[.int .i64 1, .int .i64 0, .bool false, .int .i64 0, .int .i64 0, .string ⟨#[]⟩, .int .i64 1, .int .i64 0, .bool true, .int .i64 12345, .int .i64 (-2), .string ⟨#[]⟩] 33)) (w3.heap.size) (.int .i64 1) (.int .i64 0) (.bool false) (.int .i64 0) (.int .i64 0) (.string ⟨#[]⟩) (.int .i64 1) (.int .i64 0) (.bool true) (.int .i64 12345) (.int .i64 (-2)) (.string ⟨#[]⟩) := by
        have h := C12.new w3 (.int .i64 1) (.int .i64 0) (.bool false) (.int .i64 0) (.int .i64 0) (.string ⟨#[]⟩) (.int .i64 1) (.int .i64 0) (.bool true) (.int .i64 12345) (.int .i64 (-2)) (.string ⟨#[]⟩) 33
        exact h
      replace za := (za.up (.cells #[.int .i64 1, .int .i64 0, .bool false, .int .i64 0, .int .i64 0, .string ⟨#[]⟩, .int .i64 1, .int .i64 0, .bool true, .int .i64 12345, .int .i64 (-2), .string ⟨#[]⟩] 33))
      replace zb := (zb.up (.cells #[.int .i64 1, .int .i64 0, .bool false, .int .i64 0, .int .i64 0, .string ⟨#[]⟩, .int .i64 1, .int .i64 0, .bool true, .int .i64 12345, .int .i64 (-2), .string ⟨#[]⟩] 33))
      replace hB : Below w.heap.size w (w3.alloc (.cells #[.int .i64 1, .int .i64 0, .bool false, .int .i64 0, .int .i64 0, .string ⟨#[]⟩, .int .i64 1, .int .i64 0, .bool true, .int .i64 12345, .int .i64 (-2), .string ⟨#[]⟩] 33)) := (hB).alloc (by first | omega | (simp; omega)) _
      have zz := za; obtain ⟨za_x0, za_x1, za_x2, za_x3, za_x4, za_x5, za_x6, za_x7, za_x8, za_xf, za_xl⟩ := zz
      have zz := zb; obtain ⟨zb_x0, zb_x1, zb_x2, zb_x3, zb_x4, zb_x5, zb_x6, zb_x7, zb_x8, zb_xf, zb_xl⟩ := zz
      have zz := zl; obtain ⟨zl_c0, zl_c1, zl_c2, zl_c3, zl_c4, zl_c5, zl_c6, zl_c7, zl_c8, zl_c9, zl_c10, zl_c11, zl_fz, zl_lt⟩ := zz
      go_loopg [7] 2 (fun g s7 wr => ∃ k : Nat, k ≤ 2 ∧ s7 = .int .i64 k ∧ C12 wr w3.heap.size (.int .i64 1) (.int .i64 0) (.bool false) (.int .i64 0) (.int .i64 0) (.string ⟨#[]⟩) (.int .i64 1) (.int .i64 0) (.bool true) (.int .i64 12345) (.int .i64 (-2)) (.string ⟨#[]⟩) ∧ C9 wr w1.heap.size (.string f) (.int .i64 al) (.int .i64 si) (.bool alt) (.bool ze) (.int .i64 wi) (.int .i64 gr) (.int .i64 pr) (.string t) ∧ C9 wr w2.heap.size (.string f') (.int .i64 al') (.int .i64 si') (.bool alt) (.bool false) (.int .i64 wi) (.int .i64 gr) (.int .i64 pr) (.string t') ∧ Below w.heap.size w wr ∧ Aside (g = 2 - k))
      case atStart => exact ⟨0, by omega, rfl, zl, za, zb, hB, by show _ = _; omega⟩
      case round =>
        obtain ⟨k, hk, rfl, zl, za, zb, hB, hg⟩ := hrel
        have hg' := hg.out
        clear hg
        have zz := za; obtain ⟨za_x0, za_x1, za_x2, za_x3, za_x4, za_x5, za_x6, za_x7, za_x8, za_xf, za_xl⟩ := zz
        have zz := zb; obtain ⟨zb_x0, zb_x1, zb_x2, zb_x3, zb_x4, zb_x5, zb_x6, zb_x7, zb_x8, zb_xf, zb_xl⟩ := zz
        have zz := zl; obtain ⟨zl_c0, zl_c1, zl_c2, zl_c3, zl_c4, zl_c5, zl_c6, zl_c7, zl_c8, zl_c9, zl_c10, zl_c11, zl_fz, zl_lt⟩ := zz
        have hz := hB.size
        have hk3 : k = 0 ∨ k = 1 ∨ k = 2 := by omega
        rcases hk3 with rfl | rfl | rfl
        · have KA := KA0; have KB := KB0
          go_wp2
          obtain ⟨sza0, sza1, sza2, sza3, sza4, sza5, sza6, sza7, sza8⟩ := C9.since za
          obtain ⟨szb0, szb1, szb2, szb3, szb4, szb5, szb6, szb7, szb8⟩ := C9.since zb
          obtain ⟨szl0, szl1, szl2, szl3, szl4, szl5, szl6, szl7, szl8, szl9, szl10, szl11⟩ := C12.since zl
          refine wp_region_since (by kernel_rfl) (by kernel_rfl) ?_
          repeat (quiet_step (first | (go_at_call 16; with_reducible exact Calls.since_of (KA.out _ (hT.on (hB.trans (Below.mono (Since.h _) hB.size))) (hD.on (hB.trans (Below.mono (Since.h _) hB.size)))))))
          refine wpQuiet_nil ?_
          intro w_ hw_
          obtain ⟨⟨w5, hb⟩, hw2⟩ := hw_
          have hw3 : w5 = w_ := hw2.symm
          clear hw2
          subst hw3
          clear sza0 sza1 sza2 sza3 sza4 sza5 sza6 sza7 sza8 szb0 szb1 szb2 szb3 szb4 szb5 szb6 szb7 szb8 szl0 szl1 szl2 szl3 szl4 szl5 szl6 szl7 szl8 szl9 szl10 szl11
          replace hB := hB.trans (hb.mono hB.size)
          have hz := hb.size
          replace za := C9.carry za hb
          have zz := za; obtain ⟨za_x0, za_x1, za_x2, za_x3, za_x4, za_x5, za_x6, za_x7, za_x8, za_xf, za_xl⟩ := zz
          replace zb := C9.carry zb hb
          have zz := zb; obtain ⟨zb_x0, zb_x1, zb_x2, zb_x3, zb_x4, zb_x5, zb_x6, zb_x7, zb_x8, zb_xf, zb_xl⟩ := zz
          replace zl := C12.carry zl hb
          have zz := zl; obtain ⟨zl_c0, zl_c1, zl_c2, zl_c3, zl_c4, zl_c5, zl_c6, zl_c7, zl_c8, zl_c9, zl_c10, zl_c11, zl_fz, zl_lt⟩ := zz
          go_wp2
          obtain ⟨sza0, sza1, sza2, sza3, sza4, sza5, sza6, sza7, sza8⟩ := C9.since za
          obtain ⟨szb0, szb1, szb2, szb3, szb4, szb5, szb6, szb7, szb8⟩ := C9.since zb
          obtain ⟨szl0, szl1, szl2, szl3, szl4, szl5, szl6, szl7, szl8, szl9, szl10, szl11⟩ := C12.since zl
          refine wp_region_since (by kernel_rfl) (by kernel_rfl) ?_
          repeat (quiet_step (first | (go_at_call 16; with_reducible exact Calls.since_of (KB.out _ (hT.on (hB.trans (Below.mono (Since.h _) hB.size))) (hD.on (hB.trans (Below.mono (Since.h _) hB.size)))))))
          refine wpQuiet_nil ?_
          intro w_ hw_
          obtain ⟨⟨w6, hb⟩, hw2⟩ := hw_
          have hw3 : w6 = w_ := hw2.symm
          clear hw2
          subst hw3
          clear sza0 sza1 sza2 sza3 sza4 sza5 sza6 sza7 sza8 szb0 szb1 szb2 szb3 szb4 szb5 szb6 szb7 szb8 szl0 szl1 szl2 szl3 szl4 szl5 szl6 szl7 szl8 szl9 szl10 szl11
          replace hB := hB.trans (hb.mono hB.size)
          have hz := hb.size
          replace za := C9.carry za hb
          have zz := za; obtain ⟨za_x0, za_x1, za_x2, za_x3, za_x4, za_x5, za_x6, za_x7, za_x8, za_xf, za_xl⟩ := zz
          replace zb := C9.carry zb hb
          have zz := zb; obtain ⟨zb_x0, zb_x1, zb_x2, zb_x3, zb_x4, zb_x5, zb_x6, zb_x7, zb_x8, zb_xf, zb_xl⟩ := zz
          replace zl := C12.carry zl hb
          have zz := zl; obtain ⟨zl_c0, zl_c1, zl_c2, zl_c3, zl_c4, zl_c5, zl_c6, zl_c7, zl_c8, zl_c9, zl_c10, zl_c11, zl_fz, zl_lt⟩ := zz
          go_wp2
          go_roundg (2 - 1)
          case measure => omega
          case rel => exact ⟨1, by omega, rfl, zl, za, zb, hB, rfl⟩
        · have KA := KA1; have KB := KB1
          go_wp2
          obtain ⟨sza0, sza1, sza2, sza3, sza4, sza5, sza6, sza7, sza8⟩ := C9.since za
          obtain ⟨szb0, szb1, szb2, szb3, szb4, szb5, szb6, szb7, szb8⟩ := C9.since zb
          obtain ⟨szl0, szl1, szl2, szl3, szl4, szl5, szl6, szl7, szl8, szl9, szl10, szl11⟩ := C12.since zl
          refine wp_region_since (by kernel_rfl) (by kernel_rfl) ?_
          repeat (quiet_step (first | (go_at_call 16; with_reducible exact Calls.since_of (KA.out _ (hT.on (hB.trans (Below.mono (Since.h _) hB.size))) (hD.on (hB.trans (Below.mono (Since.h _) hB.size)))))))
          refine wpQuiet_nil ?_
          intro w_ hw_
          obtain ⟨⟨w5, hb⟩, hw2⟩ := hw_
          have hw3 : w5 = w_ := hw2.symm
          clear hw2
          subst hw3
          clear sza0 sza1 sza2 sza3 sza4 sza5 sza6 sza7 sza8 szb0 szb1 szb2 szb3 szb4 szb5 szb6 szb7 szb8 szl0 szl1 szl2 szl3 szl4 szl5 szl6 szl7 szl8 szl9 szl10 szl11
          replace hB := hB.trans (hb.mono hB.size)
          have hz := hb.size
          replace za := C9.carry za hb
          have zz := za; obtain ⟨za_x0, za_x1, za_x2, za_x3, za_x4, za_x5, za_x6, za_x7, za_x8, za_xf, za_xl⟩ := zz
          replace zb := C9.carry zb hb
          have zz := zb; obtain ⟨zb_x0, zb_x1, zb_x2, zb_x3, zb_x4, zb_x5, zb_x6, zb_x7, zb_x8, zb_xf, zb_xl⟩ := zz
          replace zl := C12.carry zl hb
          have zz := zl; obtain ⟨zl_c0, zl_c1, zl_c2, zl_c3, zl_c4, zl_c5, zl_c6, zl_c7, zl_c8, zl_c9, zl_c10, zl_c11, zl_fz, zl_lt⟩ := zz
          go_wp2
          obtain ⟨sza0, sza1, sza2, sza3, sza4, sza5, sza6, sza7, sza8⟩ := C9.since za
          obtain ⟨szb0, szb1, szb2, szb3, szb4, szb5, szb6, szb7, szb8⟩ := C9.since zb
          obtain ⟨szl0, szl1, szl2, szl3, szl4, szl5, szl6, szl7, szl8, szl9, szl10, szl11⟩ := C12.since zl
          refine wp_region_since (by kernel_rfl) (by kernel_rfl) ?_
          repeat (quiet_step (first | (go_at_call 16; with_reducible exact Calls.since_of (KB.out _ (hT.on (hB.trans (Below.mono (Since.h _) hB.size))) (hD.on (hB.trans (Below.mono (Since.h _) hB.size)))))))
          refine wpQuiet_nil ?_
          intro w_ hw_
          obtain ⟨⟨w6, hb⟩, hw2⟩ := hw_
          have hw3 : w6 = w_ := hw2.symm
          clear hw2
          subst hw3
          clear sza0 sza1 sza2 sza3 sza4 sza5 sza6 sza7 sza8 szb0 szb1 szb2 szb3 szb4 szb5 szb6 szb7 szb8 szl0 szl1 szl2 szl3 szl4 szl5 szl6 szl7 szl8 szl9 szl10 szl11
          replace hB := hB.trans (hb.mono hB.size)
          have hz := hb.size
          replace za := C9.carry za hb
          have zz := za; obtain ⟨za_x0, za_x1, za_x2, za_x3, za_x4, za_x5, za_x6, za_x7, za_x8, za_xf, za_xl⟩ := zz
          replace zb := C9.carry zb hb
          have zz := zb; obtain ⟨zb_x0, zb_x1, zb_x2, zb_x3, zb_x4, zb_x5, zb_x6, zb_x7, zb_x8, zb_xf, zb_xl⟩ := zz
          replace zl := C12.carry zl hb
          have zz := zl; obtain ⟨zl_c0, zl_c1, zl_c2, zl_c3, zl_c4, zl_c5, zl_c6, zl_c7, zl_c8, zl_c9, zl_c10, zl_c11, zl_fz, zl_lt⟩ := zz
          go_wp2
          go_roundg (2 - 2)
          case measure => omega
          case rel => exact ⟨2, by omega, rfl, zl, za, zb, hB, rfl⟩
        · go_wp2
          go_ret
          exact ⟨rfl, hB⟩
    · have ka0 := fun W h h' => FormatValue_any f al si alt ze wi gr pr t 2 0 false 0 0 ⟨#[]⟩ (by decide) W h h'
      have kb0 := fun W h h' => FormatValue_any (fillW true f ze) (alW al ze 2) (siW si 2 (isC t)) alt false wi gr pr (tyW t 2) 2 0 false 0 0 ⟨#[]⟩ (by decide) W h h'
      rw [(fv_plain hX 0 false 0 0 ⟨#[]⟩).1, (fv_plain hX 0 false 0 0 ⟨#[]⟩).2] at kb0
      have ka1 := fun W h h' => FormatValue_any f al si alt ze wi gr pr t 2 0 false 0 0 ⟨#[115, 111, 109, 101, 32, 116, 101, 120, 116]⟩ (by decide) W h h'
      have kb1 := fun W h h' => FormatValue_any (fillW true f ze) (alW al ze 2) (siW si 2 (isC t)) alt false wi gr pr (tyW t 2) 2 0 false 0 0 ⟨#[115, 111, 109, 101, 32, 116, 101, 120, 116]⟩ (by decide) W h h'
      rw [(fv_plain hX 0 false 0 0 ⟨#[115, 111, 109, 101, 32, 116, 101, 120, 116]⟩).1, (fv_plain hX 0 false 0 0 ⟨#[115, 111, 109, 101, 32, 116, 101, 120, 116]⟩).2] at kb1
      rw [hX] at k1 k2 k3
      rw [show plainV true f al si alt ze wi gr pr t 2 = .agg #[.string (fillW true f ze), .int .i64 (alW al ze 2), .int .i64 (siW si 2 (isC t)), .bool alt, .bool false, .int .i64 wi, .int .i64 gr, .int .i64 pr, .string (tyW t 2)] from rfl] at k1 k2
      generalize fvW f al si alt ze wi gr pr t 2 0 false 0 0 ⟨#[]⟩ = X0 at *
      generalize fvB f al si alt ze wi gr pr t 2 0 false 0 0 ⟨#[]⟩ = b0 at *
      generalize fvW f al si alt ze wi gr pr t 2 0 false 0 0 ⟨#[115, 111, 109, 101, 32, 116, 101, 120, 116]⟩ = X1 at *
      generalize fvB f al si alt ze wi gr pr t 2 0 false 0 0 ⟨#[115, 111, 109, 101, 32, 116, 101, 120, 116]⟩ = b1 at *
      clear hX
      generalize fillW true f ze = f' at *
      generalize alW al ze 2 = al' at *
      generalize siW si 2 (isC t) = si' at *
      generalize tyW t 2 = t' at *
      have K1 := Lib.hid k1; have K2 := Lib.hid k2; have K3 := Lib.hid k3; have KA0 := Lib.hid ka0; have KB0 := Lib.hid kb0; have KA1 := Lib.hid ka1; have KB1 := Lib.hid kb1
      clear k1 k2 k3 ka0 kb0 ka1 kb1
      have za := C9.new w1 (.string f) (.int .i64 al) (.int .i64 si) (.bool alt) (.bool ze) (.int .i64 wi) (.int .i64 gr) (.int .i64 pr) (.string t) 24
      go_wp2_with (go_at_call 12; (with_reducible refine Calls.mono (K1.out _) ?_); rintro r w2 ⟨rfl, hb⟩; have hz2 := hb.size; (try simp at hz2); replace za := za.carry hb; have hB2 : Below w.heap.size w w2 := (by refine Below.trans ?_ (hb.mono (by first | omega | (simp; done) | (simp <;> omega))); repeat (first | with_reducible exact Below.refl _ _ | with_reducible assumption | with_reducible refine Below.setCell ?_ (by first | omega | (simp; done) | (simp <;> omega)) _ | with_reducible refine below_drewN ?_ _ | with_reducible refine Below.drew ?_ | with_reducible refine Below.alloc ?_ (by first | omega | (simp; done) | (simp <;> omega)) _)); clear hb)
      replace za := za.up (.cells #[.string f', .int .i64 al', .int .i64 si', .bool alt, .bool false, .int .i64 wi, .int .i64 gr, .int .i64 pr, .string t'] 24)
      have zb := C9.new w2 (.string f') (.int .i64 al') (.int .i64 si') (.bool alt) (.bool false) (.int .i64 wi) (.int .i64 gr) (.int .i64 pr) (.string t') 24
      clear hB
      have hB : Below w.heap.size w (w2.alloc (.cells #[.string f', .int .i64 al', .int .i64 si', .bool alt, .bool false, .int .i64 wi, .int .i64 gr, .int .i64 pr, .string t'] 24)) := hB2.alloc (by have := hB2.size; omega) _
      go_wp2
      obtain ⟨sza0, sza1, sza2, sza3, sza4, sza5, sza6, sza7, sza8⟩ := C9.since za
      obtain ⟨szb0, szb1, szb2, szb3, szb4, szb5, szb6, szb7, szb8⟩ := C9.since zb
      refine wp_region_since (by kernel_rfl) (by kernel_rfl) ?_
      repeat (quiet_step (first | (go_at_call 14; with_reducible exact Calls.since_of (K2.out _)) | (go_at_call 13; with_reducible exact Calls.since_of (equalSpec_self _ _ _ _ _ _ _ _ _ _)) | (go_at_call 15; with_reducible exact Calls.since_of (K3.out _))))
      refine wpQuiet_nil ?_
      intro w_ hw_
      obtain ⟨⟨w3, hb⟩, hw2⟩ := hw_
      have hw3 : w3 = w_ := hw2.symm
      clear hw2
      subst hw3
      clear sza0 sza1 sza2 sza3 sza4 sza5 sza6 sza7 sza8 szb0 szb1 szb2 szb3 szb4 szb5 szb6 szb7 szb8
      replace hB := hB.trans (hb.mono hB.size)
      have hz := hb.size
      replace za := C9.carry za hb
      have zz := za; obtain ⟨za_x0, za_x1, za_x2, za_x3, za_x4, za_x5, za_x6, za_x7, za_x8, za_xf, za_xl⟩ := zz
      replace zb := C9.carry zb hb
      have zz := zb; obtain ⟨zb_x0, zb_x1, zb_x2, zb_x3, zb_x4, zb_x5, zb_x6, zb_x7, zb_x8, zb_xf, zb_xl⟩ := zz
      go_wp2
      have hz := hB.size
      have zl : C12 (w3.alloc (.cells #[.int .i64 2, .int .i64 0, .bool false, .int .i64 0, .int .i64 0, .string ⟨#[]⟩, .int .i64 2, .int .i64 0, .bool false, .int .i64 0, .int .i64 0, .string ⟨#[115, 111, 109, 101, 32, 116, 101, 120, 116]⟩] 33)) (w3.heap.size) (.int .i64 2) (.int .i64 0) (.bool false) (.int .i64 0) (.int .i64 0) (.string ⟨#[]⟩) (.int .i64 2) (.int .i64 0) (.bool false) (.int .i64 0) (.int .i64 0) (.string ⟨#[115, 111, 109, 101, 32, 116, 101, 120, 116]⟩) := by
        have h := C12.new w3 (.int .i64 2) (.int .i64 0) (.bool false) (.int .i64 0) (.int .i64 0) (.string ⟨#[]⟩) (.int .i64 2) (.int .i64 0) (.bool false) (.int .i64 0) (.int .i64 0) (.string ⟨#[115, 111, 109, 101, 32, 116, 101, 120, 116]⟩) 33
        exact h
      replace za := (za.up (.cells #[.int .i64 2, .int .i64 0, .bool false, .int .i64 0, .int .i64 0, .string ⟨#[]⟩, .int .i64 2, .int .i64 0, .bool false, .int .i64 0, .int .i64 0, .string ⟨#[115, 111, 109, 101, 32, 116, 101, 120, 116]⟩] 33))
      replace zb := (zb.up (.cells #[.int .i64 2, .int .i64 0, .bool false, .int .i64 0, .int .i64 0, .string ⟨#[]⟩, .int .i64 2, .int .i64 0, .bool false, .int .i64 0, .int .i64 0, .string ⟨#[115, 111, 109, 101, 32, 116, 101, 120, 116]⟩] 33))
      replace hB : Below w.heap.size w (w3.alloc (.cells #[.int .i64 2, .int .i64 0, .bool false, .int .i64 0, .int .i64 0, .string ⟨#[]⟩, .int .i64 2, .int .i64 0, .bool false, .int .i64 0, .int .i64 0, .string ⟨#[115, 111, 109, 101, 32, 116, 101, 120, 116]⟩] 33)) := (hB).alloc (by first | omega | (simp; omega)) _
      have zz := za; obtain ⟨za_x0, za_x1, za_x2, za_x3, za_x4, za_x5, za_x6, za_x7, za_x8, za_xf, za_xl⟩ := zz
      have zz := zb; obtain ⟨zb_x0, zb_x1, zb_x2, zb_x3, zb_x4, zb_x5, zb_x6, zb_x7, zb_x8, zb_xf, zb_xl⟩ := zz
      have zz := zl; obtain ⟨zl_c0, zl_c1, zl_c2, zl_c3, zl_c4, zl_c5, zl_c6, zl_c7, zl_c8, zl_c9, zl_c10, zl_c11, zl_fz, zl_lt⟩ := zz
      go_loopg [7] 2 (fun g s7 wr => ∃ k : Nat, k ≤ 2 ∧ s7 = .int .i64 k ∧ C12 wr w3.heap.size (.int .i64 2) (.int .i64 0) (.bool false) (.int .i64 0) (.int .i64 0) (.string ⟨#[]⟩) (.int .i64 2) (.int .i64 0) (.bool false) (.int .i64 0) (.int .i64 0) (.string ⟨#[115, 111, 109, 101, 32, 116, 101, 120, 116]⟩) ∧ C9 wr w1.heap.size (.string f) (.int .i64 al) (.int .i64 si) (.bool alt) (.bool ze) (.int .i64 wi) (.int .i64 gr) (.int .i64 pr) (.string t) ∧ C9 wr w2.heap.size (.string f') (.int .i64 al') (.int .i64 si') (.bool alt) (.bool false) (.int .i64 wi) (.int .i64 gr) (.int .i64 pr) (.string t') ∧ Below w.heap.size w wr ∧ Aside (g = 2 - k))
      case atStart => exact ⟨0, by omega, rfl, zl, za, zb, hB, by show _ = _; omega⟩
      case round =>
        obtain ⟨k, hk, rfl, zl, za, zb, hB, hg⟩ := hrel
        have hg' := hg.out
        clear hg
        have zz := za; obtain ⟨za_x0, za_x1, za_x2, za_x3, za_x4, za_x5, za_x6, za_x7, za_x8, za_xf, za_xl⟩ := zz
        have zz := zb; obtain ⟨zb_x0, zb_x1, zb_x2, zb_x3, zb_x4, zb_x5, zb_x6, zb_x7, zb_x8, zb_xf, zb_xl⟩ := zz
        have zz := zl; obtain ⟨zl_c0, zl_c1, zl_c2, zl_c3, zl_c4, zl_c5, zl_c6, zl_c7, zl_c8, zl_c9, zl_c10, zl_c11, zl_fz, zl_lt⟩ := zz
        have hz := hB.size
        have hk3 : k = 0 ∨ k = 1 ∨ k = 2 := by omega
        rcases hk3 with rfl | rfl | rfl
        · have KA := KA0; have KB := KB0
          go_wp2
          obtain ⟨sza0, sza1, sza2, sza3, sza4, sza5, sza6, sza7, sza8⟩ := C9.since za
          obtain ⟨szb0, szb1, szb2, szb3, szb4, szb5, szb6, szb7, szb8⟩ := C9.since zb
          obtain ⟨szl0, szl1, szl2, szl3, szl4, szl5, szl6, szl7, szl8, szl9, szl10, szl11⟩ := C12.since zl
          refine wp_region_since (by kernel_rfl) (by kernel_rfl) ?_
          repeat (quiet_step (first | (go_at_call 16; with_reducible exact Calls.since_of (KA.out _ (hT.on (hB.trans (Below.mono (Since.h _) hB.size))) (hD.on (hB.trans (Below.mono (Since.h _) hB.size)))))))
          refine wpQuiet_nil ?_
          intro w_ hw_
          obtain ⟨⟨w5, hb⟩, hw2⟩ := hw_
          have hw3 : w5 = w_ := hw2.symm
          clear hw2
          subst hw3
          clear sza0 sza1 sza2 sza3 sza4 sza5 sza6 sza7 sza8 szb0 szb1 szb2 szb3 szb4 szb5 szb6 szb7 szb8 szl0 szl1 szl2 szl3 szl4 szl5 szl6 szl7 szl8 szl9 szl10 szl11
          replace hB := hB.trans (hb.mono hB.size)
          have hz := hb.size
          replace za := C9.carry za hb
          have zz := za; obtain ⟨za_x0, za_x1, za_x2, za_x3, za_x4, za_x5, za_x6, za_x7, za_x8, za_xf, za_xl⟩ := zz
          replace zb := C9.carry zb hb
          have zz := zb; obtain ⟨zb_x0, zb_x1, zb_x2, zb_x3, zb_x4, zb_x5, zb_x6, zb_x7, zb_x8, zb_xf, zb_xl⟩ := zz
          replace zl := C12.carry zl hb
          have zz := zl; obtain ⟨zl_c0, zl_c1, zl_c2, zl_c3, zl_c4, zl_c5, zl_c6, zl_c7, zl_c8, zl_c9, zl_c10, zl_c11, zl_fz, zl_lt⟩ := zz
          go_wp2
          obtain ⟨sza0, sza1, sza2, sza3, sza4, sza5, sza6, sza7, sza8⟩ := C9.since za
          obtain ⟨szb0, szb1, szb2, szb3, szb4, szb5, szb6, szb7, szb8⟩ := C9.since zb
          obtain ⟨szl0, szl1, szl2, szl3, szl4, szl5, szl6, szl7, szl8, szl9, szl10, szl11⟩ := C12.since zl
          refine wp_region_since (by kernel_rfl) (by kernel_rfl) ?_
          repeat (quiet_step (first | (go_at_call 16; with_reducible exact Calls.since_of (KB.out _ (hT.on (hB.trans (Below.mono (Since.h _) hB.size))) (hD.on (hB.trans (Below.mono (Since.h _) hB.size)))))))
          refine wpQuiet_nil ?_
          intro w_ hw_
          obtain ⟨⟨w6, hb⟩, hw2⟩ := hw_
          have hw3 : w6 = w_ := hw2.symm
          clear hw2
          subst hw3
          clear sza0 sza1 sza2 sza3 sza4 sza5 sza6 sza7 sza8 szb0 szb1 szb2 szb3 szb4 szb5 szb6 szb7 szb8 szl0 szl1 szl2 szl3 szl4 szl5 szl6 szl7 szl8 szl9 szl10 szl11
          replace hB := hB.trans (hb.mono hB.size)
          have hz := hb.size
          replace za := C9.carry za hb
          have zz := za; obtain ⟨za_x0, za_x1, za_x2, za_x3, za_x4, za_x5, za_x6, za_x7, za_x8, za_xf, za_xl⟩ := zz
          replace zb := C9.carry zb hb
          have zz := zb; obtain ⟨zb_x0, zb_x1, zb_x2, zb_x3, zb_x4, zb_x5, zb_x6, zb_x7, zb_x8, zb_xf, zb_xl⟩ := zz
          replace zl := C12.carry zl hb
          have zz := zl; obtain ⟨zl_c0, zl_c1, zl_c2, zl_c3, zl_c4, zl_c5, zl_c6, zl_c7, zl_c8, zl_c9, zl_c10, zl_c11, zl_fz, zl_lt⟩ := zz
          go_wp2
          go_roundg (2 - 1)
          case measure => omega
          case rel => exact ⟨1, by omega, rfl, zl, za, zb, hB, rfl⟩
        · have KA := KA1; have KB := KB1
          go_wp2
          obtain ⟨sza0, sza1, sza2, sza3, sza4, sza5, sza6, sza7, sza8⟩ := C9.since za
          obtain ⟨szb0, szb1, szb2, szb3, szb4, szb5, szb6, szb7, szb8⟩ := C9.since zb
          obtain ⟨szl0, szl1, szl2, szl3, szl4, szl5, szl6, szl7, szl8, szl9, szl10, szl11⟩ := C12.since zl
          refine wp_region_since (by kernel_rfl) (by kernel_rfl) ?_
          repeat (quiet_step (first | (go_at_call 16; with_reducible exact Calls.since_of (KA.out _ (hT.on (hB.trans (Below.mono (Since.h _) hB.size))) (hD.on (hB.trans (Below.mono (Since.h _) hB.size)))))))
          refine wpQuiet_nil ?_
          intro w_ hw_
          obtain ⟨⟨w5, hb⟩, hw2⟩ := hw_
          have hw3 : w5 = w_ := hw2.symm
          clear hw2
          subst hw3
          clear sza0 sza1 sza2 sza3 sza4 sza5 sza6 sza7 sza8 szb0 szb1 szb2 szb3 szb4 szb5 szb6 szb7 szb8 szl0 szl1 szl2 szl3 szl4 szl5 szl6 szl7 szl8 szl9 szl10 szl11
          replace hB := hB.trans (hb.mono hB.size)
          have hz := hb.size
          replace za := C9.carry za hb
          have zz := za; obtain ⟨za_x0, za_x1, za_x2, za_x3, za_x4, za_x5, za_x6, za_x7, za_x8, za_xf, za_xl⟩ := zz
          replace zb := C9.carry zb hb
          have zz := zb; obtain ⟨zb_x0, zb_x1, zb_x2, zb_x3, zb_x4, zb_x5, zb_x6, zb_x7, zb_x8, zb_xf, zb_xl⟩ := zz
          replace zl := C12.carry zl hb
          have zz := zl; obtain ⟨zl_c0, zl_c1, zl_c2, zl_c3, zl_c4, zl_c5, zl_c6, zl_c7, zl_c8, zl_c9, zl_c10, zl_c11, zl_fz, zl_lt⟩ := zz
          go_wp2
          obtain ⟨sza0, sza1, sza2, sza3, sza4, sza5, sza6, sza7, sza8⟩ := C9.since za
          obtain ⟨szb0, szb1, szb2, szb3, szb4, szb5, szb6, szb7, szb8⟩ := C9.since zb
          obtain ⟨szl0, szl1, szl2, szl3, szl4, szl5, szl6, szl7, szl8, szl9, szl10, szl11⟩ := C12.since zl
          refine wp_region_since (by kernel_rfl) (by kernel_rfl) ?_
          repeat (quiet_step (first | (go_at_call 16; with_reducible exact Calls.since_of (KB.out _ (hT.on (hB.trans (Below.mono (Since.h _) hB.size))) (hD.on (hB.trans (Below.mono (Since.h _) hB.size)))))))
          refine wpQuiet_nil ?_
          intro w_ hw_
          obtain ⟨⟨w6, hb⟩, hw2⟩ := hw_
          have hw3 : w6 = w_ := hw2.symm
          clear hw2
          subst hw3
          clear sza0 sza1 sza2 sza3 sza4 sza5 sza6 sza7 sza8 szb0 szb1 szb2 szb3 szb4 szb5 szb6 szb7 szb8 szl0 szl1 szl2 szl3 szl4 szl5 szl6 szl7 szl8 szl9 szl10 szl11
          replace hB := hB.trans (hb.mono hB.size)
          have hz := hb.size
          replace za := C9.carry za hb
          have zz := za; obtain ⟨za_x0, za_x1, za_x2, za_x3, za_x4, za_x5, za_x6, za_x7, za_x8, za_xf, za_xl⟩ := zz
          replace zb := C9.carry zb hb
          have zz := zb; obtain ⟨zb_x0, zb_x1, zb_x2, zb_x3, zb_x4, zb_x5, zb_x6, zb_x7, zb_x8, zb_xf, zb_xl⟩ := zz
          replace zl := C12.carry zl hb
          have zz := zl; obtain ⟨zl_c0, zl_c1, zl_c2, zl_c3, zl_c4, zl_c5, zl_c6, zl_c7, zl_c8, zl_c9, zl_c10, zl_c11, zl_fz, zl_lt⟩ := zz
          go_wp2
          go_roundg (2 - 2)
          case measure => omega
          case rel => exact ⟨2, by omega, rfl, zl, za, zb, hB, rfl⟩
        · go_wp2
          go_ret
          exact ⟨rfl, hB⟩

def FnPlainSpecValue_LL : List (String × DataW Unit) := [("math/bits.deBruijn32tab", Rows.laid_math_bits_deBruijn32tab), ("math/bits.deBruijn64tab", Rows.laid_math_bits_deBruijn64tab), ("internal/strconv.uint64pow10", Rows.laid_internal_strconv_uint64pow10), ("unicode/utf8.acceptRanges", Rows.laid_unicode_utf8_acceptRanges), ("unicode.CaseRanges", Rows.laid_unicode_CaseRanges), ("unicode/utf8.first", Rows.laid_unicode_utf8_first)]

set_option maxRecDepth 100000 in
theorem FnPlainSpecValue_lifted (os : Os) (started : os.Started) (H : Type) (enc : TypeId × Value → H) :
    ReturnsInHanded {} Tryz.checked os 3 .any (fun w args => (Rows.fnPlainSpecValueSpec.pre enc Tryz.prog Tryz.f3 [] false w args ∧ laidMetH Tryz.prog FnPlainSpecValue_LL w) ∧ sizedMet enc Tryz.prog Tryz.f3 (OpenSpec.ofChange Rows.fnPlainSpecValueSpec) false w args) (Rows.fnPlainSpecValueSpec.post enc Tryz.prog Tryz.f3 false true false false) := by
  refine returnsInHanded_of_change_and (C := Tryz.checked) (X := fun w _ => laidMetH Tryz.prog FnPlainSpecValue_LL w) (fun _ _ _ hh h => h.of_heap hh) Tryz.own started (by kernel_rfl) Tryz.func3
    (ChangeSpec.witness_shaped (enc := enc) (C := Tryz.checked) (os := os) (X := fun w _ => laidMetH Tryz.prog FnPlainSpecValue_LL w) false (World.laidAll Tryz.prog os FnPlainSpecValue_LL) #[.slice none 0 0] 8 (World.laidAll_os _ _ _) (World.shaped_of_ZipB (by kernel_rfl) (by kernel_rfl)) (by kernel_rfl) (by kernel_rfl) (by kernel_rfl)
      (by rw [MakeChecks.laidMetH_plain _ _ _ (by kernel_rfl)]; exact laidMet_laidAll _ (by kernel_rfl) (by kernel_rfl))) ?_
  intro W base args ds gs before hval0 hW _ _ hL _
  rw [MakeChecks.laidMetH_plain _ _ _ (by kernel_rfl)] at hL
  have hT := p10_is hL
  have hD := dt_ofZ hL
  have hval : ∀ (j : Nat) t v, Tryz.f3.params[j]? = some t → args[j]? = some v → Value.okWide Tryz.prog W .any base t v := hval0
  have hW' := hW
  obtain ⟨p, q, hA0, hV, rfl, hfz, hnd⟩ := hW
  have hA : DataW.TrodAll enc Tryz.prog W 0 (fun _ => true) true Tryz.f3.params.toList args.toList ds p := hA0
  rw [Tryz.params3] at hA hval
  obtain ⟨v0, d0, rfl, rfl, h0⟩ := trodAll_one hA
  obtain ⟨rfl, rfl⟩ := trodVars_none hV
  obtain ⟨s, len, cap, rfl, hcap, hcode⟩ := open_code (hval 0 22 v0 rfl rfl) h0
  clear hA0 hval0
  have hlt := fun x hx => hW'.lt x hx
  refine (FnPlainSpecValue_law s len cap W hT hD hcode hcap).mono fun e_ W' ⟨he, hb⟩ => ?_
  subst he
  exact ⟨_, rfl, post_of_below (pa := p) (pv := []) hW' (fun _ _ _ => trodAll_mk1 (shut_bool Tryz.underlying4 true)) (fun sp hsp => trodAll_mk1 (code_back h0 hb (fun x hx => hlt x (by simp [hx])) (fun x hx => hsp x (by simp [hx])))) (fun _ _ => rfl) (by simp) hb (ok_one (by kernel_rfl) rfl (okWide_bool_mk Tryz.underlying4 true))⟩


theorem and_t {a b : Bool} (h : a = true) (k : b = true) : (a && b) = true := by rw [h, k]; rfl
theorem FnPlainSpecValue_q1 : (Rows.fnPlainSpecValueRow.wf (OpenSpec.ofChange Rows.fnPlainSpecValueSpec)) = true := by kernel_rfl
theorem FnPlainSpecValue_q2 : (laidOutB Tryz.prog) = true := by kernel_rfl
theorem FnPlainSpecValue_q3 : (mapsRowed Tryz.prog) = true := by kernel_rfl
theorem FnPlainSpecValue_q4 : (Tryz.f3.params.all (Tryz.prog.readableRec ·)) = true := by kernel_rfl
theorem FnPlainSpecValue_q5 : (namedTie Tryz.prog Rows.fnPlainSpecValueRow.named Rows.fnPlainSpecValueSpec.vars) = true := by kernel_rfl
theorem FnPlainSpecValue_q6 : ((Rows.fnPlainSpecValueRow.stops == [])) = true := by kernel_rfl
theorem FnPlainSpecValue_q7 : ((Tryz.prog.stops == [])) = true := by kernel_rfl
theorem FnPlainSpecValue_q8 : ((Rows.fnPlainSpecValueRow.knobs == [])) = true := by kernel_rfl
theorem FnPlainSpecValue_q9 : ((Tryz.prog.stopKnobs == [])) = true := by kernel_rfl
theorem FnPlainSpecValue_q10 : ((Rows.fnPlainSpecValueRow.inPlace == Tryz.prog.inPlace 3)) = true := by kernel_rfl
theorem FnPlainSpecValue_q11 : ((Rows.fnPlainSpecValueRow.unfollowed == Tryz.prog.unfollowed 3)) = true := by kernel_rfl
theorem FnPlainSpecValue_q12 : ((Rows.fnPlainSpecValueRow.recurses == Tryz.prog.recurses 3)) = true := by kernel_rfl
theorem FnPlainSpecValue_q13 : ((Rows.fnPlainSpecValueRow.named == Tryz.prog.varsNamed 3)) = true := by kernel_rfl
theorem FnPlainSpecValue_q14 : ((Rows.fnPlainSpecValueRow.maps == (Tryz.f3.params.toList ++ Rows.fnPlainSpecValueSpec.plain.varTypes Tryz.prog).any (Tryz.prog.mapsRec ·))) = true := by kernel_rfl
theorem FnPlainSpecValue_q15 : ((Rows.fnPlainSpecValueRow.ifaces == (Tryz.f3.params.toList ++ Rows.fnPlainSpecValueSpec.plain.varTypes Tryz.prog).any (Tryz.prog.ifacesRec ·))) = true := by kernel_rfl
theorem FnPlainSpecValue_q16 : ((Rows.fnPlainSpecValueRow.mapsOut == Tryz.prog.mapsAmong Tryz.f3.resultTypes.toList)) = true := by kernel_rfl
theorem FnPlainSpecValue_q17 : ((Rows.fnPlainSpecValueRow.loops == (Tryz.f3.params.toList ++ Rows.fnPlainSpecValueSpec.plain.varTypes Tryz.prog).any (Tryz.prog.loopsFrom ·))) = true := by kernel_rfl
theorem FnPlainSpecValue_q18 : ((Rows.fnPlainSpecValueRow.wideKeys == (Tryz.f3.params.toList ++ Rows.fnPlainSpecValueSpec.plain.varTypes Tryz.prog ++ Tryz.f3.resultTypes.toList).any (Tryz.prog.wideKeysFrom ·))) = true := by kernel_rfl
theorem FnPlainSpecValue_q19 : (Rows.fnPlainSpecValueSpec.vars.all (Tryz.prog.varReadable ·)) = true := by kernel_rfl
theorem FnPlainSpecValue_q20 : (Tryz.f3.resultTypes.all (fun t => Tryz.prog.readableRec t && decide (t < Tryz.prog.types.size))) = true := by kernel_rfl
theorem FnPlainSpecValue_q21 : ((Rows.fnPlainSpecValueRow.ifacesOut == Tryz.f3.resultTypes.toList.any (Tryz.prog.ifacesRec ·))) = true := by kernel_rfl
theorem FnPlainSpecValue_q22 : ((Rows.fnPlainSpecValueRow.loopsOut == Tryz.f3.resultTypes.toList.any (Tryz.prog.loopsFrom ·))) = true := by kernel_rfl
theorem FnPlainSpecValue_q23 : ((Rows.fnPlainSpecValueRow.plainKeys == Tryz.prog.plainKeys)) = true := by kernel_rfl
theorem FnPlainSpecValue_q24 : (Rows.fnPlainSpecValueRow.shortTexts.isNone) = true := by kernel_rfl
theorem FnPlainSpecValue_q25 : (Tryz.prog.stopsHeard) = true := by kernel_rfl
theorem FnPlainSpecValue_q26 : (Tryz.prog.mayEnter) = true := by kernel_rfl
theorem FnPlainSpecValue_q27 : ((Rows.fnPlainSpecValueRow.lifted == Tryz.prog.liftsFinal)) = true := by kernel_rfl
theorem FnPlainSpecValue_q28 : ((Tryz.prog.make == some Rows.fnPlainSpecValueRow.make)) = true := by kernel_rfl
theorem FnPlainSpecValue_q29 : ((Rows.fnPlainSpecValueRow.kinds == (if Rows.fnPlainSpecValueRow.domain.isEmpty then [] else Tryz.f3.params.toList.map fun t => match Tryz.prog.underlying t with | some (.int k) => some k | _ => none))) = true := by kernel_rfl
theorem FnPlainSpecValue_q30 : ((Rows.fnPlainSpecValueRow.pinned == Rows.fnPlainSpecValueRow.pinnedBy)) = true := by kernel_rfl
theorem FnPlainSpecValue_q31 : ((Rows.fnPlainSpecValueRow.veiled == (Tryz.f3.params.toList ++ Rows.fnPlainSpecValueSpec.plain.varTypes Tryz.prog ++ Tryz.f3.resultTypes.toList).any (Tryz.prog.veiledRec ·))) = true := by kernel_rfl
theorem FnPlainSpecValue_q32 : (Rows.fnPlainSpecValueRow.veiledFits Tryz.prog Tryz.f3.params.toList (Tryz.f3.params.toList ++ Rows.fnPlainSpecValueSpec.plain.varTypes Tryz.prog ++ Tryz.f3.resultTypes.toList)) = true := by kernel_rfl
set_option maxRecDepth 100000 in
theorem FnPlainSpecValue_jf : joinedFacts Tryz.prog 3 Tryz.f3 Rows.fnPlainSpecValueSpec Rows.fnPlainSpecValueRow = true := by
  unfold joinedFacts
  exact and_t (and_t (and_t (and_t (and_t (and_t (and_t (and_t (and_t (and_t (and_t (and_t (and_t (and_t (and_t (and_t (and_t (and_t (and_t (and_t (and_t (and_t (and_t (and_t (and_t (and_t (and_t (and_t (and_t (and_t (and_t (FnPlainSpecValue_q1) FnPlainSpecValue_q2) FnPlainSpecValue_q3) FnPlainSpecValue_q4) FnPlainSpecValue_q5) FnPlainSpecValue_q6) FnPlainSpecValue_q7) FnPlainSpecValue_q8) FnPlainSpecValue_q9) FnPlainSpecValue_q10) FnPlainSpecValue_q11) FnPlainSpecValue_q12) FnPlainSpecValue_q13) FnPlainSpecValue_q14) FnPlainSpecValue_q15) FnPlainSpecValue_q16) FnPlainSpecValue_q17) FnPlainSpecValue_q18) FnPlainSpecValue_q19) FnPlainSpecValue_q20) FnPlainSpecValue_q21) FnPlainSpecValue_q22) FnPlainSpecValue_q23) FnPlainSpecValue_q24) FnPlainSpecValue_q25) FnPlainSpecValue_q26) FnPlainSpecValue_q27) FnPlainSpecValue_q28) FnPlainSpecValue_q29) FnPlainSpecValue_q30) FnPlainSpecValue_q31) FnPlainSpecValue_q32
theorem FnPlainSpecValue_fn : Tryz.prog.funcNamed Rows.fnPlainSpecValueRow.func = some 3 := by kernel_rfl
theorem FnPlainSpecValue_fn2 : Tryz.prog.funcNamed "loop.example/formatplans/laws.FnPlainSpecValue" = some 3 := by kernel_rfl
theorem FnPlainSpecValue_lo : false = Tryz.prog.looks [] := by kernel_rfl
theorem FnPlainSpecValue_wf : Rows.fnPlainSpecValueRow.wfByText (OpenSpec.ofChange Rows.fnPlainSpecValueSpec) = true := by kernel_rfl
theorem FnPlainSpecValue_go : false = Rows.fnPlainSpecValueRow.goesBy Tryz.prog := by kernel_rfl
theorem FnPlainSpecValue_wr : Tryz.f3.isWrapper Tryz.prog Rows.fnPlainSpecValueRow.wrapper Rows.fnPlainSpecValueRow.mainSum := by unfold Func.isWrapper; first | (rw [if_pos (by decide +kernel)]; kernel_rfl) | (rw [if_neg (by decide +kernel)]; exact ⟨rfl, rfl⟩)
theorem FnPlainSpecValue_mi : Tryz.prog.mainIs = some (true, "6933efefb6e096d9a2a014b580faf256fe9a780daa6d240b09c62b53f6401334".toList) := by kernel_rfl
theorem FnPlainSpecValue_st : ([22].all fun u => !Tryz.prog.wantsStandIn u) = true := by kernel_rfl
theorem FnPlainSpecValue_holds : Rows.FnPlainSpecValueSaid :=
  OpenClaim.holds_of_wide 3 Tryz.f3 rfl rfl rfl rfl rfl rfl rfl ⟨rfl, rfl, rfl, rfl, rfl⟩ rfl rfl rfl rfl rfl FnPlainSpecValue_fn Tryz.func3 FnPlainSpecValue_jf
    (of_decide_eq_true (by kernel_rfl)) FnPlainSpecValue_wr
    (fun os started H enc _ => FnPlainSpecValue_lifted os started H enc)

theorem FnPlainSpecValue_card : Rows.FnPlainSpecValueCardSaid :=
  Claim7.holds_tied_plain_at .later [] [.data, .data, .data, .data, .pinned, .pinned] true (true, "6933efefb6e096d9a2a014b580faf256fe9a780daa6d240b09c62b53f6401334") false
    FnPlainSpecValue_holds (fun _ h => by cases h) FnPlainSpecValue_wf (fun _ h => by cases h) fnPlainSpecValue_row_tie rfl ⟨rfl, rfl⟩ FnPlainSpecValue_mi rfl
    (fun f fn hf hfn => by
      obtain rfl : f = 3 := Option.some.inj (FnPlainSpecValue_fn2.symm.trans hf) |>.symm
      obtain rfl : fn = Tryz.f3 := (Option.some.inj (Tryz.func3.symm.trans hfn)).symm
      exact ⟨FnPlainSpecValue_lo, fun j t ht => by
        rw [Tryz.params3] at ht
        have hm : t ∈ [22] := by simpa using Array.mem_of_getElem? ht
        have hall := FnPlainSpecValue_st
        exact (show Tryz.prog.wantsStandIn t = false by simpa using List.all_eq_true.1 hall t hm)⟩)
    FnPlainSpecValue_go
end Go.Proofs.YtejganoipbblcaaGreatDoor
