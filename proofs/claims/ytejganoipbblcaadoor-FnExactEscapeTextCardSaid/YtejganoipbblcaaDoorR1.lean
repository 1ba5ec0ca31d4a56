import Derived.Test.YtejganoipbblcaaDoorU
import Derived.Deep.RegionWith
namespace Go.Proofs.YtejganoipbblcaaDoor
open Go.RowKit

theorem wrap_i64 (n : Int) : IntKind.i64.wrap n = wrap64 n := by rw [IntKind.wrap_i64]; unfold wrap64; rfl
/-- exclusive or of numbers that are not negative is one -/
theorem xor_ok {x y : Int} (hx : 0 ≤ x) (hx' : x < 4611686018427387904) (hy : 0 ≤ y) (hy' : y < 4611686018427387904) :
    0 ≤ bits .xor .i64 x y ∧ bits .xor .i64 x y < 4611686018427387904 := by
  obtain ⟨a, rfl⟩ := Int.eq_ofNat_of_zero_le hx
  obtain ⟨b, rfl⟩ := Int.eq_ofNat_of_zero_le hy
  have hlt : a ^^^ b < 2 ^ 62 := Nat.xor_lt_two_pow (by omega) (by omega)
  have h1 : (BitVec.ofInt 64 (a : Int)).toNat = a := by
    rw [BitVec.ofInt_natCast, BitVec.toNat_ofNat]; exact Nat.mod_eq_of_lt (by omega)
  have h2 : (BitVec.ofInt 64 (b : Int)).toNat = b := by
    rw [BitVec.ofInt_natCast, BitVec.toNat_ofNat]; exact Nat.mod_eq_of_lt (by omega)
  have e : bits .xor .i64 (a : Int) (b : Int) = wrap64 ((a ^^^ b : Nat) : Int) := by
    show IntKind.i64.wrap ((BitVec.ofInt 64 (a : Int) ^^^ BitVec.ofInt 64 (b : Int)).toNat : Int) = _
    rw [BitVec.toNat_xor, h1, h2, wrap_i64]
  rw [e, show wrap64 ((a ^^^ b : Nat) : Int) = ((a ^^^ b : Nat) : Int) from by unfold wrap64; omega]
  omega

/-- only block R of the old ones may have turned -/
structure Kp (R B : Nat) (w w' : World) : Prop where
  os : w'.os = w.os
  tape : w'.tape = w.tape
  output : w'.output = w.output
  size : w.heap.size ≤ w'.heap.size
  block : ∀ k, k < B → k ≠ R → w'.heap[k]? = w.heap[k]?
  froz : ∀ o, w'.frozen? ⟨R, o, none⟩ = w.frozen? ⟨R, o, none⟩

theorem Kp.below {R B : Nat} {w w' : World} (h : Kp R B w w') (hR : R ≤ B) : Below R w w' :=
  ⟨h.os, h.tape, h.output, h.size, fun k hk => h.block k (by omega) (by omega)⟩
theorem Kp.cell {R B : Nat} {w w' : World} (h : Kp R B w w') {b o : Nat} (hb : b < B) (hn : b ≠ R) : w'.cell? ⟨b, o, none⟩ = w.cell? ⟨b, o, none⟩ := by
  simp only [World.cell?, h.block b hb hn]
theorem Kp.frozen {R B : Nat} {w w' : World} (h : Kp R B w w') {b o : Nat} (hb : b < B) (hn : b ≠ R) : w'.frozen? ⟨b, o, none⟩ = w.frozen? ⟨b, o, none⟩ := by
  simp only [World.frozen?, h.block b hb hn]

/-- the cells of a text of bytes -/
def CodeAt (s : Option Addr) (len : Nat) (B : Nat) (w : World) : Prop :=
  len = 0 ∨ ∃ ab ao, ∃ X : Nat → Int, s = some ⟨ab, ao, none⟩ ∧ ab < B ∧ ∀ i, i < len → w.cell? ⟨ab, ao + i, none⟩ = some (.int .u8 (X i)) ∧ 0 ≤ X i ∧ X i ≤ 255
/-- a reader at block R, at most K numbers drawn -/
def Rd (R : Nat) (K : Int) (w : World) : Prop :=
  R < w.heap.size ∧ (∀ o, w.frozen? ⟨R, o, none⟩ = false) ∧ ∃ (s : Option Addr) (len cap : Nat) (p : Int), w.cell? ⟨R, 0, none⟩ = some (.slice s len cap) ∧ w.cell? ⟨R, 1, none⟩ = some (.int .i64 p) ∧ 0 ≤ p ∧ p ≤ K ∧ len ≤ 2000 ∧ CodeAt s len R w
theorem Rd.mono {R : Nat} {K K' : Int} {w : World} (h : Rd R K w) (hk : K ≤ K') : Rd R K' w := by
  obtain ⟨a, b, s, len, cap, p, c, d, e, f, g, i⟩ := h
  exact ⟨a, b, s, len, cap, p, c, d, e, by omega, g, i⟩
theorem CodeAt.keep {s : Option Addr} {len B : Nat} {w w' : World} (h : CodeAt s len B w) (hc : ∀ b o, b < B → w'.cell? ⟨b, o, none⟩ = w.cell? ⟨b, o, none⟩) : CodeAt s len B w' := by
  rcases h with h | ⟨ab, ao, X, h1, h2, h3⟩
  · exact .inl h
  · exact .inr ⟨ab, ao, X, h1, h2, fun i hi => by rw [hc _ _ h2]; exact h3 i hi⟩
theorem CodeAt.wide {s : Option Addr} {len B B' : Nat} {w : World} (h : CodeAt s len B w) (hb : B ≤ B') : CodeAt s len B' w := by
  rcases h with h | ⟨ab, ao, X, h1, h2, h3⟩
  · exact .inl h
  · exact .inr ⟨ab, ao, X, h1, by omega, h3⟩
theorem CodeAt.cut {s : Option Addr} {len len' B : Nat} {w : World} (h : CodeAt s len B w) (hl : len' ≤ len) : CodeAt s len' B w := by
  rcases h with h' | ⟨ab, ao, X, h1, h2, h3⟩
  · exact .inl (by omega)
  · exact .inr ⟨ab, ao, X, h1, h2, fun i hi => h3 i (by omega)⟩
/-- a reader that nobody has touched since -/
theorem Rd.keep {R : Nat} {K : Int} {w w' : World} (h : Rd R K w) (hs : w.heap.size ≤ w'.heap.size) (hc : ∀ b o, b ≤ R → w'.cell? ⟨b, o, none⟩ = w.cell? ⟨b, o, none⟩) (hf : ∀ o, w'.frozen? ⟨R, o, none⟩ = w.frozen? ⟨R, o, none⟩) : Rd R K w' := by
  obtain ⟨a, b, s, len, cap, p, c, d, e, f, g, i⟩ := h
  exact ⟨by omega, fun o => (hf o).trans (b o), s, len, cap, p, (hc _ _ (Nat.le_refl _)).trans c, (hc _ _ (Nat.le_refl _)).trans d, e, f, g, i.keep fun b o hb => hc b o (by omega)⟩
theorem Rd.carry {R : Nat} {K : Int} {w w' : World} (h : Rd R K w) (hb : Below w.heap.size w w') : Rd R K w' :=
  have hR := h.1
  h.keep hb.size (fun b o hle => hb.cell (p := ⟨b, o, none⟩) (by simp only; omega)) (fun o => hb.frozen (p := ⟨R, o, none⟩) hR)
theorem Rd.up {R : Nat} {K : Int} {w : World} (h : Rd R K w) (x : Obj) : Rd R K (w.alloc x) := h.carry ((Below.refl _ _).alloc (Nat.le_refl _) _)
theorem Rd.drew {R : Nat} {K : Int} {w : World} (h : Rd R K w) : Rd R K w.drew := h
/-- a store into a later block -/
theorem Rd.set {R : Nat} {K : Int} {w : World} (h : Rd R K w) {b o : Nat} (hb : R < b) (v : Value) : Rd R K (w.setCell ⟨b, o, none⟩ v) :=
  have h0 : Below b w (w.setCell ⟨b, o, none⟩ v) := Below.setCell (p := ⟨b, o, none⟩) (Below.refl b w) (Nat.le_refl _) v
  h.keep h0.size (fun b' o' hle => h0.cell (p := ⟨b', o', none⟩) (by simp only; omega)) (fun o' => h0.frozen (p := ⟨R, o', none⟩) hb)


theorem Rd.new {s : Option Addr} {len cap : Nat} {w : World} (h : CodeAt s len w.heap.size w) (hl : len ≤ 2000) : Rd w.heap.size 0 (w.alloc (.cells #[.slice s len cap, .int .i64 0] 61)) :=
  have hb : Below w.heap.size w (w.alloc (.cells #[.slice s len cap, .int .i64 0] 61)) := (Below.refl _ _).alloc (Nat.le_refl _) _
  ⟨by simp, fun o => by simp [go_sem], s, len, cap, 0, by simp [go_sem], by simp [go_sem], by omega, by omega, hl, h.keep fun b o hlt => hb.cell (p := ⟨b, o, none⟩) hlt⟩
set_option maxHeartbeats 1000000 in
theorem newReader_any (s : Option Addr) (len cap : Nat) (w : World) (h : CodeAt s len w.heap.size w) (hcap : len ≤ cap) :
    Calls Tryd.prog 15 #[.slice s len cap] w fun r w' => ∃ R, r = .returned (.pointer (some ⟨R, 0, none⟩)) ∧ w.heap.size ≤ R ∧ Rd R 0 w' ∧ Below w.heap.size w w' := by
  by_cases hl : 2000 < len
  · rcases h with h | ⟨ab, ao, X, rfl, h2, h3⟩
    · omega
    have hr := Rd.new (cap := cap) (CodeAt.cut (len' := 2000) (Or.inr ⟨ab, ao, X, rfl, h2, h3⟩) (by omega)) (by omega)
    go_enter Tryd.func15, Tryd.ntmps15
    go_wp2
    go_ret
    exact ⟨w.heap.size, rfl, Nat.le_refl _, hr, (by repeat (first | with_reducible exact Below.refl _ _ | with_reducible assumption | with_reducible refine Below.setCell ?_ (by first | omega | (simp; done) | (simp <;> omega)) _ | with_reducible refine below_drewN ?_ _ | with_reducible refine Below.drew ?_ | with_reducible refine Below.alloc ?_ (by first | omega | (simp; done) | (simp <;> omega)) _))⟩
  · have hr := Rd.new (cap := cap) h (by omega)
    go_enter Tryd.func15, Tryd.ntmps15
    go_wp2
    go_ret
    exact ⟨w.heap.size, rfl, Nat.le_refl _, hr, (by repeat (first | with_reducible exact Below.refl _ _ | with_reducible assumption | with_reducible refine Below.setCell ?_ (by first | omega | (simp; done) | (simp <;> omega)) _ | with_reducible refine below_drewN ?_ _ | with_reducible refine Below.drew ?_ | with_reducible refine Below.alloc ?_ (by first | omega | (simp; done) | (simp <;> omega)) _))⟩

/-- what a draw leaves: the counter turned -/
theorem pick_after {R : Nat} {K p : Int} {s : Option Addr} {len cap : Nat} {w : World} (hR : R < w.heap.size) (hf : ∀ o, w.frozen? ⟨R, o, none⟩ = false) (h0 : w.cell? ⟨R, 0, none⟩ = some (.slice s len cap)) (h1 : w.cell? ⟨R, 1, none⟩ = some (.int .i64 p))
    (hp0 : 0 ≤ p) (hp1 : p ≤ K) (hl : len ≤ 2000) (hc : CodeAt s len R w) :
    Rd R (K + 1) (w.setCell ⟨R, 1, none⟩ (.int .i64 (p + 1))) ∧ Kp R w.heap.size w (w.setCell ⟨R, 1, none⟩ (.int .i64 (p + 1))) := by
  have h0b : Below R w (w.setCell ⟨R, 1, none⟩ (.int .i64 (p + 1))) := Below.setCell (p := ⟨R, 1, none⟩) (Below.refl R w) (Nat.le_refl _) _
  refine ⟨⟨?_, fun o => ?_, s, len, cap, p + 1, ?_, ?_, by omega, by omega, hl, hc.keep fun b o hb => h0b.cell (p := ⟨b, o, none⟩) hb⟩, ⟨rfl, rfl, rfl, h0b.size, fun k hk hn => Below.heap_setCell _ _ _ _ hn, fun o => set_frozen _ _ _ _ _⟩⟩
  · have := h0b.size; omega
  · rw [set_frozen]; exact hf o
  · simp [go_sem, h0]
  · simp [go_sem, h1]
theorem Rd.drewN {R : Nat} {K : Int} {w : World} (h : Rd R K w) (n : Nat) : Rd R K (w.drewN n) := h
theorem Kp.drewN {R B : Nat} {a w : World} (h : Kp R B a w) (n : Nat) : Kp R B a (w.drewN n) := ⟨h.os, h.tape, h.output, h.size, h.block, h.froz⟩

set_option maxHeartbeats 1000000 in
theorem pick_any (R : Nat) (n : Int) (K : Int) (w : World) (h : Rd R K w) (hK : K ≤ 1000) :
    Calls Tryd.prog 30 #[.pointer (some ⟨R, 0, none⟩), .int .i64 n] w fun r w' => (∃ x, r = .returned (.int .i64 x) ∧ 0 ≤ x ∧ (1 ≤ n → x < n)) ∧ Rd R (K + 1) w' ∧ Kp R w.heap.size w w' := by
  obtain ⟨hR, hf, s, len, cap, p, h0, h1, hp0, hp1, hl, hc⟩ := h
  have HA := Lib.hid (pick_after hR hf h0 h1 hp0 hp1 hl hc)
  by_cases hz : n < 1 ∨ len = 0
  · rcases hz with hz | hz
    · go_enter Tryd.func30, Tryd.ntmps30
      go_wp2
      all_goals go_ret
      all_goals exact ⟨⟨0, rfl, by omega, by omega⟩, HA.out⟩
    · subst hz
      go_enter Tryd.func30, Tryd.ntmps30
      go_wp2
      all_goals go_ret
      all_goals exact ⟨⟨0, rfl, by omega, by omega⟩, HA.out⟩
  rcases hc with hc | ⟨ab, ao, X, rfl, hab, hX⟩
  · omega
  by_cases hpl : p < len
  · have hne : ab ≠ R := by omega
    have gx := (hX p.toNat (by omega)).1
    have gb := (hX p.toNat (by omega)).2
    clear hX
    generalize X p.toNat = x at gx gb
    have g1 : ¬ n < 1 := by omega
    have g2 : ¬ len = 0 := by omega
    go_enter Tryd.func30, Tryd.ntmps30
    go_wp2
    go_ret
    first | exact ⟨⟨_, rfl, Int.emod_nonneg _ (by omega), fun _ => Int.emod_lt_of_pos _ (by omega)⟩, HA.out⟩ | exact ⟨⟨_, rfl, Int.emod_nonneg _ (by omega), Int.emod_lt_of_pos _ (by omega)⟩, HA.out⟩
  · have hne : ab ≠ R := by omega
    have g1 : ¬ n < 1 := by omega
    have g2 : ¬ len = 0 := by omega
    have tm : ∀ q : Int, 0 ≤ q → 0 ≤ q.tmod len ∧ q.tmod len < len := fun q hq => by
      rw [Int.tmod_eq_emod_of_nonneg hq]
      exact ⟨Int.emod_nonneg q (by omega), Int.emod_lt_of_pos q (by omega)⟩
    obtain ⟨c1, c1'⟩ := tm p hp0
    obtain ⟨c2, c2'⟩ := tm (p * 7 + 3) (by omega)
    clear tm
    generalize e1 : p.tmod len = i1 at c1 c1'
    generalize e2 : (p * 7 + 3).tmod len = i2 at c2 c2'
    obtain ⟨k1, b1, b1'⟩ := hX i1.toNat (by omega)
    obtain ⟨k2, b2, b2'⟩ := hX i2.toNat (by omega)
    clear hX
    generalize X i1.toNat = x1 at k1 b1 b1'
    generalize X i2.toNat = x2 at k2 b2 b2'
    have wr : ∀ q : Int, 0 ≤ q → q ≤ 1000000000 → IntKind.i64.wrap q = q := fun q h1 h2 => by rw [wrap_i64]; unfold wrap64; omega
    have d0 : 0 ≤ p.tdiv len ∧ p.tdiv len ≤ p := by
      rw [Int.tdiv_eq_ediv_of_nonneg hp0]
      exact ⟨Int.ediv_nonneg hp0 (by omega), Int.ediv_le_self _ hp0⟩
    generalize e3 : p.tdiv len = d at d0
    have w1 := wr (p * 7) (by omega) (by omega)
    have w2 := wr (p * 7 + 3) (by omega) (by omega)
    generalize f1 : x1 * 131 = y1 at *
    generalize f2 : x2 * 1117 = y2 at *
    have w3 := wr y1 (by omega) (by omega)
    have w4 := wr y2 (by omega) (by omega)
    generalize f3 : y1 + y2 = y3 at *
    have w5 := wr y3 (by omega) (by omega)
    generalize f4 : p * 29 = y4 at *
    have w6 := wr y4 (by omega) (by omega)
    generalize f5 : y3 + y4 = y5 at *
    have w7 := wr y5 (by omega) (by omega)
    generalize f6 : d * 53 = y6 at *
    have w8 := wr y6 (by omega) (by omega)
    generalize f7 : y5 + y6 = y7 at *
    have w9 := wr y7 (by omega) (by omega)
    have y0 : 0 ≤ y7 ∧ y7 ≤ 1000000000 := by omega
    have xz := xor_ok (x := y7) (y := y7 / 64) (by omega) (by omega) (by omega) (by omega)
    generalize f8 : bits .xor .i64 y7 (y7 / 64) = z at xz
    obtain ⟨z0, z1⟩ := xz
    clear wr
    go_enter Tryd.func30, Tryd.ntmps30
    go_wp2
    go_quiet (fail)
    go_wp2
    go_ret
    exact ⟨⟨_, rfl, Int.emod_nonneg _ (by omega), fun _ => Int.emod_lt_of_pos _ (by omega)⟩, HA.out.1.drewN _, HA.out.2.drewN _⟩
end Go.Proofs.YtejganoipbblcaaDoor
