import Derived.Test.YtebheehjhnaklaaGreatDoorC3T
import Derived.Lib.ItoaNum
import Derived.Deep.RegionWith
import Derived.Deep.LoopGhost
namespace Go.Proofs.YtebheehjhnaklaaGreatDoor
open Go
/-- the byte of a digit -/
def dch (up : Bool) (k : Nat) : UInt8 := UInt8.ofNat (if k < 10 then 48 + k else if up then 55 + k else 87 + k)
theorem dg_dch {up : Bool} {k : Nat} (h : k < 16) : dg ((dch up k).toNat : Int) = k := by
  have h0 : ((List.range 16).all fun k => dg ((dch up k).toNat : Int) == (k : Int)) = true := by cases up <;> decide +kernel
  exact eq_of_beq (List.all_eq_true.1 h0 k (List.mem_range.2 h))
theorem dch_zero {up : Bool} {k : Nat} (h : k < 16) (e : dch up k = 48) : k = 0 := by
  have h0 : ((List.range 16).all fun k => !(dch up k == 48) || (k == 0)) = true := by cases up <;> decide +kernel
  have := List.all_eq_true.1 h0 k (List.mem_range.2 h)
  simpa [e] using this
/-- the digits of n in the base b, without zeros ahead -/
def digs (up : Bool) (b n : Nat) : List UInt8 := if 2 ≤ b ∧ b ≤ n then digs up b (n / b) ++ [dch up (n % b)] else [dch up n]
termination_by n
decreasing_by exact Nat.div_lt_self (by omega) (by omega)
theorem digs_lt {up : Bool} {b n : Nat} (h : n < b) : digs up b n = [dch up n] := by rw [digs, if_neg (by omega)]
theorem digs_ge {up : Bool} {b n : Nat} (h2 : 2 ≤ b) (h : b ≤ n) : digs up b n = digs up b (n / b) ++ [dch up (n % b)] := by rw [digs, if_pos ⟨h2, h⟩]
theorem div_lt_of {b n : Nat} (h2 : 2 ≤ b) (h : b ≤ n) : n / b < n := Nat.div_lt_self (by omega) (by omega)
theorem vRun_cons {base : Int} {b : UInt8} {l : List UInt8} {n : Int} (h1 : dg b.toNat < base) (h2 : n * base + dg b.toNat ≤ 999999999999) : vRun base (b :: l) n = vRun base l (n * base + dg b.toNat) := by
  show (if dg b.toNat ≥ base then _ else _) = _
  rw [if_neg (by omega), if_neg (by omega)]
theorem vRun_digs {up : Bool} {b : Nat} (h2 : 2 ≤ b) (h16 : b ≤ 16) : ∀ (k n : Nat), n ≤ k → n ≤ 999999999999 → ∀ T, vRun b (digs up b n ++ T) 0 = vRun b T n := by
  intro k
  induction k with
  | zero =>
    intro n hk _ T
    obtain rfl : n = 0 := by omega
    rw [digs_lt (by omega), List.singleton_append, vRun_cons (by rw [dg_dch (by omega)]; omega) (by rw [dg_dch (by omega)]; omega), dg_dch (by omega)]
    simp
  | succ k ih =>
    intro n hk hm T
    by_cases h : n < b
    · rw [digs_lt h, List.singleton_append, vRun_cons (by rw [dg_dch (by omega)]; omega) (by rw [dg_dch (by omega)]; omega), dg_dch (by omega)]
      simp
    · have hd := div_lt_of h2 (show b ≤ n by omega)
      have hr := Nat.mod_lt n (show 0 < b by omega)
      have he : ((n / b : Nat) : Int) * b + ((n % b : Nat) : Int) = n := by
        have := Nat.div_add_mod n b
        rw [Nat.mul_comm] at this
        exact_mod_cast this
      rw [digs_ge h2 (by omega), List.append_assoc, ih (n / b) (by omega) (by omega), List.singleton_append, vRun_cons (by rw [dg_dch (by omega)]; omega) (by rw [dg_dch (by omega), he]; omega), dg_dch (by omega), he]
theorem digs_head {up : Bool} {b : Nat} (h2 : 2 ≤ b) (h16 : b ≤ 16) : ∀ (k n : Nat), n ≤ k → 1 ≤ n → ∃ c r, digs up b n = c :: r ∧ c ≠ 48 := by
  intro k
  induction k with
  | zero => intro n h1 h2; omega
  | succ k ih =>
    intro n hk h1
    by_cases h : n < b
    · exact ⟨dch up n, [], digs_lt h, fun e => by have := dch_zero (by omega) e; omega⟩
    · have hd := div_lt_of h2 (show b ≤ n by omega)
      obtain ⟨c, r, e, hc⟩ := ih (n / b) (by omega) ((Nat.one_le_div_iff (by omega)).2 (by omega))
      exact ⟨c, r ++ [dch up (n % b)], by rw [digs_ge h2 (by omega), e]; rfl, hc⟩
/-- how many digits -/
theorem digs_length {up : Bool} {b : Nat} (h2 : 2 ≤ b) : ∀ (m n : Nat), n < b ^ (m + 1) → (m = 0 ∨ b ^ m ≤ n) → (digs up b n).length = m + 1 := by
  intro m
  induction m with
  | zero => intro n h _; rw [digs_lt (by simpa using h)]; rfl
  | succ m ih =>
    intro n h hl
    have hb : b ^ (m + 1) ≤ n := by rcases hl with h | h; omega; exact h
    have hbb : b ≤ n := Nat.le_trans (by rw [Nat.pow_succ]; exact Nat.le_mul_of_pos_left b (Nat.pow_pos (by omega))) hb
    rw [digs_ge h2 hbb, List.length_append, ih (n / b) ?_ (.inr ?_)]
    · rfl
    · exact Nat.div_lt_of_lt_mul (by rw [Nat.mul_comm, ← Nat.pow_succ]; exact h)
    · rw [Nat.le_div_iff_mul_le (by omega), ← Nat.pow_succ]; exact hb
theorem digs_short {up : Bool} {b : Nat} (h2 : 2 ≤ b) : ∀ (m n : Nat), n < 2 ^ (m + 1) → (digs up b n).length ≤ m + 1 := by
  intro m
  induction m with
  | zero => intro n h; rw [digs_lt (by omega)]; simp
  | succ m ih =>
    intro n h
    by_cases hb : n < b
    · rw [digs_lt hb]; simp
    · have : n / b < 2 ^ (m + 1) := Nat.lt_of_le_of_lt (Nat.div_le_div_left h2 (by omega)) (Nat.div_lt_of_lt_mul (by rw [Nat.mul_comm, ← Nat.pow_succ]; exact h))
      have := ih (n / b) this
      rw [digs_ge h2 (by omega), List.length_append]
      simp only [List.length_singleton]
      omega
theorem digs_40 {up : Bool} {b n : Nat} (h2 : 2 ≤ b) (h : n ≤ 999999999999) : (digs up b n).length ≤ 40 := digs_short h2 39 n (Nat.lt_of_le_of_lt h (by decide))
theorem decDigits_digs : ∀ (k n : Nat), n ≤ k → Lib.decDigits n = digs false 10 n := by
  intro k
  induction k with
  | zero =>
    intro n h
    obtain rfl : n = 0 := by omega
    rw [digs_lt (by omega), Lib.decDigits, dif_pos (by omega), dch, if_pos (by omega)]
  | succ k ih =>
    intro n h
    by_cases hn : n < 10
    · rw [digs_lt hn, Lib.decDigits, dif_pos hn, dch, if_pos hn]
    · rw [digs_ge (by omega) (by omega), Lib.decDigits, dif_neg hn, ih (n / 10) (by omega), dch, if_pos (by omega)]
end Go.Proofs.YtebheehjhnaklaaGreatDoor
namespace Go.Proofs.YtebheehjhnaklaaGreatDoor
open Go.RowKit
theorem wrap_i64 (n : Int) : IntKind.i64.wrap n = wrap64 n := by rw [IntKind.wrap_i64]; unfold wrap64; rfl
/-- exclusive or of numbers that are not negative is one -/
theorem xor_ok {x y : Int} (hx : 0 ≤ x) (hx' : x < 4611686018427387904) (hy : 0 ≤ y) (hy' : y < 4611686018427387904) :
    0 ≤ bits .xor .i64 x y ∧ bits .xor .i64 x y < 4611686018427387904 := by
  obtain ⟨a, rfl⟩ := Int.eq_ofNat_of_zero_le hx
  obtain ⟨b, rfl⟩ := Int.eq_ofNat_of_zero_le hy
  have hlt : a ^^^ b < 2 ^ 62 := Nat.xor_lt_two_pow (by omega) (by omega)
  have h1 : (BitVec.ofInt 64 (a : Int)).toNat = a := by
    rw [BitVec.ofInt_natCast, BitVec.toNat_ofNat]; exact Nat.mod_eq_of_lt (by omega)
  have h2 : (BitVec.ofInt 64 (b : Int)).toNat = b := by
    rw [BitVec.ofInt_natCast, BitVec.toNat_ofNat]; exact Nat.mod_eq_of_lt (by omega)
  have e : bits .xor .i64 (a : Int) (b : Int) = wrap64 ((a ^^^ b : Nat) : Int) := by
    show IntKind.i64.wrap ((BitVec.ofInt 64 (a : Int) ^^^ BitVec.ofInt 64 (b : Int)).toNat : Int) = _
    rw [BitVec.toNat_xor, h1, h2, wrap_i64]
  rw [e, show wrap64 ((a ^^^ b : Nat) : Int) = ((a ^^^ b : Nat) : Int) from by unfold wrap64; omega]
  omega
/-- only block R of the old ones may have turned -/
structure Kp (R B : Nat) (w w' : World) : Prop where
  os : w'.os = w.os
  tape : w'.tape = w.tape
  output : w'.output = w.output
  size : w.heap.size ≤ w'.heap.size
  block : ∀ k, k < B → k ≠ R → w'.heap[k]? = w.heap[k]?
  froz : ∀ o, w'.frozen? ⟨R, o, none⟩ = w.frozen? ⟨R, o, none⟩
theorem Kp.below {R B : Nat} {w w' : World} (h : Kp R B w w') (hR : R ≤ B) : Below R w w' :=
  ⟨h.os, h.tape, h.output, h.size, fun k hk => h.block k (by omega) (by omega)⟩
theorem Kp.cell {R B : Nat} {w w' : World} (h : Kp R B w w') {b o : Nat} (hb : b < B) (hn : b ≠ R) : w'.cell? ⟨b, o, none⟩ = w.cell? ⟨b, o, none⟩ := by
  simp only [World.cell?, h.block b hb hn]
theorem Kp.frozen {R B : Nat} {w w' : World} (h : Kp R B w w') {b o : Nat} (hb : b < B) (hn : b ≠ R) : w'.frozen? ⟨b, o, none⟩ = w.frozen? ⟨b, o, none⟩ := by
  simp only [World.frozen?, h.block b hb hn]
/-- the cells of a text of bytes -/
def CodeAt (s : Option Addr) (len : Nat) (B : Nat) (w : World) : Prop :=
  len = 0 ∨ ∃ ab ao, ∃ X : Nat → Int, s = some ⟨ab, ao, none⟩ ∧ ab < B ∧ ∀ i, i < len → w.cell? ⟨ab, ao + i, none⟩ = some (.int .u8 (X i)) ∧ 0 ≤ X i ∧ X i ≤ 255
/-- a reader at block R, at most K numbers drawn -/
def Rd (R : Nat) (K : Int) (w : World) : Prop :=
  R < w.heap.size ∧ (∀ o, w.frozen? ⟨R, o, none⟩ = false) ∧ ∃ (s : Option Addr) (len cap : Nat) (p : Int), w.cell? ⟨R, 0, none⟩ = some (.slice s len cap) ∧ w.cell? ⟨R, 1, none⟩ = some (.int .i64 p) ∧ 0 ≤ p ∧ p ≤ K ∧ len ≤ 2000 ∧ CodeAt s len R w
theorem Rd.mono {R : Nat} {K K' : Int} {w : World} (h : Rd R K w) (hk : K ≤ K') : Rd R K' w := by
  obtain ⟨a, b, s, len, cap, p, c, d, e, f, g, i⟩ := h
  exact ⟨a, b, s, len, cap, p, c, d, e, by omega, g, i⟩
theorem CodeAt.keep {s : Option Addr} {len B : Nat} {w w' : World} (h : CodeAt s len B w) (hc : ∀ b o, b < B → w'.cell? ⟨b, o, none⟩ = w.cell? ⟨b, o, none⟩) : CodeAt s len B w' := by
  rcases h with h | ⟨ab, ao, X, h1, h2, h3⟩
  · exact .inl h
  · exact .inr ⟨ab, ao, X, h1, h2, fun i hi => by rw [hc _ _ h2]; exact h3 i hi⟩
theorem CodeAt.wide {s : Option Addr} {len B B' : Nat} {w : World} (h : CodeAt s len B w) (hb : B ≤ B') : CodeAt s len B' w := by
  rcases h with h | ⟨ab, ao, X, h1, h2, h3⟩
  · exact .inl h
  · exact .inr ⟨ab, ao, X, h1, by omega, h3⟩
theorem CodeAt.cut {s : Option Addr} {len len' B : Nat} {w : World} (h : CodeAt s len B w) (hl : len' ≤ len) : CodeAt s len' B w := by
  rcases h with h' | ⟨ab, ao, X, h1, h2, h3⟩
  · exact .inl (by omega)
  · exact .inr ⟨ab, ao, X, h1, h2, fun i hi => h3 i (by omega)⟩
/-- a reader that nobody has touched since -/
theorem Rd.keep {R : Nat} {K : Int} {w w' : World} (h : Rd R K w) (hs : w.heap.size ≤ w'.heap.size) (hc : ∀ b o, b ≤ R → w'.cell? ⟨b, o, none⟩ = w.cell? ⟨b, o, none⟩) (hf : ∀ o, w'.frozen? ⟨R, o, none⟩ = w.frozen? ⟨R, o, none⟩) : Rd R K w' := by
  obtain ⟨a, b, s, len, cap, p, c, d, e, f, g, i⟩ := h
  exact ⟨by omega, fun o => (hf o).trans (b o), s, len, cap, p, (hc _ _ (Nat.le_refl _)).trans c, (hc _ _ (Nat.le_refl _)).trans d, e, f, g, i.keep fun b o hb => hc b o (by omega)⟩
theorem Rd.carry {R : Nat} {K : Int} {w w' : World} (h : Rd R K w) (hb : Below w.heap.size w w') : Rd R K w' :=
  have hR := h.1
  h.keep hb.size (fun b o hle => hb.cell (p := ⟨b, o, none⟩) (by simp only; omega)) (fun o => hb.frozen (p := ⟨R, o, none⟩) hR)
theorem Rd.up {R : Nat} {K : Int} {w : World} (h : Rd R K w) (x : Obj) : Rd R K (w.alloc x) := h.carry ((Below.refl _ _).alloc (Nat.le_refl _) _)
theorem Rd.drew {R : Nat} {K : Int} {w : World} (h : Rd R K w) : Rd R K w.drew := h
/-- a store into a later block -/
theorem Rd.set {R : Nat} {K : Int} {w : World} (h : Rd R K w) {b o : Nat} (hb : R < b) (v : Value) : Rd R K (w.setCell ⟨b, o, none⟩ v) :=
  have h0 : Below b w (w.setCell ⟨b, o, none⟩ v) := Below.setCell (p := ⟨b, o, none⟩) (Below.refl b w) (Nat.le_refl _) v
  h.keep h0.size (fun b' o' hle => h0.cell (p := ⟨b', o', none⟩) (by simp only; omega)) (fun o' => h0.frozen (p := ⟨R, o', none⟩) hb)

theorem Rd.new {s : Option Addr} {len cap : Nat} {w : World} (h : CodeAt s len w.heap.size w) (hl : len ≤ 2000) : Rd w.heap.size 0 (w.alloc (.cells #[.slice s len cap, .int .i64 0] 106)) :=
  have hb : Below w.heap.size w (w.alloc (.cells #[.slice s len cap, .int .i64 0] 106)) := (Below.refl _ _).alloc (Nat.le_refl _) _
  ⟨by simp, fun o => by simp [go_sem], s, len, cap, 0, by simp [go_sem], by simp [go_sem], by omega, by omega, hl, h.keep fun b o hlt => hb.cell (p := ⟨b, o, none⟩) hlt⟩
set_option maxHeartbeats 1000000 in
theorem newReader_any (s : Option Addr) (len cap : Nat) (w : World) (h : CodeAt s len w.heap.size w) (hcap : len ≤ cap) :
    Calls Tryz.prog 40 #[.slice s len cap] w fun r w' => ∃ R, r = .returned (.pointer (some ⟨R, 0, none⟩)) ∧ w.heap.size ≤ R ∧ Rd R 0 w' ∧ Below w.heap.size w w' := by
  by_cases hl : 2000 < len
  · rcases h with h | ⟨ab, ao, X, rfl, h2, h3⟩
    · omega
    have hr := Rd.new (cap := cap) (CodeAt.cut (len' := 2000) (Or.inr ⟨ab, ao, X, rfl, h2, h3⟩) (by omega)) (by omega)
    go_enter Tryz.func40, Tryz.ntmps40
    go_wp2
    go_ret
    exact ⟨w.heap.size, rfl, Nat.le_refl _, hr, (by repeat (first | with_reducible exact Below.refl _ _ | with_reducible assumption | with_reducible refine Below.setCell ?_ (by first | omega | (simp; done) | (simp <;> omega)) _ | with_reducible refine below_drewN ?_ _ | with_reducible refine Below.drew ?_ | with_reducible refine Below.alloc ?_ (by first | omega | (simp; done) | (simp <;> omega)) _))⟩
  · have hr := Rd.new (cap := cap) h (by omega)
    go_enter Tryz.func40, Tryz.ntmps40
    go_wp2
    go_ret
    exact ⟨w.heap.size, rfl, Nat.le_refl _, hr, (by repeat (first | with_reducible exact Below.refl _ _ | with_reducible assumption | with_reducible refine Below.setCell ?_ (by first | omega | (simp; done) | (simp <;> omega)) _ | with_reducible refine below_drewN ?_ _ | with_reducible refine Below.drew ?_ | with_reducible refine Below.alloc ?_ (by first | omega | (simp; done) | (simp <;> omega)) _))⟩
/-- what a draw leaves: the counter turned -/
theorem pick_after {R : Nat} {K p : Int} {s : Option Addr} {len cap : Nat} {w : World} (hR : R < w.heap.size) (hf : ∀ o, w.frozen? ⟨R, o, none⟩ = false) (h0 : w.cell? ⟨R, 0, none⟩ = some (.slice s len cap)) (h1 : w.cell? ⟨R, 1, none⟩ = some (.int .i64 p))
    (hp0 : 0 ≤ p) (hp1 : p ≤ K) (hl : len ≤ 2000) (hc : CodeAt s len R w) :
    Rd R (K + 1) (w.setCell ⟨R, 1, none⟩ (.int .i64 (p + 1))) ∧ Kp R w.heap.size w (w.setCell ⟨R, 1, none⟩ (.int .i64 (p + 1))) := by
  have h0b : Below R w (w.setCell ⟨R, 1, none⟩ (.int .i64 (p + 1))) := Below.setCell (p := ⟨R, 1, none⟩) (Below.refl R w) (Nat.le_refl _) _
  refine ⟨⟨?_, fun o => ?_, s, len, cap, p + 1, ?_, ?_, by omega, by omega, hl, hc.keep fun b o hb => h0b.cell (p := ⟨b, o, none⟩) hb⟩, ⟨rfl, rfl, rfl, h0b.size, fun k hk hn => Below.heap_setCell _ _ _ _ hn, fun o => set_frozen _ _ _ _ _⟩⟩
  · have := h0b.size; omega
  · rw [set_frozen]; exact hf o
  · simp [go_sem, h0]
  · simp [go_sem, h1]
theorem Rd.drewN {R : Nat} {K : Int} {w : World} (h : Rd R K w) (n : Nat) : Rd R K (w.drewN n) := h
theorem Kp.drewN {R B : Nat} {a w : World} (h : Kp R B a w) (n : Nat) : Kp R B a (w.drewN n) := ⟨h.os, h.tape, h.output, h.size, h.block, h.froz⟩
set_option maxHeartbeats 1000000 in
theorem pick_any (R : Nat) (n : Int) (K : Int) (w : World) (h : Rd R K w) (hK : K ≤ 1000) :
    Calls Tryz.prog 70 #[.pointer (some ⟨R, 0, none⟩), .int .i64 n] w fun r w' => (∃ x, r = .returned (.int .i64 x) ∧ 0 ≤ x ∧ (1 ≤ n → x < n)) ∧ Rd R (K + 1) w' ∧ Kp R w.heap.size w w' := by
  obtain ⟨hR, hf, s, len, cap, p, h0, h1, hp0, hp1, hl, hc⟩ := h
  have HA := Lib.hid (pick_after hR hf h0 h1 hp0 hp1 hl hc)
  by_cases hz : n < 1 ∨ len = 0
  · rcases hz with hz | hz
    · go_enter Tryz.func70, Tryz.ntmps70
      go_wp2
      all_goals go_ret
      all_goals exact ⟨⟨0, rfl, by omega, by omega⟩, HA.out⟩
    · subst hz
      go_enter Tryz.func70, Tryz.ntmps70
      go_wp2
      all_goals go_ret
      all_goals exact ⟨⟨0, rfl, by omega, by omega⟩, HA.out⟩
  rcases hc with hc | ⟨ab, ao, X, rfl, hab, hX⟩
  · omega
  by_cases hpl : p < len
  · have hne : ab ≠ R := by omega
    have gx := (hX p.toNat (by omega)).1
    have gb := (hX p.toNat (by omega)).2
    clear hX
    generalize X p.toNat = x at gx gb
    have g1 : ¬ n < 1 := by omega
    have g2 : ¬ len = 0 := by omega
    go_enter Tryz.func70, Tryz.ntmps70
    go_wp2
    go_ret
    first | exact ⟨⟨_, rfl, Int.emod_nonneg _ (by omega), fun _ => Int.emod_lt_of_pos _ (by omega)⟩, HA.out⟩ | exact ⟨⟨_, rfl, Int.emod_nonneg _ (by omega), Int.emod_lt_of_pos _ (by omega)⟩, HA.out⟩
  · have hne : ab ≠ R := by omega
    have g1 : ¬ n < 1 := by omega
    have g2 : ¬ len = 0 := by omega
    have tm : ∀ q : Int, 0 ≤ q → 0 ≤ q.tmod len ∧ q.tmod len < len := fun q hq => by
      rw [Int.tmod_eq_emod_of_nonneg hq]
      exact ⟨Int.emod_nonneg q (by omega), Int.emod_lt_of_pos q (by omega)⟩
    obtain ⟨c1, c1'⟩ := tm p hp0
    obtain ⟨c2, c2'⟩ := tm (p * 7 + 3) (by omega)
    clear tm
    generalize e1 : p.tmod len = i1 at c1 c1'
    generalize e2 : (p * 7 + 3).tmod len = i2 at c2 c2'
    obtain ⟨k1, b1, b1'⟩ := hX i1.toNat (by omega)
    obtain ⟨k2, b2, b2'⟩ := hX i2.toNat (by omega)
    clear hX
    generalize X i1.toNat = x1 at k1 b1 b1'
    generalize X i2.toNat = x2 at k2 b2 b2'
    have wr : ∀ q : Int, 0 ≤ q → q ≤ 1000000000 → IntKind.i64.wrap q = q := fun q h1 h2 => by rw [wrap_i64]; unfold wrap64; omega
    have d0 : 0 ≤ p.tdiv len ∧ p.tdiv len ≤ p := by
      rw [Int.tdiv_eq_ediv_of_nonneg hp0]
      exact ⟨Int.ediv_nonneg hp0 (by omega), Int.ediv_le_self _ hp0⟩
    generalize e3 : p.tdiv len = d at d0
    have w1 := wr (p * 7) (by omega) (by omega)
    have w2 := wr (p * 7 + 3) (by omega) (by omega)
    generalize f1 : x1 * 131 = y1 at *
    generalize f2 : x2 * 1117 = y2 at *
    have w3 := wr y1 (by omega) (by omega)
    have w4 := wr y2 (by omega) (by omega)
    generalize f3 : y1 + y2 = y3 at *
    have w5 := wr y3 (by omega) (by omega)
    generalize f4 : p * 29 = y4 at *
    have w6 := wr y4 (by omega) (by omega)
    generalize f5 : y3 + y4 = y5 at *
    have w7 := wr y5 (by omega) (by omega)
    generalize f6 : d * 53 = y6 at *
    have w8 := wr y6 (by omega) (by omega)
    generalize f7 : y5 + y6 = y7 at *
    have w9 := wr y7 (by omega) (by omega)
    have y0 : 0 ≤ y7 ∧ y7 ≤ 1000000000 := by omega
    have xz := xor_ok (x := y7) (y := y7 / 64) (by omega) (by omega) (by omega) (by omega)
    generalize f8 : bits .xor .i64 y7 (y7 / 64) = z at xz
    obtain ⟨z0, z1⟩ := xz
    clear wr
    go_enter Tryz.func70, Tryz.ntmps70
    go_wp2
    go_quiet (fail)
    go_wp2
    go_ret
    exact ⟨⟨_, rfl, Int.emod_nonneg _ (by omega), fun _ => Int.emod_lt_of_pos _ (by omega)⟩, HA.out.1.drewN _, HA.out.2.drewN _⟩
end Go.Proofs.YtebheehjhnaklaaGreatDoor
namespace Go.Proofs.YtebheehjhnaklaaGreatDoor
open Go.RowKit
/-- a list of numbers at block b -/
def Nums (b len : Nat) (w : World) : Prop := b < w.heap.size ∧ ∀ i, i < len → ∃ y, w.cell? ⟨b, i, none⟩ = some (.int .i64 y)
theorem Nums.keep {b len : Nat} {w w' : World} (h : Nums b len w) (hs : w.heap.size ≤ w'.heap.size) (hc : ∀ o, w'.cell? ⟨b, o, none⟩ = w.cell? ⟨b, o, none⟩) : Nums b len w' :=
  ⟨by have := h.1; omega, fun i hi => by rw [hc]; exact h.2 i hi⟩
theorem Nums.new (w : World) (l : Array Value) (t : TypeId) (len : Nat) (hl : ∀ v ∈ l.toList, ∃ y, v = Value.int .i64 y) (hs : l.size = len) : Nums w.heap.size len (w.alloc (.cells l t)) := by
  subst hs
  refine ⟨by simp, fun i hi => ?_⟩
  have : (w.alloc (.cells l t)).cell? ⟨w.heap.size, i, none⟩ = l[i]? := by simp [go_sem]
  rw [this, Array.getElem?_eq_getElem hi]
  obtain ⟨y, hy⟩ := hl l[i] (by simp)
  exact ⟨y, by rw [hy]⟩
theorem Nums.up {b len : Nat} {w : World} (h : Nums b len w) (x : Obj) : Nums b len (w.alloc x) :=
  have hb : Below w.heap.size w (w.alloc x) := (Below.refl _ _).alloc (Nat.le_refl _) _
  h.keep hb.size fun o => hb.cell (p := ⟨b, o, none⟩) h.1
theorem Nums.kp {b len R : Nat} {w w' : World} (h : Nums b len w) (hk : Kp R w.heap.size w w') (hn : b ≠ R) : Nums b len w' :=
  h.keep hk.size fun _ => hk.cell h.1 hn
theorem Kp.refl (R B : Nat) (w : World) : Kp R B w w := ⟨rfl, rfl, rfl, Nat.le_refl _, fun _ _ _ => rfl, fun _ => rfl⟩
theorem Kp.step {R : Nat} {a b c : World} (h : Kp R a.heap.size a b) (k : Kp R b.heap.size b c) : Kp R a.heap.size a c :=
  ⟨k.os.trans h.os, k.tape.trans h.tape, k.output.trans h.output, Nat.le_trans h.size k.size, fun i hi hn => (k.block i (Nat.lt_of_lt_of_le hi h.size) hn).trans (h.block i hi hn), fun o => (k.froz o).trans (h.froz o)⟩
theorem Kp.of_below {R : Nat} {a b : World} (h : Below a.heap.size a b) (hR : R < a.heap.size) : Kp R a.heap.size a b :=
  ⟨h.os, h.tape, h.output, h.size, fun k hk _ => h.block k hk, fun o => h.frozen (p := ⟨R, o, none⟩) hR⟩
theorem Kp.up {R : Nat} {a b : World} (h : Kp R a.heap.size a b) (hR : R < b.heap.size) (x : Obj) : Kp R a.heap.size a (b.alloc x) :=
  h.step (Kp.of_below ((Below.refl _ _).alloc (Nat.le_refl _) _) hR)
theorem Kp.set {R : Nat} {a b : World} (h : Kp R a.heap.size a b) {g : Nat} (hg : a.heap.size ≤ g) (o : Nat) (v : Value) : Kp R a.heap.size a (b.setCell ⟨g, o, none⟩ v) :=
  have h0 : Below g b (b.setCell ⟨g, o, none⟩ v) := Below.setCell (p := ⟨g, o, none⟩) (Below.refl g b) (Nat.le_refl _) v
  ⟨h.os, h.tape, h.output, Nat.le_trans h.size h0.size, fun k hk hn => (h0.block k (by omega)).trans (h.block k hk hn), fun o' => (set_frozen _ _ _ _ _).trans (h.froz o')⟩
set_option maxHeartbeats 1000000 in
theorem one_any (R b len cap : Nat) (K : Int) (w : World) (h : Rd R K w) (hK : K ≤ 1000) (hn : b ≠ R) (hl : Nums b len w) (h1 : 1 ≤ len) :
    Calls Tryz.prog 42 #[.pointer (some ⟨R, 0, none⟩), .slice (some ⟨b, 0, none⟩) len cap] w fun r w' => (∃ y, r = .returned (.int .i64 y)) ∧ Rd R (K + 1) w' ∧ Kp R w.heap.size w w' := by
  go_enter Tryz.func42, Tryz.ntmps42
  go_wp2_with (go_at_call 70; refine (pick_any R len K w h hK).mono ?_; rintro r w1 ⟨⟨x, rfl, hx0, hx1⟩, hr, hk⟩; have hx2 := hx1 (by omega); (obtain ⟨y, hy⟩ := (hl.kp hk hn).2 x.toNat (by omega)))
  go_ret
  exact ⟨⟨_, rfl⟩, by assumption, by assumption⟩
theorem Kp.drew {R B : Nat} {a w : World} (h : Kp R B a w) : Kp R B a w.drew := ⟨h.os, h.tape, h.output, h.size, h.block, h.froz⟩
theorem CodeAt.up {s : Option Addr} {len : Nat} {w : World} (h : CodeAt s len w.heap.size w) (x : Obj) : CodeAt s len (w.alloc x).heap.size (w.alloc x) :=
  have hb : Below w.heap.size w (w.alloc x) := (Below.refl _ _).alloc (Nat.le_refl _) _
  (h.keep fun b o hlt => hb.cell (p := ⟨b, o, none⟩) hlt).wide hb.size
theorem below_kp {R : Nat} {w wa wb : World} (h : Below w.heap.size w wa) (hk : Kp R wa.heap.size wa wb) (hR : w.heap.size ≤ R) (hR2 : R ≤ wa.heap.size) : Below w.heap.size w wb :=
  h.trans ((hk.below hR2).mono hR)
/-- a list of texts at block b -/
def Texts (b len : Nat) (w : World) : Prop := b < w.heap.size ∧ ∀ i, i < len → ∃ y, w.cell? ⟨b, i, none⟩ = some (.string y)
theorem Texts.keep {b len : Nat} {w w' : World} (h : Texts b len w) (hs : w.heap.size ≤ w'.heap.size) (hc : ∀ o, w'.cell? ⟨b, o, none⟩ = w.cell? ⟨b, o, none⟩) : Texts b len w' :=
  ⟨by have := h.1; omega, fun i hi => by rw [hc]; exact h.2 i hi⟩
theorem Texts.new (w : World) (l : Array Value) (t : TypeId) (len : Nat) (hl : ∀ v ∈ l.toList, ∃ y, v = Value.string y) (hs : l.size = len) : Texts w.heap.size len (w.alloc (.cells l t)) := by
  subst hs
  refine ⟨by simp, fun i hi => ?_⟩
  have : (w.alloc (.cells l t)).cell? ⟨w.heap.size, i, none⟩ = l[i]? := by simp [go_sem]
  rw [this, Array.getElem?_eq_getElem hi]
  obtain ⟨y, hy⟩ := hl l[i] (by simp)
  exact ⟨y, by rw [hy]⟩
theorem Texts.kp {b len R : Nat} {w w' : World} (h : Texts b len w) (hk : Kp R w.heap.size w w') (hn : b ≠ R) : Texts b len w' :=
  h.keep hk.size fun _ => hk.cell h.1 hn
set_option maxHeartbeats 1000000 in
theorem of_any (R b len cap : Nat) (K : Int) (w : World) (h : Rd R K w) (hK : K ≤ 1000) (hn : b ≠ R) (hl : Texts b len w) (h1 : 1 ≤ len) :
    Calls Tryz.prog 72 #[.pointer (some ⟨R, 0, none⟩), .slice (some ⟨b, 0, none⟩) len cap] w fun r w' => (∃ y, r = .returned (.string y)) ∧ Rd R (K + 1) w' ∧ Kp R w.heap.size w w' := by
  go_enter Tryz.func72, Tryz.ntmps72
  go_wp2_with (go_at_call 70; refine (pick_any R len K w h hK).mono ?_; rintro r w1 ⟨⟨x, rfl, hx0, hx1⟩, hr, hk⟩; have hx2 := hx1 (by omega); (obtain ⟨y, hy⟩ := (hl.kp hk hn).2 x.toNat (by omega)))
  go_ret
  exact ⟨⟨_, rfl⟩, by assumption, by assumption⟩
end Go.Proofs.YtebheehjhnaklaaGreatDoor
namespace Go.Proofs.YtebheehjhnaklaaGreatDoor
open Go.RowKit
/-- a list of texts at block b, each of which is p -/
def TextsP (p : ByteArray → Prop) (b len : Nat) (w : World) : Prop := b < w.heap.size ∧ ∀ i, i < len → ∃ y, w.cell? ⟨b, i, none⟩ = some (.string y) ∧ p y
theorem TextsP.keep {p : ByteArray → Prop} {b len : Nat} {w w' : World} (h : TextsP p b len w) (hs : w.heap.size ≤ w'.heap.size) (hc : ∀ o, w'.cell? ⟨b, o, none⟩ = w.cell? ⟨b, o, none⟩) : TextsP p b len w' :=
  ⟨by have := h.1; omega, fun i hi => by rw [hc]; exact h.2 i hi⟩
theorem TextsP.new (p : ByteArray → Prop) (w : World) (l : Array Value) (t : TypeId) (len : Nat) (hl : ∀ v ∈ l.toList, ∃ y, v = Value.string y ∧ p y) (hs : l.size = len) : TextsP p w.heap.size len (w.alloc (.cells l t)) := by
  subst hs
  refine ⟨by simp, fun i hi => ?_⟩
  have : (w.alloc (.cells l t)).cell? ⟨w.heap.size, i, none⟩ = l[i]? := by simp [go_sem]
  rw [this, Array.getElem?_eq_getElem hi]
  obtain ⟨y, hy, hp⟩ := hl l[i] (by simp)
  exact ⟨y, by rw [hy], hp⟩
theorem TextsP.kp {p : ByteArray → Prop} {b len R : Nat} {w w' : World} (h : TextsP p b len w) (hk : Kp R w.heap.size w w') (hn : b ≠ R) : TextsP p b len w' :=
  h.keep hk.size fun _ => hk.cell h.1 hn
set_option maxHeartbeats 1000000 in
theorem of_p (p : ByteArray → Prop) (R b len cap : Nat) (K : Int) (w : World) (h : Rd R K w) (hK : K ≤ 1000) (hn : b ≠ R) (hl : TextsP p b len w) (h1 : 1 ≤ len) :
    Calls Tryz.prog 72 #[.pointer (some ⟨R, 0, none⟩), .slice (some ⟨b, 0, none⟩) len cap] w fun r w' => (∃ y, r = .returned (.string y) ∧ p y) ∧ Rd R (K + 1) w' ∧ Kp R w.heap.size w w' := by
  go_enter Tryz.func72, Tryz.ntmps72
  go_wp2_with (go_at_call 70; refine (pick_any R len K w h hK).mono ?_; rintro r w1 ⟨⟨x, rfl, hx0, hx1⟩, hr, hk⟩; have hx2 := hx1 (by omega); (obtain ⟨y, hy, hp⟩ := (hl.kp hk hn).2 x.toNat (by omega)))
  go_ret
  exact ⟨⟨_, rfl, hp⟩, by assumption, by assumption⟩
theorem mem_one {a : ByteArray} {l : List Value} {p : ByteArray → Prop} (ha : p a) (h : ∀ v ∈ l, ∃ y, v = Value.string y ∧ p y) : ∀ v ∈ (Value.string a :: l), ∃ y, v = Value.string y ∧ p y := by
  intro v hv
  rcases List.mem_cons.1 hv with rfl | hv
  · exact ⟨_, rfl, ha⟩
  · exact h v hv
theorem mem_nil {p : ByteArray → Prop} : ∀ v ∈ ([] : List Value), ∃ y, v = Value.string y ∧ p y := fun v hv => by cases hv
end Go.Proofs.YtebheehjhnaklaaGreatDoor
