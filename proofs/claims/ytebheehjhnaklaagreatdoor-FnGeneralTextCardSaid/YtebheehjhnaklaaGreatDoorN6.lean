import Derived.Test.YtebheehjhnaklaaGreatDoorN3
import Derived.Test.YtebheehjhnaklaaGreatDoorY7
namespace Go.Proofs.YtebheehjhnaklaaGreatDoor
open Go.RowKit
theorem mBn {fn : FuncId} {args : Array Value} {v : Value} {w : World} (h : Calls Tryz.prog fn args w fun r w' => r = .returned v ∧ w = w') : Calls Tryz.prog fn args w fun r w' => r = .returned v ∧ Below w.heap.size w w' := h.mono (by rintro r w1 ⟨rfl, rfl⟩; exact ⟨rfl, Below.refl _ _⟩)
theorem ret_strN {a b : ByteArray} (h : a = b) : Ending.returned (.string a) = .returned (.string b) := by rw [h]
theorem cat_lN (a b : List UInt8) : (⟨a.toArray⟩ : ByteArray) ++ ⟨b.toArray⟩ = ⟨(a ++ b).toArray⟩ := by
  apply ByteArray.ext
  rw [ByteArray.data_append]
  simp
theorem tdivN (a b : Nat) : ((a : Int)).tdiv b = ((a / b : Nat) : Int) := by rw [Int.tdiv_eq_ediv_of_nonneg (by omega)]; rfl
theorem tmodN (a b : Nat) : ((a : Int)).tmod b = ((a % b : Nat) : Int) := by rw [Int.tmod_eq_emod_of_nonneg (by omega)]; rfl
set_option maxRecDepth 100000 in
set_option maxHeartbeats 4000000 in
theorem inBaseS_low (b : Nat) (h2 : 2 ≤ b) (h16 : b ≤ 16) : ∀ (k n : Nat), n ≤ k → n ≤ 999999999999 → ∀ w : World,
    Calls Tryz.prog 191 #[.int .i64 n, .int .i64 b, .bool false] w fun r w' => r = .returned (.string ⟨(digs false b n).toArray⟩) ∧ Below w.heap.size w w' := by
  intro k
  induction k with
  | zero =>
    intro n hk hm w
    obtain rfl : n = 0 := by omega
    have kd := fun W => digitOfS_low 0 (by omega) W
    rw [digs_lt (by omega)]
    have i1 : (0 : Int) < b := by omega
    have e : (⟨#[dch false 0]⟩ : ByteArray) = ⟨[dch false 0].toArray⟩ := rfl
    rw [e] at kd
    clear e
    generalize [dch false 0] = D at *
    have KD := Lib.hid kd
    clear kd
    go_enter Tryz.func191, Tryz.ntmps191
    go_wp2_with (go_at_call 243; (with_reducible refine Calls.mono (KD.out _) ?_); rintro r w1 ⟨rfl, rfl⟩)
    go_ret
    exact ⟨rfl, Below.refl _ _⟩
  | succ k ih =>
    intro n hk hm w
    by_cases h : n < b
    · have kd := fun W => digitOfS_low n (by omega) W
      rw [digs_lt h]
      have i1 : (n : Int) < b := by omega
      have e : (⟨#[dch false n]⟩ : ByteArray) = ⟨[dch false n].toArray⟩ := rfl
      rw [e] at kd
      clear e
      generalize [dch false n] = D at *
      have KD := Lib.hid kd
      clear kd
      clear ih
      go_enter Tryz.func191, Tryz.ntmps191
      go_wp2_with (go_at_call 243; (with_reducible refine Calls.mono (KD.out _) ?_); rintro r w1 ⟨rfl, rfl⟩)
      go_ret
      exact ⟨rfl, Below.refl _ _⟩
    · have hd := div_lt_of h2 (show b ≤ n by omega)
      have hr := Nat.mod_lt n (show 0 < b by omega)
      have k1 := fun W => ih (n / b) (by omega) (by omega) W
      have k2 := fun W => mBn (digitOfS_low (n % b) (by omega) W)
      have l1 := digs_40 (up := false) h2 (show n / b ≤ 999999999999 by omega)
      have i1 : ¬ (n : Int) < b := by omega
      have e1 := tdivN n b
      have e2 := tmodN n b
      rw [digs_ge h2 (by omega)]
      have e : (⟨#[dch false (n % b)]⟩ : ByteArray) = ⟨[dch false (n % b)].toArray⟩ := rfl
      rw [e] at k2
      clear e ih
      have l2 : [dch false (n % b)].length = 1 := rfl
      have hb0 : ¬ b = 0 := by omega
      generalize [dch false (n % b)] = D at *
      generalize digs false b (n / b) = E at *
      generalize n / b = q at *
      generalize n % b = m at *
      have w1 : IntKind.i64.wrap (q : Int) = q := by rw [IntKind.wrap_i64]; omega
      have w2 : IntKind.i64.wrap (m : Int) = m := by rw [IntKind.wrap_i64]; omega
      have hlen : ¬ (9223372036854775807 < E.length + 1) := by omega
      have K1 := Lib.hid k1; have K2 := Lib.hid k2
      clear k1 k2
      have hB := Below.refl w.heap.size w
      go_enter Tryz.func191, Tryz.ntmps191
      go_wp2
      refine wp_region_since (by kernel_rfl) (by kernel_rfl) ?_
      repeat (quiet_step (first | (go_at_call 191; with_reducible exact Calls.since_of (K1.out _)) | (go_at_call 243; with_reducible exact Calls.since_of (K2.out _))))
      refine wpQuiet_nil ?_
      intro w_ hw_
      obtain ⟨⟨w1, hb⟩, hw2⟩ := hw_
      have hw3 : w1 = w_ := hw2.symm
      clear hw2
      subst hw3
      replace hB := hB.trans (hb.mono hB.size)
      have hz := hb.size
      go_wp2
      go_ret
      exact ⟨ret_strN (cat_lN _ _), hB⟩
end Go.Proofs.YtebheehjhnaklaaGreatDoor
namespace Go.Proofs.YtebheehjhnaklaaGreatDoor
open Go.RowKit
set_option maxRecDepth 100000 in
theorem isPow_yes (b : Nat) (h : b = 2 ∨ b = 4 ∨ b = 8 ∨ b = 16) (w : World) : Calls Tryz.prog 292 #[.int .i64 b] w fun r w' => r = .returned (.bool true) ∧ w = w' := by
  rcases h with rfl | rfl | rfl | rfl
  all_goals (
    go_enter Tryz.func292, Tryz.ntmps292
    go_wp2
    go_ret
    exact ⟨rfl, rfl⟩)
set_option maxRecDepth 100000 in
theorem isPow_no (b : Nat) (h : b = 3 ∨ b = 5 ∨ b = 6 ∨ b = 7 ∨ b = 9 ∨ b = 11 ∨ b = 12 ∨ b = 13 ∨ b = 14 ∨ b = 15) (w : World) : Calls Tryz.prog 292 #[.int .i64 b] w fun r w' => r = .returned (.bool false) ∧ w = w' := by
  rcases h with rfl | rfl | rfl | rfl | rfl | rfl | rfl | rfl | rfl | rfl
  all_goals (
    go_enter Tryz.func292, Tryz.ntmps292
    go_wp2
    go_ret
    exact ⟨rfl, rfl⟩)
/-- the tail of a buffer of 65 bytes -/
structure Buf (g : Nat) (T : List UInt8) (w : World) : Prop where
  lt : g < w.heap.size
  fz : ∀ o, w.frozen? ⟨g, o, none⟩ = false
  old : ∀ o, o < 65 → ∃ v, w.cell? ⟨g, o, none⟩ = some v
  len : T.length ≤ 65
  tl : ∀ (j : Nat) x, T[j]? = some x → w.cell? ⟨g, 65 - T.length + j, none⟩ = some (.int .u8 (x.toNat : Int))
theorem Buf.push {g m : Nat} {T : List UInt8} {w : World} (h : Buf g T w) (hm : m + 1 + T.length = 65) (c : UInt8) : Buf g (c :: T) (w.setCell ⟨g, m, none⟩ (.int .u8 (c.toNat : Int))) := by
  have hb : Below g w (w.setCell ⟨g, m, none⟩ (.int .u8 (c.toNat : Int))) := Below.setCell (p := ⟨g, m, none⟩) (Below.refl g w) (Nat.le_refl _) _
  have other : ∀ o, o ≠ m → (w.setCell ⟨g, m, none⟩ (.int .u8 (c.toNat : Int))).cell? ⟨g, o, none⟩ = w.cell? ⟨g, o, none⟩ := fun o ho =>
    World.cell?_setCell_other _ _ _ _ (fun e => ho (by simpa using (congrArg Addr.off e).symm))
  obtain ⟨v, hv⟩ := h.old m (by omega)
  have same : (w.setCell ⟨g, m, none⟩ (.int .u8 (c.toNat : Int))).cell? ⟨g, m, none⟩ = some (.int .u8 (c.toNat : Int)) := World.cell?_setCell_same _ _ _ hv
  refine ⟨by have := hb.size; have := h.lt; omega, fun o => by rw [set_frozen]; exact h.fz o, fun o ho => ?_, by simp; omega, fun j x hx => ?_⟩
  · by_cases e : o = m
    · subst e; exact ⟨_, same⟩
    · rw [other o e]; exact h.old o ho
  · cases j with
    | zero =>
      simp only [List.getElem?_cons_zero, Option.some.injEq] at hx
      subst hx
      rw [List.length_cons, show 65 - (T.length + 1) + 0 = m by omega]
      exact same
    | succ j =>
      simp only [List.getElem?_cons_succ] at hx
      rw [List.length_cons, show 65 - (T.length + 1) + (j + 1) = 65 - T.length + j by omega, other _ (by omega)]
      exact h.tl j x hx
theorem Tryz.zeros65 : (Tryz.zeroCells233).size = 65 := by kernel_rfl
theorem Buf.init (w : World) (t : TypeId) : Buf w.heap.size [] (w.alloc (.cells Tryz.zeroCells233 t)) := by
  refine ⟨by simp, fun o => by simp [go_sem], fun o ho => ?_, by simp, fun j x hx => by simp at hx⟩
  have : (w.alloc (.cells Tryz.zeroCells233 t)).cell? ⟨w.heap.size, o, none⟩ = (Tryz.zeroCells233)[o]? := by simp [go_sem]
  rw [this]
  exact ⟨_, Array.getElem?_eq_getElem (by rw [Tryz.zeros65]; exact ho)⟩
theorem Buf.cells {g k : Nat} {T : List UInt8} {w : World} (h : Buf g T w) (hk : k + T.length = 65) : ∀ j (hj : j < T.length), w.cell? ((⟨g, k, none⟩ : Addr).add j) = some (.int .u8 (T[j].toNat : Int)) := by
  intro j hj
  have := h.tl j T[j] (List.getElem?_eq_getElem hj)
  rw [add_none, show k + j = 65 - T.length + j by omega]
  exact this
/-- the digits' bytes -/
theorem lit_dch {r : Nat} (h : r < 16) : ((⟨#[48, 49, 50, 51, 52, 53, 54, 55, 56, 57, 97, 98, 99, 100, 101, 102, 103, 104, 105, 106, 107, 108, 109, 110, 111, 112, 113, 114, 115, 116, 117, 118, 119, 120, 121, 122]⟩ : ByteArray)[r]'(by show r < 36; omega)) = dch false r := by
  have hk : r = 0 ∨ r = 1 ∨ r = 2 ∨ r = 3 ∨ r = 4 ∨ r = 5 ∨ r = 6 ∨ r = 7 ∨ r = 8 ∨ r = 9 ∨ r = 10 ∨ r = 11 ∨ r = 12 ∨ r = 13 ∨ r = 14 ∨ r = 15 := by omega
  rcases hk with rfl | rfl | rfl | rfl | rfl | rfl | rfl | rfl | rfl | rfl | rfl | rfl | rfl | rfl | rfl | rfl <;> rfl
theorem u64_in {x : Int} (h0 : 0 ≤ x) (h1 : x < 18446744073709551616) : IntKind.u64.wrap x = x := by rw [IntKind.wrap_u64]; omega
theorem pow_room {u n : Nat} (hu : 1 ≤ u) (h : u * 2 ^ n ≤ 999999999999) : n ≤ 39 := by
  by_cases hn : n ≤ 39
  · exact hn
  · have : 2 ^ 40 ≤ 2 ^ n := Nat.pow_le_pow_right (by omega) (by omega)
    have := Nat.mul_le_mul hu this
    omega
theorem half_room {b u n : Nat} (h2 : 2 ≤ b) (h : u * 2 ^ n ≤ 999999999999) : u / b * 2 ^ (n + 1) ≤ 999999999999 := by
  refine Nat.le_trans ?_ h
  rw [Nat.pow_succ, Nat.mul_comm (2 ^ n) 2, ← Nat.mul_assoc]
  refine Nat.mul_le_mul_right _ ?_
  have h1 : u / b ≤ u / 2 := Nat.div_le_div_left h2 (by omega)
  omega
theorem slice65 (g k : Nat) (W : World) (hk : k < 65) : (Instr.sliceAt 233 (.pointer (some ⟨g, 0, none⟩)) (some (.int .i64 (k : Int))) none none).run Tryz.prog W = .ok (.slice (some ⟨g, k, none⟩) (65 - k) (65 - k)) W := by
  have hal : Tryz.prog.arrayLen 233 = 65 := by simp [Program.arrayLen, Tryz.underlying233]
  rw [run_sliceAt_array_l W 233 ⟨g, 0, none⟩ (by simp [Program.arrayLen, Program.elem, Tryz.underlying233]) .i64 (k : Int) (by omega) (by rw [hal]; omega)]
  go_simp
  omega
end Go.Proofs.YtebheehjhnaklaaGreatDoor
