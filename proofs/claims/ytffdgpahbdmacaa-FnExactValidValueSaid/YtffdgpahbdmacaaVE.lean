import Derived.Test.YtffdgpahbdmacaaVV
namespace Go.Proofs.Ytffdgpahbdmacaa
open Go.RowKit
/-- the cells of a value, as a later world has them -/
structure C6 (w : World) (g : Nat) (v0 v1 v2 v3 v4 v5 : Value) : Prop where
  c0 : w.cell? ⟨g, 0, none⟩ = some v0
  c1 : w.cell? ⟨g, 1, none⟩ = some v1
  c2 : w.cell? ⟨g, 2, none⟩ = some v2
  c3 : w.cell? ⟨g, 3, none⟩ = some v3
  c4 : w.cell? ⟨g, 4, none⟩ = some v4
  c5 : w.cell? ⟨g, 5, none⟩ = some v5
  fr : ∀ o, w.frozen? ⟨g, o, none⟩ = false
  lt : g < w.heap.size
theorem C6.new (V : World) (v0 v1 v2 v3 v4 v5 : Value) (t : TypeId) : C6 (V.alloc (.cells #[v0, v1, v2, v3, v4, v5] t)) V.heap.size v0 v1 v2 v3 v4 v5 := by
  refine ⟨?_, ?_, ?_, ?_, ?_, ?_, ?_, ?_⟩ <;> simp [go_sem]
theorem C6.carry {w w' : World} {g : Nat} {v0 v1 v2 v3 v4 v5 : Value} (h : C6 w g v0 v1 v2 v3 v4 v5) (hb : Below w.heap.size w w') : C6 w' g v0 v1 v2 v3 v4 v5 :=
  ⟨(hb.cell h.lt).trans h.c0, (hb.cell h.lt).trans h.c1, (hb.cell h.lt).trans h.c2, (hb.cell h.lt).trans h.c3, (hb.cell h.lt).trans h.c4, (hb.cell h.lt).trans h.c5, fun o => (hb.frozen h.lt).trans (h.fr o), Nat.lt_of_lt_of_le h.lt hb.size⟩
theorem toDec_any (n : Bool) (c e : Int) (w : World) :
    Calls Try.prog 72 #[.agg #[.bool n, .int .i64 c, .int .i64 e]] w fun r w' => r = .returned (.agg #[.bool n, .int .i64 c, .int .i64 e]) ∧ Below w.heap.size w w' := by
  go_enter Try.func72, Try.ntmps72
  go_wp2
  exact bodyPost_ret (v := .agg #[.bool n, .int .i64 c, .int .i64 e]) (by simp [results, Try.results72, go_sem]) rfl ⟨rfl, (by repeat (first | with_reducible exact Below.refl _ _ | with_reducible assumption | with_reducible refine Below.setCell ?_ (by first | omega | (simp; done) | (simp <;> omega)) _ | with_reducible refine below_drewN ?_ _ | with_reducible refine Below.drew ?_ | with_reducible refine Below.alloc ?_ (by first | omega | (simp; done) | (simp <;> omega)) _))⟩
theorem szValue_any (k i : Int) (n : Bool) (c e : Int) (x : ByteArray) (hx : x.size ≤ 9223372036854775807) (w : World) :
    Calls Try.prog 37 #[.agg #[.int .i64 k, .int .i64 i, .bool n, .int .i64 c, .int .i64 e, .string x], .int .i64 1048576] w fun r w' => r = .returned (.int .i64 (if x.size ≤ 1048576 then 1048576 - (x.size : Int) else -1)) ∧ Below w.heap.size w w' := by
  by_cases h : x.size ≤ 1048576
  · rw [if_pos h]
    have i1 : ¬ (1048576 - (x.size : Int) < 0) := by omega
    have i2 : (x.size : Int) ≤ 1048576 := by omega
    go_enter Try.func37, Try.ntmps37
    go_wp2
    go_ret
    exact ⟨rfl, (by repeat (first | with_reducible exact Below.refl _ _ | with_reducible assumption | with_reducible refine Below.setCell ?_ (by first | omega | (simp; done) | (simp <;> omega)) _ | with_reducible refine below_drewN ?_ _ | with_reducible refine Below.drew ?_ | with_reducible refine Below.alloc ?_ (by first | omega | (simp; done) | (simp <;> omega)) _))⟩
  · rw [if_neg h]
    have i1 : (1048576 - (x.size : Int) < 0) := by omega
    have i2 : 1048576 < (x.size : Int) := by omega
    go_enter Try.func37, Try.ntmps37
    go_wp2
    go_ret
    exact ⟨rfl, (by repeat (first | with_reducible exact Below.refl _ _ | with_reducible assumption | with_reducible refine Below.setCell ?_ (by first | omega | (simp; done) | (simp <;> omega)) _ | with_reducible refine below_drewN ?_ _ | with_reducible refine Below.drew ?_ | with_reducible refine Below.alloc ?_ (by first | omega | (simp; done) | (simp <;> omega)) _))⟩
set_option maxRecDepth 100000 in
set_option maxHeartbeats 4000000 in
theorem toValue_any (k i : Int) (n : Bool) (c e : Int) (x : ByteArray) (w : World) :
    Calls Try.prog 39 #[.agg #[.int .i64 k, .int .i64 i, .bool n, .int .i64 c, .int .i64 e, .string x]] w fun r w' => r = .returned (.agg #[.int .i64 k, .int .i64 i, .bool n, .int .i64 c, .int .i64 e, .string x]) ∧ Below w.heap.size w w' := by
  have k1 := fun W => toDec_any n c e W
  have K1 := Lib.hid k1
  clear k1
  go_enter Try.func39, Try.ntmps39
  go_wp2_with (go_at_call 72; (with_reducible refine Calls.mono (K1.out _) ?_); rintro r w1 ⟨rfl, hb⟩; obtain ⟨q1, q2⟩ := bcellV hb; have hz := hb.size; (try simp at hz); have hB : Below w.heap.size w w1 := (by refine Below.trans ?_ (hb.mono (by first | omega | (simp; done) | (simp <;> omega))); repeat (first | with_reducible exact Below.refl _ _ | with_reducible assumption | with_reducible refine Below.setCell ?_ (by first | omega | (simp; done) | (simp <;> omega)) _ | with_reducible refine below_drewN ?_ _ | with_reducible refine Below.drew ?_ | with_reducible refine Below.alloc ?_ (by first | omega | (simp; done) | (simp <;> omega)) _)))
  all_goals refine bodyPost_ret (v := .agg #[.int .i64 k, .int .i64 i, .bool n, .int .i64 c, .int .i64 e, .string x]) ?_ rfl ⟨rfl, (by repeat (first | with_reducible exact Below.refl _ _ | with_reducible assumption | with_reducible refine Below.setCell ?_ (by first | omega | (simp; done) | (simp <;> omega)) _ | with_reducible refine below_drewN ?_ _ | with_reducible refine Below.drew ?_ | with_reducible refine Below.alloc ?_ (by first | omega | (simp; done) | (simp <;> omega)) _))⟩
  all_goals simp [results, Try.results39, go_sem, *]
theorem ValidValueS_any (k i : Int) (n : Bool) (c e : Int) (x : ByteArray) (hx : x.size ≤ 9223372036854775807) (w : World) :
    Calls Try.prog 38 #[.agg #[.int .i64 k, .int .i64 i, .bool n, .int .i64 c, .int .i64 e, .string x]] w fun r w' => r = .returned (.bool (vvB k i n c e x)) ∧ Below w.heap.size w w' := by
  have k1 := fun W => validValueS_any k i n c e x hx W
  generalize vvB k i n c e x = b at *
  have K1 := Lib.hid k1
  clear k1
  have hB : Below w.heap.size w (w.alloc (.cells #[.int .i64 k, .int .i64 i, .bool n, .int .i64 c, .int .i64 e, .string x] 62)) := Below.alloc (Below.refl _ _) (Nat.le_refl _) _
  go_enter Try.func38, Try.ntmps38
  go_wp2_with (go_at_call 71; (with_reducible refine Calls.mono (K1.out _) ?_); rintro r w1 ⟨rfl, hb⟩; replace hB := hB.trans (hb.mono hB.size))
  go_ret
  exact ⟨rfl, hB⟩
set_option maxHeartbeats 2000000 in
theorem FnExactValidValue_law (k i : Int) (n : Bool) (c e : Int) (x : ByteArray) (w : World) (hx : x.size ≤ 9223372036854775807) :
    Calls Try.prog 9 #[.agg #[.int .i64 k, .int .i64 i, .bool n, .int .i64 c, .int .i64 e, .string x]] w fun r w' => r = .returned (.bool true) ∧ Below w.heap.size w w' := by
  have k1 := fun W => szValue_any k i n c e x hx W
  have k2 := fun W => toValue_any k i n c e x W
  have k3 := fun W => ValidValueS_any k i n c e x hx W
  have k4 := fun W => ValidValue_any k i n c e x hx W
  generalize vvB k i n c e x = b at *
  have zb := C6.new w (.int .i64 k) (.int .i64 i) (.bool n) (.int .i64 c) (.int .i64 e) (.string x) 57
  have hB : Below w.heap.size w (w.alloc (.cells #[.int .i64 k, .int .i64 i, .bool n, .int .i64 c, .int .i64 e, .string x] 57)) := Below.alloc (Below.refl _ _) (Nat.le_refl _) _
  have zz := zb
  obtain ⟨x0, x1, x2, x3, x4, x5, xf, xl⟩ := zz
  by_cases h : x.size ≤ 1048576
  · simp only [if_pos h] at k1
    have i1 : ¬ (1048576 - (x.size : Int) < 0) := by omega
    have i2 : (x.size : Int) ≤ 1048576 := by omega
    have K1 := Lib.hid k1; have K2 := Lib.hid k2; have K3 := Lib.hid k3; have K4 := Lib.hid k4
    clear k1 k2 k3 k4
    go_enter Try.func9, Try.ntmps9
    go_wp2_with (first | (go_at_call 37; (with_reducible refine Calls.mono (K1.out _) ?_); rintro r w1 ⟨rfl, hb⟩; replace hB := hB.trans (hb.mono hB.size); replace zb := zb.carry hb; have zz := zb; obtain ⟨x0, x1, x2, x3, x4, x5, xf, xl⟩ := zz) | (go_at_call 39; (with_reducible refine Calls.mono (K2.out _) ?_); rintro r w1 ⟨rfl, hb⟩; replace hB := hB.trans (hb.mono hB.size); replace zb := zb.carry hb; have zz := zb; obtain ⟨x0, x1, x2, x3, x4, x5, xf, xl⟩ := zz) | (go_at_call 38; (with_reducible refine Calls.mono (K3.out _) ?_); rintro r w1 ⟨rfl, hb⟩; replace hB := hB.trans (hb.mono hB.size); replace zb := zb.carry hb; have zz := zb; obtain ⟨x0, x1, x2, x3, x4, x5, xf, xl⟩ := zz) | (go_at_call 40; (with_reducible refine Calls.mono (K4.out _) ?_); rintro r w1 ⟨rfl, hb⟩; replace hB := hB.trans (hb.mono hB.size); replace zb := zb.carry hb; have zz := zb; obtain ⟨x0, x1, x2, x3, x4, x5, xf, xl⟩ := zz))
    all_goals go_ret
    all_goals exact ⟨rfl, hB⟩
  · simp only [if_neg h] at k1
    have K1 := Lib.hid k1
    clear k1 k2 k3 k4
    go_enter Try.func9, Try.ntmps9
    go_wp2_with (go_at_call 37; (with_reducible refine Calls.mono (K1.out _) ?_); rintro r w1 ⟨rfl, hb⟩; replace hB := hB.trans (hb.mono hB.size); replace zb := zb.carry hb; have zz := zb; obtain ⟨x0, x1, x2, x3, x4, x5, xf, xl⟩ := zz)
    all_goals go_ret
    all_goals exact ⟨rfl, hB⟩
end Go.Proofs.Ytffdgpahbdmacaa
