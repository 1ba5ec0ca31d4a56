import Derived.Test.YtehocgedlepajaaC8
namespace Go.Proofs.Ytehocgedlepajaa
open Go.RowKit

set_option maxHeartbeats 400000 in
theorem isNaN_any (x : Int) (w : World) :
    Calls Try.prog 82 #[.int .i64 x] w fun r w' => r = .returned (.bool false) ∧ w = w' := by
  have hx : (x != x) = false := by simp
  go_enter Try.func82, Try.ntmps82
  go_wp2
  go_ret
  exact ⟨ret_bool (by simp), rfl⟩

set_option maxHeartbeats 400000 in
theorem Compare_any (x y : Int) (w : World) :
    Calls Try.prog 60 #[.int .i64 x, .int .i64 y] w fun r w' => r = .returned (.int .i64 (Fd.cmpInt x y)) ∧ w = w' := by
  have hcase : (x < y ∧ Hid (Fd.cmpInt x y = -1)) ∨ (¬ x < y ∧ y < x ∧ Hid (Fd.cmpInt x y = 1)) ∨ (¬ x < y ∧ ¬ y < x ∧ Hid (Fd.cmpInt x y = 0)) := by
    by_cases h1 : x < y
    · left; exact ⟨h1, Lib.hid (by unfold Fd.cmpInt; rw [if_pos h1])⟩
    · by_cases h2 : y < x
      · right; left; exact ⟨h1, h2, Lib.hid (by unfold Fd.cmpInt; rw [if_neg h1, if_pos h2])⟩
      · right; right; exact ⟨h1, h2, Lib.hid (by unfold Fd.cmpInt; rw [if_neg h1, if_neg h2])⟩
  rcases hcase with ⟨h1, H⟩ | ⟨h1, h2, H⟩ | ⟨h1, h2, H⟩
  all_goals
    go_enter Try.func60, Try.ntmps60
    go_wp2_with (go_at_call 82; refine (isNaN_any _ _).mono ?_; rintro r w1 ⟨rfl, rfl⟩)
    go_ret
    exact ⟨ret_int (by rw [H.out]), rfl⟩

def orI (x y : Int) : Int := if x ≠ 0 then x else y
set_option maxHeartbeats 1000000 in
theorem Or_any (b : Nat) (x y : Int) (w : World) (h0 : w.cell? ⟨b, 0, none⟩ = some (.int .i64 x)) (h1 : w.cell? ⟨b, 1, none⟩ = some (.int .i64 y)) :
    Calls Try.prog 83 #[.slice (some ⟨b, 0, none⟩) 2 2] w fun r w' => r = .returned (.int .i64 (orI x y)) ∧ w = w' := by
  unfold orI
  have hcase : ((x != 0) = true ∧ Hid ((if x ≠ 0 then x else y) = x)) ∨ ((x != 0) = false ∧ (y != 0) = true ∧ Hid ((if x ≠ 0 then x else y) = y)) ∨ ((x != 0) = false ∧ (y != 0) = false ∧ Hid ((if x ≠ 0 then x else y) = 0)) := by
    by_cases hx : x = 0
    · by_cases hy : y = 0
      · right; right; exact ⟨by simp [hx], by simp [hy], Lib.hid (by simp [hx, hy])⟩
      · right; left; exact ⟨by simp [hx], by simpa using hy, Lib.hid (by simp [hx])⟩
    · left; exact ⟨by simpa using hx, Lib.hid (by simp [hx])⟩
  generalize (if x ≠ 0 then x else y) = z at *
  rcases hcase with ⟨t1, H⟩ | ⟨t1, t2, H⟩ | ⟨t1, t2, H⟩
  · go_enter Try.func83, Try.ntmps83
    go_wp2
    refine wp_loop_rounds 3 ?_
    rw [rounds_succ]
    go_wp2
    go_ret
    exact ⟨ret_int (by rw [H.out]), rfl⟩
  · go_enter Try.func83, Try.ntmps83
    go_wp2
    refine wp_loop_rounds 3 ?_
    rw [rounds_succ]
    go_wp2
    rw [rounds_succ]
    go_wp2
    go_ret
    exact ⟨ret_int (by rw [H.out]), rfl⟩
  · go_enter Try.func83, Try.ntmps83
    go_wp2
    refine wp_loop_rounds 3 ?_
    rw [rounds_succ]
    go_wp2
    rw [rounds_succ]
    go_wp2
    rw [rounds_succ]
    go_wp2
    go_ret
    exact ⟨ret_int (by rw [H.out]), rfl⟩

theorem cmp_bd (x y : Int) : -1 ≤ Fd.cmpInt x y ∧ Fd.cmpInt x y ≤ 1 := by unfold Fd.cmpInt; split <;> (try split) <;> omega
theorem amt_bd (a b : Fd.D) : -1 ≤ Fd.cmpAmtI a b ∧ Fd.cmpAmtI a b ≤ 1 := by
  unfold Fd.cmpAmtI; split
  · exact cmp_bd _ _
  · exact cmp_bd _ _
theorem sg_bd (d : Fd.D) (h : 0 ≤ d.c) : -1 ≤ Fd.sgI d ∧ Fd.sgI d ≤ 1 := by unfold Fd.sgI; split <;> omega

set_option maxHeartbeats 8000000 in
theorem compareAmounts_any (n : Bool) (c e : Int) (n' : Bool) (c' e' : Int) (w : World) (h0 : 0 ≤ c) (h1 : c ≤ 999999999) (h2 : -24 ≤ e) (h3 : e ≤ 24) (h0' : 0 ≤ c') (h1' : c' ≤ 999999999) (h2' : -24 ≤ e') (h3' : e' ≤ 24) :
    Calls Try.prog 61 #[.agg #[.bool n, .int .i64 c, .int .i64 e], .agg #[.bool n', .int .i64 c', .int .i64 e']] w fun r w' =>
      r = .returned (.int .i64 (Fd.cmpAmtI ⟨n, c, e⟩ ⟨n', c', e'⟩)) ∧ Below w.heap.size w w' := by
  go_enter Try.func61, Try.ntmps61
  go_wp2
  have hB : Below w.heap.size w ((w.alloc (.cells #[.bool n, .int .i64 c, .int .i64 e] 24)).alloc (.cells #[.bool n', .int .i64 c', .int .i64 e'] 24)) := (by repeat (first | with_reducible exact Below.refl _ _ | with_reducible assumption | with_reducible refine Below.setCell ?_ (by first | omega | (simp; done) | (simp <;> omega)) _ | with_reducible refine below_drewN ?_ _ | with_reducible refine Below.drew ?_ | with_reducible refine Below.alloc ?_ (by first | omega | (simp; done) | (simp <;> omega)) _))
  generalize hW : ((w.alloc (.cells #[.bool n, .int .i64 c, .int .i64 e] 24)).alloc (.cells #[.bool n', .int .i64 c', .int .i64 e'] 24)) = W at hB ⊢
  have hcW : ∀ b o, W.cell? ⟨b, o, none⟩ = ((w.alloc (.cells #[.bool n, .int .i64 c, .int .i64 e] 24)).alloc (.cells #[.bool n', .int .i64 c', .int .i64 e'] 24)).cell? ⟨b, o, none⟩ := fun _ _ => by rw [hW]
  have hfW : ∀ b o, W.frozen? ⟨b, o, none⟩ = ((w.alloc (.cells #[.bool n, .int .i64 c, .int .i64 e] 24)).alloc (.cells #[.bool n', .int .i64 c', .int .i64 e'] 24)).frozen? ⟨b, o, none⟩ := fun _ _ => by rw [hW]
  have hzW : W.heap.size = ((w.alloc (.cells #[.bool n, .int .i64 c, .int .i64 e] 24)).alloc (.cells #[.bool n', .int .i64 c', .int .i64 e'] 24)).heap.size := by rw [hW]
  simp at hzW
  clear hW
  have hS0 : (∀ b o, b < W.heap.size → W.cell? ⟨b, o, none⟩ = W.cell? ⟨b, o, none⟩) ∧ Below W.heap.size W W := ⟨fun _ _ _ => rfl, Below.refl _ _⟩; go_region_held3 (fun w_ => (∀ b o, b < W.heap.size → w_.cell? ⟨b, o, none⟩ = W.cell? ⟨b, o, none⟩) ∧ Below W.heap.size W w_) (repeat (first | with_reducible assumption | with_reducible refine keepD ?_ | with_reducible refine keepL ?_ _ | with_reducible refine keepS ?_ (by first | omega | (simp; done) | (simp <;> omega)) _ | with_reducible exact keepA (by with_reducible assumption) hb)) (first | (go_at_call_of 75 (Value.agg #[.bool n, .int .i64 c, .int .i64 e]); refine (lead_any _ _ _ _ h1 h2 h3).mono ?_; rintro r w1 ⟨rfl, hb⟩) | (go_at_call_of 75 (Value.agg #[.bool n', .int .i64 c', .int .i64 e']); refine (lead_any _ _ _ _ h1' h2' h3').mono ?_; rintro r w1 ⟨rfl, hb⟩) | (go_at_call_of 84 (Value.agg #[.bool n, .int .i64 c, .int .i64 e]); refine (stretched_any _ _ _ _ h0 h1).mono ?_; rintro r w1 ⟨rfl, hb⟩) | (go_at_call_of 84 (Value.agg #[.bool n', .int .i64 c', .int .i64 e']); refine (stretched_any _ _ _ _ h0' h1').mono ?_; rintro r w1 ⟨rfl, hb⟩) | (go_at_call 60; refine (Compare_any _ _ _).mono ?_; rintro r w1 ⟨rfl, rfl⟩) | (go_at_call 83; refine (Or_any _ (Fd.cmpInt (Fd.size ⟨n, c, e⟩ - 1) (Fd.size ⟨n', c', e'⟩ - 1)) (Fd.cmpInt (Fd.stretch ⟨n, c, e⟩) (Fd.stretch ⟨n', c', e'⟩)) _ ?c0 ?c1).mono ?_; (case c0 => simp [go_sem]); (case c1 => simp [go_sem]); rintro r w1 ⟨rfl, rfl⟩))
  obtain ⟨hc, hb⟩ := ‹(∀ b o, b < W.heap.size → World.cell? _ ⟨b, o, none⟩ = W.cell? ⟨b, o, none⟩) ∧ Below W.heap.size W _›; have hf := (bcell hb).2; have hB := Below.trans hB (hb.mono (by omega)); have hz := hb.size; (try have hza := Nat.lt_of_lt_of_le (show w.heap.size < W.heap.size by omega) hb.size); (try have hzb := Nat.lt_of_lt_of_le (show w.heap.size + 1 < W.heap.size by omega) hb.size); (try have hzd := Nat.lt_of_lt_of_le (show w.heap.size + 1 + 1 < W.heap.size by omega) hb.size)
  go_wp2
  go_ret
  exact ⟨ret_int (by rfl), by assumption⟩
end Go.Proofs.Ytehocgedlepajaa
