import Derived.Test.YtejganoipbblcaaGreatDoorC7
import Derived.Test.YtejganoipbblcaaGreatDoorZ9
import Derived.Test.YtejganoipbblcaaGreatDoorPl2
import Derived.Test.YtejganoipbblcaaGreatDoorTL
import Derived.Test.YtejganoipbblcaaGreatDoorU1
namespace Go.Proofs.YtejganoipbblcaaGreatDoor
open Go.RowKit
theorem bcellV {W w1 : World} (hb : Below W.heap.size W w1) : (∀ b o, b < W.heap.size → w1.cell? ⟨b, o, none⟩ = W.cell? ⟨b, o, none⟩) ∧ (∀ b o, b < W.heap.size → w1.frozen? ⟨b, o, none⟩ = W.frozen? ⟨b, o, none⟩) :=
  ⟨fun b o h => hb.cell (p := ⟨b, o, none⟩) h, fun b o h => hb.frozen (p := ⟨b, o, none⟩) h⟩
/-- a valid value -/
def vvB (k i : Int) (n : Bool) (c e : Int) (x : ByteArray) : Bool :=
  if k = 0 then inr i (-999999999999) 999999999999 && ((!n && (c == 0 && e == 0)) && x.data.toList.isEmpty)
  else if k = 1 then i == 0 && (Fd.vld ⟨n, c, e⟩ && x.data.toList.isEmpty)
  else if k = 2 then i == 0 && ((!n && (c == 0 && e == 0)) && vtB x)
  else false
set_option maxRecDepth 100000 in
set_option maxHeartbeats 4000000 in
theorem ValidValue_any (k i : Int) (n : Bool) (c e : Int) (x : ByteArray) (hx : x.size ≤ 9223372036854775807) (w : World) :
    Calls Tryz.prog 27 #[.agg #[.int .i64 k, .int .i64 i, .bool n, .int .i64 c, .int .i64 e, .string x]] w fun r w' => r = .returned (.bool (vvB k i n c e x)) ∧ Below w.heap.size w w' := by
  have k1 := fun W => within_any i (-999999999999) 999999999999 W
  have k2 := fun W => ValidDec_any n c e W
  have k3 := fun W => ValidText_any x hx W
  have hv : ∀ b, Fd.vld ⟨n, c, e⟩ = b → (k = 1 → vvB k i n c e x = (i == 0 && (b && x.data.toList.isEmpty))) := by
    intro b hb h1
    unfold vvB
    rw [if_neg (by omega), if_pos h1, hb]
  unfold vvB
  generalize inr i (-999999999999) 999999999999 = b1 at *
  generalize Fd.vld ⟨n, c, e⟩ = b2 at *
  generalize vtB x = b3 at *
  have K1 := Lib.hid k1; have K2 := Lib.hid k2; have K3 := Lib.hid k3
  clear k1 k2 k3 hv
  have hB : Below w.heap.size w (w.alloc (.cells #[.int .i64 k, .int .i64 i, .bool n, .int .i64 c, .int .i64 e, .string x] 33)) := Below.alloc (Below.refl _ _) (Nat.le_refl _) _
  by_cases h0 : k = 0
  · subst h0
    rw [if_pos rfl]
    cases b1
    · go_enter Tryz.func27, Tryz.ntmps27
      go_wp2_with (go_at_call 67; (with_reducible refine Calls.mono (K1.out _) ?_); rintro r w1 ⟨rfl, rfl⟩)
      go_ret
      exact ⟨rfl, hB⟩
    · go_enter Tryz.func27, Tryz.ntmps27
      go_wp2_with (go_at_call 67; (with_reducible refine Calls.mono (K1.out _) ?_); rintro r w1 ⟨rfl, rfl⟩)
      all_goals go_ret
      all_goals refine ⟨ret_bool ?_, (by first | exact hB | (repeat (first | with_reducible exact Below.refl _ _ | with_reducible assumption | with_reducible refine Below.setCell ?_ (by first | omega | (simp; done) | (simp <;> omega)) _ | with_reducible refine below_drewN ?_ _ | with_reducible refine Below.drew ?_ | with_reducible refine Below.alloc ?_ (by first | omega | (simp; done) | (simp <;> omega)) _)))⟩
      all_goals simp_all [Lib.toList_data]
  · rw [if_neg h0]
    have e0 : (k == 0) = false := by simpa using h0
    by_cases h1 : k = 1
    · subst h1
      rw [if_pos rfl]
      clear h0 e0
      cases b2
      · go_enter Tryz.func27, Tryz.ntmps27
        go_wp2_with (go_at_call 55; (with_reducible refine Calls.mono (K2.out _) ?_); rintro r w1 ⟨rfl, hb⟩; replace hB := hB.trans (hb.mono hB.size))
        all_goals go_ret
        all_goals refine ⟨ret_bool ?_, (by first | exact hB | (repeat (first | with_reducible exact Below.refl _ _ | with_reducible assumption | with_reducible refine Below.setCell ?_ (by first | omega | (simp; done) | (simp <;> omega)) _ | with_reducible refine below_drewN ?_ _ | with_reducible refine Below.drew ?_ | with_reducible refine Below.alloc ?_ (by first | omega | (simp; done) | (simp <;> omega)) _)))⟩
        all_goals simp
      · go_enter Tryz.func27, Tryz.ntmps27
        go_wp2_with (go_at_call 55; (with_reducible refine Calls.mono (K2.out _) ?_); rintro r w1 ⟨rfl, hb⟩; obtain ⟨q1, q2⟩ := bcellV hb; replace hB := hB.trans (hb.mono hB.size))
        all_goals go_ret
        all_goals refine ⟨ret_bool ?_, (by first | exact hB | (repeat (first | with_reducible exact Below.refl _ _ | with_reducible assumption | with_reducible refine Below.setCell ?_ (by first | omega | (simp; done) | (simp <;> omega)) _ | with_reducible refine below_drewN ?_ _ | with_reducible refine Below.drew ?_ | with_reducible refine Below.alloc ?_ (by first | omega | (simp; done) | (simp <;> omega)) _)))⟩
        all_goals simp_all [Lib.toList_data]
    · rw [if_neg h1]
      have e1 : (k == 1) = false := by simpa using h1
      by_cases h2 : k = 2
      · subst h2
        rw [if_pos rfl]
        clear h0 e0 h1 e1
        cases b3
        · go_enter Tryz.func27, Tryz.ntmps27
          go_wp2_with (go_at_call 77; (with_reducible refine Calls.mono (K3.out _) ?_); rintro r w1 ⟨rfl, rfl⟩)
          all_goals go_ret
          all_goals refine ⟨ret_bool ?_, (by first | exact hB | (repeat (first | with_reducible exact Below.refl _ _ | with_reducible assumption | with_reducible refine Below.setCell ?_ (by first | omega | (simp; done) | (simp <;> omega)) _ | with_reducible refine below_drewN ?_ _ | with_reducible refine Below.drew ?_ | with_reducible refine Below.alloc ?_ (by first | omega | (simp; done) | (simp <;> omega)) _)))⟩
          all_goals simp
        · go_enter Tryz.func27, Tryz.ntmps27
          go_wp2_with (go_at_call 77; (with_reducible refine Calls.mono (K3.out _) ?_); rintro r w1 ⟨rfl, rfl⟩)
          all_goals go_ret
          all_goals refine ⟨ret_bool ?_, (by first | exact hB | (repeat (first | with_reducible exact Below.refl _ _ | with_reducible assumption | with_reducible refine Below.setCell ?_ (by first | omega | (simp; done) | (simp <;> omega)) _ | with_reducible refine below_drewN ?_ _ | with_reducible refine Below.drew ?_ | with_reducible refine Below.alloc ?_ (by first | omega | (simp; done) | (simp <;> omega)) _)))⟩
          all_goals simp_all
      · rw [if_neg h2]
        have e2 : (k == 2) = false := by simpa using h2
        go_enter Tryz.func27, Tryz.ntmps27
        go_wp2
        all_goals go_ret
        all_goals exact ⟨rfl, hB⟩
set_option maxRecDepth 100000 in
set_option maxHeartbeats 4000000 in
theorem validValueS_any (k i : Int) (n : Bool) (c e : Int) (x : ByteArray) (hx : x.size ≤ 9223372036854775807) (w : World) :
    Calls Tryz.prog 78 #[.agg #[.int .i64 k, .int .i64 i, .bool n, .int .i64 c, .int .i64 e, .string x]] w fun r w' => r = .returned (.bool (vvB k i n c e x)) ∧ Below w.heap.size w w' := by
  have k1 := fun W => validWholeS_any i W
  have k2 := fun W => validS_any n c e W
  have k3 := fun W => validTextS_any x hx W
  unfold vvB
  generalize inr i (-999999999999) 999999999999 = b1 at *
  generalize Fd.vld ⟨n, c, e⟩ = b2 at *
  generalize vtB x = b3 at *
  have K1 := Lib.hid k1; have K2 := Lib.hid k2; have K3 := Lib.hid k3
  clear k1 k2 k3
  have hB : Below w.heap.size w (w.alloc (.cells #[.int .i64 k, .int .i64 i, .bool n, .int .i64 c, .int .i64 e, .string x] 33)) := Below.alloc (Below.refl _ _) (Nat.le_refl _) _
  by_cases h0 : k = 0
  · subst h0
    rw [if_pos rfl]
    cases b1
    · go_enter Tryz.func78, Tryz.ntmps78
      go_wp2_with (go_at_call 117; (with_reducible refine Calls.mono (K1.out _) ?_); rintro r w1 ⟨rfl, rfl⟩)
      all_goals go_ret
      all_goals exact ⟨rfl, hB⟩
    · go_enter Tryz.func78, Tryz.ntmps78
      go_wp2_with (go_at_call 117; (with_reducible refine Calls.mono (K1.out _) ?_); rintro r w1 ⟨rfl, rfl⟩)
      all_goals go_ret
      all_goals refine ⟨ret_bool ?_, (by first | exact hB | (repeat (first | with_reducible exact Below.refl _ _ | with_reducible assumption | with_reducible refine Below.setCell ?_ (by first | omega | (simp; done) | (simp <;> omega)) _ | with_reducible refine below_drewN ?_ _ | with_reducible refine Below.drew ?_ | with_reducible refine Below.alloc ?_ (by first | omega | (simp; done) | (simp <;> omega)) _)))⟩
      all_goals simp_all [Lib.toList_data]
  · rw [if_neg h0]
    have e0 : (k == 0) = false := by simpa using h0
    by_cases h1 : k = 1
    · subst h1
      rw [if_pos rfl]
      clear h0 e0
      by_cases hi : i = 0
      · subst hi
        cases b2
        · go_enter Tryz.func78, Tryz.ntmps78
          go_wp2_with (go_at_call 102; (with_reducible refine Calls.mono (K2.out _) ?_); rintro r w1 ⟨rfl, hb⟩; replace hB := hB.trans (hb.mono hB.size))
          all_goals go_ret
          all_goals refine ⟨ret_bool ?_, (by first | exact hB | (repeat (first | with_reducible exact Below.refl _ _ | with_reducible assumption | with_reducible refine Below.setCell ?_ (by first | omega | (simp; done) | (simp <;> omega)) _ | with_reducible refine below_drewN ?_ _ | with_reducible refine Below.drew ?_ | with_reducible refine Below.alloc ?_ (by first | omega | (simp; done) | (simp <;> omega)) _)))⟩
          all_goals simp
        · go_enter Tryz.func78, Tryz.ntmps78
          go_wp2_with (go_at_call 102; (with_reducible refine Calls.mono (K2.out _) ?_); rintro r w1 ⟨rfl, hb⟩; obtain ⟨q1, q2⟩ := bcellV hb; replace hB := hB.trans (hb.mono hB.size))
          all_goals go_ret
          all_goals refine ⟨ret_bool ?_, (by first | exact hB | (repeat (first | with_reducible exact Below.refl _ _ | with_reducible assumption | with_reducible refine Below.setCell ?_ (by first | omega | (simp; done) | (simp <;> omega)) _ | with_reducible refine below_drewN ?_ _ | with_reducible refine Below.drew ?_ | with_reducible refine Below.alloc ?_ (by first | omega | (simp; done) | (simp <;> omega)) _)))⟩
          all_goals simp_all [Lib.toList_data]
      · have ei : (i == 0) = false := by simpa using hi
        go_enter Tryz.func78, Tryz.ntmps78
        go_wp2
        all_goals go_ret
        all_goals refine ⟨ret_bool ?_, (by first | exact hB | (repeat (first | with_reducible exact Below.refl _ _ | with_reducible assumption | with_reducible refine Below.setCell ?_ (by first | omega | (simp; done) | (simp <;> omega)) _ | with_reducible refine below_drewN ?_ _ | with_reducible refine Below.drew ?_ | with_reducible refine Below.alloc ?_ (by first | omega | (simp; done) | (simp <;> omega)) _)))⟩
        all_goals simp_all
    · rw [if_neg h1]
      have e1 : (k == 1) = false := by simpa using h1
      by_cases h2 : k = 2
      · subst h2
        rw [if_pos rfl]
        clear h0 e0 h1 e1
        cases b3
        all_goals
          go_enter Tryz.func78, Tryz.ntmps78
          go_wp2_with (go_at_call 118; (with_reducible refine Calls.mono (K3.out _) ?_); rintro r w1 ⟨rfl, rfl⟩)
          all_goals go_ret
          all_goals refine ⟨ret_bool ?_, (by first | exact hB | (repeat (first | with_reducible exact Below.refl _ _ | with_reducible assumption | with_reducible refine Below.setCell ?_ (by first | omega | (simp; done) | (simp <;> omega)) _ | with_reducible refine below_drewN ?_ _ | with_reducible refine Below.drew ?_ | with_reducible refine Below.alloc ?_ (by first | omega | (simp; done) | (simp <;> omega)) _)))⟩
          all_goals simp_all
      · rw [if_neg h2]
        have e2 : (k == 2) = false := by simpa using h2
        go_enter Tryz.func78, Tryz.ntmps78
        go_wp2
        all_goals go_ret
        all_goals exact ⟨rfl, hB⟩
end Go.Proofs.YtejganoipbblcaaGreatDoor
