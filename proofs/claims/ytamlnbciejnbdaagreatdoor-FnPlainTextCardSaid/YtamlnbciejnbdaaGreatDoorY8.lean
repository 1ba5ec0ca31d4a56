import Derived.Test.YtamlnbciejnbdaaGreatDoorY7
namespace Go.Proofs.YtamlnbciejnbdaaGreatDoor
open Go.RowKit
def grpW (s : ByteArray) (n : Int) (sep : ByteArray) : ByteArray := if s.size ≤ 80 ∧ 1 ≤ n ∧ n ≤ 9 ∧ sep.size = 1 then ⟨(grp n.toNat sep.data.toList s.data.toList).toArray⟩ else ⟨#[]⟩
theorem grpW_no {s : ByteArray} {n : Int} {sep : ByteArray} (h : ¬ (s.size ≤ 80 ∧ 1 ≤ n ∧ n ≤ 9 ∧ sep.size = 1)) : grpW s n sep = ⟨#[]⟩ := if_neg h
theorem grpW_yes {s : ByteArray} {n : Nat} {sep : ByteArray} (h : s.size ≤ 80 ∧ 1 ≤ n ∧ n ≤ 9 ∧ sep.size = 1) : grpW s n sep = ⟨(grp n sep.data.toList s.data.toList).toArray⟩ := by unfold grpW; rw [if_pos (by omega)]; rfl
theorem size_zero {s : ByteArray} (h : s.size = 0) : s = ⟨#[]⟩ := by
  rcases bytes_cases s with h' | ⟨b, rfl⟩ | h'
  · exact h'
  · exact absurd h (by simp [ByteArray.size])
  · omega
set_option maxRecDepth 100000 in
set_option maxHeartbeats 4000000 in
theorem GroupDigits_none (n : Nat) (sep : ByteArray) (w : World) (hn0 : 1 ≤ n) (hn1 : n ≤ 9) (hsep : sep.size = 1) :
    Calls Tryz.prog 123 #[.string ⟨#[]⟩, .int .i64 n, .string sep] w fun r w' => r = .returned (.string ⟨#[]⟩) ∧ Below w.heap.size w w' := by
  have k1 := fun W => within_any n 1 9 W
  rw [show inr n 1 9 = true by simp [inr]; omega] at k1
  have K1 := Lib.hid k1
  clear k1
  obtain ⟨cap, W1, hconv, hcap, hz1, hB1, _⟩ := bytes_world w ⟨#[]⟩
  obtain ⟨cap2, W2, hconv2, hcap2, hz2, hB2, _⟩ := bytes_world W1 sep
  rw [hsep] at hconv2
  have hBw : Below w.heap.size w W2 := hB1.trans (hB2.mono (by omega))
  clear hz1 hz2
  have hJ := Tryz.bytes_Join_none none 0 (.slice (some ⟨W1.heap.size, 0, none⟩) 1 cap2) W2
  have HJ := Lib.hid hJ
  clear hJ
  have hback := run_convert_bytes_back (P := Tryz.prog) (W2.alloc (.cells #[] 5)) 22 9 5 ⟨W2.heap.size, 0, none⟩ 0 [] Tryz.underlying22 Tryz.underlying5 Tryz.underlying9 (by intro j hj; simp at hj)
  simp only [List.length_nil] at hback
  have hm0 : ((-1 : Int)).tmod n = -1 ∨ ((-1 : Int)).tmod n = 0 := by
    by_cases h : n = 1
    · subst h; right; rfl
    · left
      rw [show (-1 : Int) = -(1 : Int) from rfl, Int.neg_tmod, Int.tmod_eq_emod_of_nonneg (by omega)]
      rw [Int.emod_eq_of_lt (by omega) (by omega)]
  rcases hm0 with hm0 | hm0
  all_goals (
    go_enter Tryz.func123, Tryz.ntmps123
    go_wp2_with (go_at_call 42; (with_reducible refine Calls.mono (K1.out _) ?_); rintro r w1 ⟨rfl, rfl⟩)
    refine wp_loop_rounds 1 ?_
    rw [rounds_succ]
    go_wp2_with (go_at_call 167; (with_reducible refine Calls.mono HJ.out ?_); rintro r w3 ⟨rfl, rfl⟩)
    go_ret
    exact ⟨rfl, hBw.alloc (by have := hBw.size; omega) _⟩)
end Go.Proofs.YtamlnbciejnbdaaGreatDoor
