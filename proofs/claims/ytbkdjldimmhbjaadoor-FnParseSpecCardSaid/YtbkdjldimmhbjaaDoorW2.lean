import Derived.Test.YtbkdjldimmhbjaaDoorU1
import Derived.Test.YtbkdjldimmhbjaaDoorW1
namespace Go.Proofs.YtbkdjldimmhbjaaDoor
open Go.RowKit
theorem dec2_eq {i : Nat} (h : i < 100) : Lib.decDigits i = dec2 i := by
  have h0 : ((List.range 100).all fun i => Lib.decDigits i == dec2 i) = true := by decide +kernel
  exact eq_of_beq (List.all_eq_true.1 h0 i (List.mem_range.2 h))
theorem of_list (s : ByteArray) : s = ⟨s.data.toList.toArray⟩ := by
  apply ByteArray.ext
  simp
theorem Itoa_two (i : Nat) (h : i < 100) (w : World) : Calls Tryd.prog 37 #[.int .i64 i] w fun r w' => r = .returned (.string ⟨(dec2 i).toArray⟩) ∧ Below w.heap.size w w' := by
  rw [← dec2_eq h]
  exact (Tryd.strconv_Itoa_small i h w).mono (by rintro r w1 ⟨rfl, rfl⟩; exact ⟨rfl, Below.refl _ _⟩)
theorem numberS_two (k : Nat) (h : k < 100) (w : World) : Calls Tryd.prog 61 #[.int .i64 k] w fun r w' => r = .returned (.string ⟨(dec2 k).toArray⟩) ∧ w = w' := by
  by_cases h1 : k < 10
  · exact numberS_one k h1 w
  · have i1 : ¬ (k : Int) < 10 := by omega
    have hd : ((k : Int)).tdiv 10 = ((k / 10 : Nat) : Int) := by rw [Int.tdiv_eq_ediv_of_nonneg (by omega)]; rfl
    have hm : ((k : Int)).tmod 10 = ((k % 10 : Nat) : Int) := by rw [Int.tmod_eq_emod_of_nonneg (by omega)]; rfl
    have hd' : ((k : Int)) / 10 = ((k / 10 : Nat) : Int) := rfl
    have hm' : ((k : Int)) % 10 = ((k % 10 : Nat) : Int) := rfl
    have ka := fun W => numberS_one (k / 10) (by omega) W
    have kb := fun W => numberS_one (k % 10) (by omega) W
    have hw : dec2 k = dec2 (k / 10) ++ dec2 (k % 10) := by
      unfold dec2
      rw [if_neg h1, if_pos (by omega), if_pos (by omega)]
      rfl
    have la := dec2_len (k / 10)
    have lb := dec2_len (k % 10)
    rw [hw]
    generalize dec2 (k / 10) = A at *
    generalize dec2 (k % 10) = B at *
    generalize k / 10 = q at *
    generalize k % 10 = m at *
    have KA := Lib.hid ka; have KB := Lib.hid kb
    clear ka kb hw
    go_enter Tryd.func61, Tryd.ntmps61
    go_wp2_with (first | (go_at_call_of 61 (Value.int .i64 q); (with_reducible refine Calls.mono (KA.out _) ?_); rintro r w1 ⟨rfl, rfl⟩) | (go_at_call 61; (with_reducible refine Calls.mono (KA.out _) ?_); rintro r w1 ⟨rfl, rfl⟩) | (go_at_call 61; (with_reducible refine Calls.mono (KB.out _) ?_); rintro r w1 ⟨rfl, rfl⟩))
    go_ret
    exact ⟨ret_str (cat_l _ _), rfl⟩
end Go.Proofs.YtbkdjldimmhbjaaDoor
