import Derived.Test.YtebheehjhnaklaaGreatDoorW0
import Derived.Test.YtebheehjhnaklaaGreatDoorU1
namespace Go.Proofs.YtebheehjhnaklaaGreatDoor
open Go.RowKit
/-- the mark at a place counted from 1 -/
def mk (l : List UInt8) (k : Int) : List UInt8 := if k = 0 then [] else (l.drop (k.toNat - 1)).take 1
theorem mk_len (l : List UInt8) (k : Int) : (mk l k).length ≤ 1 := by unfold mk; split <;> simp; omega
/-- a number of at most two digits -/
def dec2 (n : Nat) : List UInt8 := if n < 10 then [UInt8.ofNat (48 + n)] else [UInt8.ofNat (48 + n / 10), UInt8.ofNat (48 + n % 10)]
theorem dec2_len (n : Nat) : (dec2 n).length ≤ 2 := by unfold dec2; split <;> simp
def spL (f : List UInt8) (al si : Int) (alt ze : Bool) (wi gr pr : Int) (t : List UInt8) : List UInt8 :=
  f ++ (mk [60, 62, 94, 61] al ++ (mk [45, 43, 32] si ++ ((if alt then [35] else []) ++ ((if ze then [48] else []) ++ ((if 0 < wi then dec2 wi.toNat else []) ++ (mk [44, 95] gr ++ ((if pr = -1 then [] else 46 :: dec2 pr.toNat) ++ t)))))))
theorem cat_lW (a b : List UInt8) : (⟨a.toArray⟩ : ByteArray) ++ ⟨b.toArray⟩ = ⟨(a ++ b).toArray⟩ := by
  apply ByteArray.ext
  rw [ByteArray.data_append]
  simp
theorem markAt_4 (k : Int) (h0 : 0 ≤ k) (h1 : k ≤ 4) (w : World) : Calls Tryz.prog 130 #[.string ⟨#[60, 62, 94, 61]⟩, .int .i64 k] w fun r w' => r = .returned (.string ⟨(mk [60, 62, 94, 61] k).toArray⟩) ∧ w = w' := by
  have hk : k = 0 ∨ k = 1 ∨ k = 2 ∨ k = 3 ∨ k = 4 := by omega
  rcases hk with rfl | rfl | rfl | rfl | rfl
  all_goals (
    go_enter Tryz.func130, Tryz.ntmps130
    go_wp2
    go_ret
    exact ⟨rfl, rfl⟩)
theorem markAt_3 (k : Int) (h0 : 0 ≤ k) (h1 : k ≤ 3) (w : World) : Calls Tryz.prog 130 #[.string ⟨#[45, 43, 32]⟩, .int .i64 k] w fun r w' => r = .returned (.string ⟨(mk [45, 43, 32] k).toArray⟩) ∧ w = w' := by
  have hk : k = 0 ∨ k = 1 ∨ k = 2 ∨ k = 3 := by omega
  rcases hk with rfl | rfl | rfl | rfl
  all_goals (
    go_enter Tryz.func130, Tryz.ntmps130
    go_wp2
    go_ret
    exact ⟨rfl, rfl⟩)
theorem markAt_2 (k : Int) (h0 : 0 ≤ k) (h1 : k ≤ 2) (w : World) : Calls Tryz.prog 130 #[.string ⟨#[44, 95]⟩, .int .i64 k] w fun r w' => r = .returned (.string ⟨(mk [44, 95] k).toArray⟩) ∧ w = w' := by
  have hk : k = 0 ∨ k = 1 ∨ k = 2 := by omega
  rcases hk with rfl | rfl | rfl
  all_goals (
    go_enter Tryz.func130, Tryz.ntmps130
    go_wp2
    go_ret
    exact ⟨rfl, rfl⟩)
theorem markS_4 (k : Int) (h0 : 0 ≤ k) (h1 : k ≤ 4) (w : World) : Calls Tryz.prog 134 #[.string ⟨#[60, 62, 94, 61]⟩, .int .i64 k] w fun r w' => r = .returned (.string ⟨(mk [60, 62, 94, 61] k).toArray⟩) ∧ w = w' := by
  have hk : k = 0 ∨ k = 1 ∨ k = 2 ∨ k = 3 ∨ k = 4 := by omega
  rcases hk with rfl | rfl | rfl | rfl | rfl
  all_goals (
    go_enter Tryz.func134, Tryz.ntmps134
    go_wp2
    go_ret
    exact ⟨rfl, rfl⟩)
theorem markS_3 (k : Int) (h0 : 0 ≤ k) (h1 : k ≤ 3) (w : World) : Calls Tryz.prog 134 #[.string ⟨#[45, 43, 32]⟩, .int .i64 k] w fun r w' => r = .returned (.string ⟨(mk [45, 43, 32] k).toArray⟩) ∧ w = w' := by
  have hk : k = 0 ∨ k = 1 ∨ k = 2 ∨ k = 3 := by omega
  rcases hk with rfl | rfl | rfl | rfl
  all_goals (
    go_enter Tryz.func134, Tryz.ntmps134
    go_wp2
    go_ret
    exact ⟨rfl, rfl⟩)
theorem markS_2 (k : Int) (h0 : 0 ≤ k) (h1 : k ≤ 2) (w : World) : Calls Tryz.prog 134 #[.string ⟨#[44, 95]⟩, .int .i64 k] w fun r w' => r = .returned (.string ⟨(mk [44, 95] k).toArray⟩) ∧ w = w' := by
  have hk : k = 0 ∨ k = 1 ∨ k = 2 := by omega
  rcases hk with rfl | rfl | rfl
  all_goals (
    go_enter Tryz.func134, Tryz.ntmps134
    go_wp2
    go_ret
    exact ⟨rfl, rfl⟩)
/-- a digit of the model -/
theorem numberS_oneW (k : Nat) (h : k < 10) (w : World) : Calls Tryz.prog 98 #[.int .i64 k] w fun r w' => r = .returned (.string ⟨(dec2 k).toArray⟩) ∧ w = w' := by
  have hk : k = 0 ∨ k = 1 ∨ k = 2 ∨ k = 3 ∨ k = 4 ∨ k = 5 ∨ k = 6 ∨ k = 7 ∨ k = 8 ∨ k = 9 := by omega
  rcases hk with rfl | rfl | rfl | rfl | rfl | rfl | rfl | rfl | rfl | rfl
  all_goals (
    go_enter Tryz.func98, Tryz.ntmps98
    go_wp2
    go_ret
    exact ⟨rfl, rfl⟩)
end Go.Proofs.YtebheehjhnaklaaGreatDoor
namespace Go.Proofs.YtebheehjhnaklaaGreatDoor
open Go.RowKit
theorem dec2_eq {i : Nat} (h : i < 100) : Lib.decDigits i = dec2 i := by
  have h0 : ((List.range 100).all fun i => Lib.decDigits i == dec2 i) = true := by decide +kernel
  exact eq_of_beq (List.all_eq_true.1 h0 i (List.mem_range.2 h))
theorem of_listW (s : ByteArray) : s = ⟨s.data.toList.toArray⟩ := by
  apply ByteArray.ext
  simp
theorem Itoa_two (i : Nat) (h : i < 100) (w : World) : Calls Tryz.prog 162 #[.int .i64 i] w fun r w' => r = .returned (.string ⟨(dec2 i).toArray⟩) ∧ Below w.heap.size w w' := by
  rw [← dec2_eq h]
  exact (Tryz.strconv_Itoa_small i h w).mono (by rintro r w1 ⟨rfl, rfl⟩; exact ⟨rfl, Below.refl _ _⟩)
theorem numberS_two (k : Nat) (h : k < 100) (w : World) : Calls Tryz.prog 98 #[.int .i64 k] w fun r w' => r = .returned (.string ⟨(dec2 k).toArray⟩) ∧ w = w' := by
  by_cases h1 : k < 10
  · exact numberS_oneW k h1 w
  · have i1 : ¬ (k : Int) < 10 := by omega
    have hd : ((k : Int)).tdiv 10 = ((k / 10 : Nat) : Int) := by rw [Int.tdiv_eq_ediv_of_nonneg (by omega)]; rfl
    have hm : ((k : Int)).tmod 10 = ((k % 10 : Nat) : Int) := by rw [Int.tmod_eq_emod_of_nonneg (by omega)]; rfl
    have hd' : ((k : Int)) / 10 = ((k / 10 : Nat) : Int) := rfl
    have hm' : ((k : Int)) % 10 = ((k % 10 : Nat) : Int) := rfl
    have ka := fun W => numberS_oneW (k / 10) (by omega) W
    have kb := fun W => numberS_oneW (k % 10) (by omega) W
    have hw : dec2 k = dec2 (k / 10) ++ dec2 (k % 10) := by
      unfold dec2
      rw [if_neg h1, if_pos (by omega), if_pos (by omega)]
      rfl
    have la := dec2_len (k / 10)
    have lb := dec2_len (k % 10)
    rw [hw]
    generalize dec2 (k / 10) = A at *
    generalize dec2 (k % 10) = B at *
    generalize k / 10 = q at *
    generalize k % 10 = m at *
    have KA := Lib.hid ka; have KB := Lib.hid kb
    clear ka kb hw
    go_enter Tryz.func98, Tryz.ntmps98
    go_wp2_with (first | (go_at_call_of 98 (Value.int .i64 q); (with_reducible refine Calls.mono (KA.out _) ?_); rintro r w1 ⟨rfl, rfl⟩) | (go_at_call 98; (with_reducible refine Calls.mono (KA.out _) ?_); rintro r w1 ⟨rfl, rfl⟩) | (go_at_call 98; (with_reducible refine Calls.mono (KB.out _) ?_); rintro r w1 ⟨rfl, rfl⟩))
    go_ret
    exact ⟨ret_str (cat_lW _ _), rfl⟩
end Go.Proofs.YtebheehjhnaklaaGreatDoor
namespace Go.Proofs.YtebheehjhnaklaaGreatDoor
open Go.RowKit

theorem mB {fn : FuncId} {args : Array Value} {v : Value} {w : World} (h : Calls Tryz.prog fn args w fun r w' => r = .returned v ∧ w = w') : Calls Tryz.prog fn args w fun r w' => r = .returned v ∧ Below w.heap.size w w' := h.mono (by rintro r w1 ⟨rfl, rfl⟩; exact ⟨rfl, Below.refl _ _⟩)
theorem size_fill {f : ByteArray} {al : Int} (h : okFill f al = true) : f.data.toList.length ≤ 1 := by
  rcases bytes_cases f with rfl | ⟨b, rfl⟩ | h2
  · exact Nat.zero_le _
  · exact Nat.le_refl _
  · rw [okFill_two h2] at h; cases h
theorem size_type {t : ByteArray} (h : okType t = true) : t.data.toList.length ≤ 1 := by
  rcases bytes_cases t with rfl | ⟨b, rfl⟩ | h2
  · exact Nat.zero_le _
  · exact Nat.le_refl _
  · rw [okType_two h2] at h; cases h

end Go.Proofs.YtebheehjhnaklaaGreatDoor
