import Derived.Test.YtffdgpahbdmacaaShelf
import Derived.Test.YtffdgpahbdmacaaTB
namespace Go.Proofs.Ytffdgpahbdmacaa
open Go.RowKit
theorem ext_take (k : Nat) (l : List UInt8) : (⟨l.toArray⟩ : ByteArray).extract 0 k = ⟨(l.take k).toArray⟩ := by
  apply ByteArray.ext
  rw [ByteArray.data_extract]
  apply Array.ext'
  rw [Array.toList_extract]
  simp [List.extract_eq_take_drop]
theorem ext_drop (k : Nat) (l : List UInt8) : (⟨l.toArray⟩ : ByteArray).extract k l.length = ⟨(l.drop k).toArray⟩ := by
  apply ByteArray.ext
  rw [ByteArray.data_extract]
  apply Array.ext'
  rw [Array.toList_extract]
  simp only [List.extract_eq_take_drop, List.toList_toArray]
  exact List.take_of_length_le (by rw [List.length_drop]; exact Nat.le_refl _)
def rep (c : UInt8) (n : Nat) : List UInt8 := List.replicate n c
theorem rep_len (c : UInt8) (n : Nat) : (rep c n).length = n := by simp [rep]
theorem repeat_rep (c : UInt8) : ∀ m : Nat, Lib.repeatL [c] m = rep c m
  | 0 => rfl
  | m + 1 => by
    have h := repeat_rep c m
    simp [Lib.repeatL, rep, List.replicate_succ] at h ⊢
    try exact h
theorem Repeat_rep (c : UInt8) (m : Nat) (hm : m ≤ 1000) (w : World) : Calls Try.prog 85 #[.string ⟨#[c]⟩, .int .i64 m] w fun r w' => r = .returned (.string ⟨(rep c m).toArray⟩) ∧ Below w.heap.size w w' := by
  have h := Try.strings_Repeat ⟨#[c]⟩ m w (by omega) (by show 1 * m ≤ _; omega)
  rw [show (⟨#[c]⟩ : ByteArray).data.toList = [c] from rfl, repeat_rep] at h
  exact h
/-- a text with a fill to a width -/
def padL (H B : List UInt8) (wi : Nat) (c : UInt8) (al : Int) : List UInt8 :=
  if al = 1 then H ++ (B ++ rep c (wi - H.length - B.length)) else if al = 3 then rep c ((wi - H.length - B.length) / 2) ++ (H ++ (B ++ rep c (wi - H.length - B.length - (wi - H.length - B.length) / 2)))
  else if al = 4 then H ++ (rep c (wi - H.length - B.length) ++ B) else rep c (wi - H.length - B.length) ++ (H ++ B)
theorem greater_pos (a : Int) (ha : a ≤ 1000) (w : World) : Calls Try.prog 64 #[.int .i64 a, .int .i64 0] w fun r w' => r = .returned (.int .i64 ((a.toNat : Nat) : Int)) ∧ w = w' := by
  by_cases h : a < 0
  · go_enter Try.func64, Try.ntmps64
    go_wp2
    all_goals go_ret
    all_goals exact ⟨ret_int (by omega), rfl⟩
  · have i1 : ¬ a < 0 := h
    go_enter Try.func64, Try.ntmps64
    go_wp2
    all_goals go_ret
    all_goals exact ⟨ret_int (by omega), rfl⟩
end Go.Proofs.Ytffdgpahbdmacaa
