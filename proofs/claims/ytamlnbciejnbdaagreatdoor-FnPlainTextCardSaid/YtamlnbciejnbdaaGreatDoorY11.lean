import Derived.Test.YtamlnbciejnbdaaGreatDoorY10
namespace Go.Proofs.YtamlnbciejnbdaaGreatDoor
open Go.RowKit
def zeros (m : Nat) : List UInt8 := List.replicate m 48
theorem zeros_succ (m : Nat) : zeros (m + 1) = 48 :: zeros m := rfl
theorem repeat_zeros : ∀ m : Nat, Lib.repeatL [48] m = zeros m
  | 0 => rfl
  | m + 1 => by
    have h := repeat_zeros m
    simp [Lib.repeatL, zeros, List.replicate_succ] at h ⊢
    try exact h
/-- the length of grouped digits -/
def fl (n L : Nat) : Nat := if L = 0 then 0 else L + (L - 1) / n
/-- the least digits that are width bytes when they are grouped -/
def cnt (wd n : Nat) : Nat := wd - (wd - 1) / (n + 1)
theorem grpT_len (n : Nat) {sep : List UInt8} (hs : sep.length = 1) : ∀ l : List UInt8, (grpT n sep l).length = l.length + l.length / n
  | [] => by simp [grpT]
  | b :: l => by
    have ih := grpT_len n hs l
    simp only [grpT, List.length_append, List.length_cons, ih]
    rw [Nat.succ_div]
    by_cases h : (l.length + 1) % n = 0
    · rw [if_pos h, if_pos (Nat.dvd_of_mod_eq_zero h), hs]; omega
    · rw [if_neg h, if_neg (fun d => h (Nat.mod_eq_zero_of_dvd d))]; simp; omega
theorem grp_len (n : Nat) {sep : List UInt8} (hs : sep.length = 1) (l : List UInt8) : (grp n sep l).length = fl n l.length := by
  cases l with
  | nil => rfl
  | cons b l =>
    unfold fl
    rw [if_neg (by simp)]
    simp only [grp, List.length_cons, grpT_len n hs l]
    rw [show l.length + 1 - 1 = l.length by omega]
    omega
theorem cnt_ok {n wd L : Nat} (hn0 : 1 ≤ n) (hn1 : n ≤ 9) (hw : wd ≤ 30) (hL : L ≤ 110) : fl n L < wd ↔ L < cnt wd n := by
  have h : ((List.range 9).all fun n' => (List.range 31).all fun wd => (List.range 111).all fun L => decide (fl (n' + 1) L < wd) == decide (L < cnt wd (n' + 1))) = true := by decide +kernel
  have h1 := List.all_eq_true.1 h (n - 1) (List.mem_range.2 (by omega))
  have h2 := List.all_eq_true.1 h1 wd (List.mem_range.2 (by omega))
  have h3 := List.all_eq_true.1 h2 L (List.mem_range.2 (by omega))
  rw [show n - 1 + 1 = n by omega] at h3
  have h4 := eq_of_beq h3
  exact decide_eq_decide.1 h4
theorem cnt_le {n wd : Nat} : cnt wd n ≤ wd := Nat.sub_le _ _
/-- digits widened with zeros, and grouped -/
def widL (l : List UInt8) (wd n : Nat) (sep : List UInt8) : List UInt8 :=
  if sep = [] then zeros (max wd l.length - l.length) ++ l else grp n sep (zeros (max (cnt wd n) l.length - l.length) ++ l)

set_option maxHeartbeats 400000 in
theorem greater_nat (a b : Nat) (w : World) : Calls Tryz.prog 121 #[.int .i64 a, .int .i64 b] w fun r w' => r = .returned (.int .i64 ((max a b : Nat) : Int)) ∧ w = w' := by
  by_cases h : a < b
  · have i1 : (a : Int) < b := by omega
    go_enter Tryz.func121, Tryz.ntmps121
    go_wp2
    all_goals go_ret
    all_goals exact ⟨ret_int (by omega), rfl⟩
  · have i1 : ¬ (a : Int) < b := by omega
    go_enter Tryz.func121, Tryz.ntmps121
    go_wp2
    all_goals go_ret
    all_goals exact ⟨ret_int (by omega), rfl⟩
set_option maxHeartbeats 400000 in
theorem leastDigits_nat (wd n : Nat) (hw : wd ≤ 30) (hn0 : 1 ≤ n) (hn1 : n ≤ 9) (w : World) : Calls Tryz.prog 122 #[.int .i64 wd, .int .i64 n] w fun r w' => r = .returned (.int .i64 ((cnt wd n : Nat) : Int)) ∧ w = w' := by
  have hd : ((wd : Int) - 1).tdiv ((n : Int) + 1) = (((wd - 1) / (n + 1) : Nat) : Int) := by
    by_cases h0 : wd = 0
    · subst h0
      rw [show (((0 : Nat) : Int) - 1) = -(1 : Int) from rfl, Int.neg_tdiv, Int.tdiv_eq_ediv_of_nonneg (by omega), Int.ediv_eq_zero_of_lt (by omega) (by omega)]
      simp
    · rw [show ((wd : Int) - 1) = ((wd - 1 : Nat) : Int) by omega, show ((n : Int) + 1) = ((n + 1 : Nat) : Int) by omega, Int.tdiv_eq_ediv_of_nonneg (by omega)]
      rfl
  have hq : (wd - 1) / (n + 1) ≤ wd := Nat.le_trans (Nat.div_le_self _ _) (by omega)
  have hc : (wd : Int) - (((wd - 1) / (n + 1) : Nat) : Int) = ((cnt wd n : Nat) : Int) := by unfold cnt; omega
  generalize (wd - 1) / (n + 1) = Q at *
  go_enter Tryz.func122, Tryz.ntmps122
  go_wp2
  all_goals go_ret
  all_goals exact ⟨ret_int (by omega), rfl⟩
theorem Repeat_zeros (m : Nat) (hm : m ≤ 1000) (w : World) : Calls Tryz.prog 91 #[.string ⟨#[48]⟩, .int .i64 m] w fun r w' => r = .returned (.string ⟨(zeros m).toArray⟩) ∧ Below w.heap.size w w' := by
  have h := Tryz.strings_Repeat ⟨#[48]⟩ m w (by omega) (by show 1 * m ≤ _; omega)
  rw [show (⟨#[48]⟩ : ByteArray).data.toList = [48] from rfl, repeat_zeros] at h
  exact h
end Go.Proofs.YtamlnbciejnbdaaGreatDoor
