import Derived.Test.YtebheehjhnaklaaGreatDoorY10
namespace Go.Proofs.YtebheehjhnaklaaGreatDoor
open Go.RowKit
def zeros (m : Nat) : List UInt8 := List.replicate m 48
theorem repeat_zeros : ∀ m : Nat, Lib.repeatL [48] m = zeros m
  | 0 => rfl
  | m + 1 => by
    have h := repeat_zeros m
    simp [Lib.repeatL, zeros, List.replicate_succ] at h ⊢
    try exact h
/-- the length of grouped digits -/
def fl (n L : Nat) : Nat := if L = 0 then 0 else L + (L - 1) / n
/-- the least digits that are width bytes when they are grouped -/
def cnt (wd n : Nat) : Nat := wd - (wd - 1) / (n + 1)
theorem grpT_len (n : Nat) {sep : List UInt8} (hs : sep.length = 1) : ∀ l : List UInt8, (grpT n sep l).length = l.length + l.length / n
  | [] => by simp [grpT]
  | b :: l => by
    have ih := grpT_len n hs l
    simp only [grpT, List.length_append, List.length_cons, ih]
    rw [Nat.succ_div]
    by_cases h : (l.length + 1) % n = 0
    · rw [if_pos h, if_pos (Nat.dvd_of_mod_eq_zero h), hs]; omega
    · rw [if_neg h, if_neg (fun d => h (Nat.mod_eq_zero_of_dvd d))]; simp; omega
theorem grp_len (n : Nat) {sep : List UInt8} (hs : sep.length = 1) (l : List UInt8) : (grp n sep l).length = fl n l.length := by
  cases l with
  | nil => rfl
  | cons b l =>
    unfold fl
    rw [if_neg (by simp)]
    simp only [grp, List.length_cons, grpT_len n hs l]
    rw [show l.length + 1 - 1 = l.length by omega]
    omega
theorem cnt_ok {n wd L : Nat} (hn0 : 1 ≤ n) (hn1 : n ≤ 9) (hw : wd ≤ 30) (hL : L ≤ 110) : fl n L < wd ↔ L < cnt wd n := by
  have h : ((List.range 9).all fun n' => (List.range 31).all fun wd => (List.range 111).all fun L => decide (fl (n' + 1) L < wd) == decide (L < cnt wd (n' + 1))) = true := by decide +kernel
  have h1 := List.all_eq_true.1 h (n - 1) (List.mem_range.2 (by omega))
  have h2 := List.all_eq_true.1 h1 wd (List.mem_range.2 (by omega))
  have h3 := List.all_eq_true.1 h2 L (List.mem_range.2 (by omega))
  rw [show n - 1 + 1 = n by omega] at h3
  have h4 := eq_of_beq h3
  exact decide_eq_decide.1 h4
theorem cnt_le {n wd : Nat} : cnt wd n ≤ wd := Nat.sub_le _ _
/-- digits widened with zeros, and grouped -/
def widL (l : List UInt8) (wd n : Nat) (sep : List UInt8) : List UInt8 :=
  if sep = [] then zeros (max wd l.length - l.length) ++ l else grp n sep (zeros (max (cnt wd n) l.length - l.length) ++ l)
set_option maxHeartbeats 400000 in
theorem greater_nat (a b : Nat) (w : World) : Calls Tryz.prog 166 #[.int .i64 a, .int .i64 b] w fun r w' => r = .returned (.int .i64 ((max a b : Nat) : Int)) ∧ w = w' := by
  by_cases h : a < b
  · have i1 : (a : Int) < b := by omega
    go_enter Tryz.func166, Tryz.ntmps166
    go_wp2
    all_goals go_ret
    all_goals exact ⟨ret_int (by omega), rfl⟩
  · have i1 : ¬ (a : Int) < b := by omega
    go_enter Tryz.func166, Tryz.ntmps166
    go_wp2
    all_goals go_ret
    all_goals exact ⟨ret_int (by omega), rfl⟩
set_option maxHeartbeats 400000 in
theorem leastDigits_nat (wd n : Nat) (hw : wd ≤ 30) (hn0 : 1 ≤ n) (hn1 : n ≤ 9) (w : World) : Calls Tryz.prog 206 #[.int .i64 wd, .int .i64 n] w fun r w' => r = .returned (.int .i64 ((cnt wd n : Nat) : Int)) ∧ w = w' := by
  have hd : ((wd : Int) - 1).tdiv ((n : Int) + 1) = (((wd - 1) / (n + 1) : Nat) : Int) := by
    by_cases h0 : wd = 0
    · subst h0
      rw [show (((0 : Nat) : Int) - 1) = -(1 : Int) from rfl, Int.neg_tdiv, Int.tdiv_eq_ediv_of_nonneg (by omega), Int.ediv_eq_zero_of_lt (by omega) (by omega)]
      simp
    · rw [show ((wd : Int) - 1) = ((wd - 1 : Nat) : Int) by omega, show ((n : Int) + 1) = ((n + 1 : Nat) : Int) by omega, Int.tdiv_eq_ediv_of_nonneg (by omega)]
      rfl
  have hq : (wd - 1) / (n + 1) ≤ wd := Nat.le_trans (Nat.div_le_self _ _) (by omega)
  have hc : (wd : Int) - (((wd - 1) / (n + 1) : Nat) : Int) = ((cnt wd n : Nat) : Int) := by unfold cnt; omega
  generalize (wd - 1) / (n + 1) = Q at *
  go_enter Tryz.func206, Tryz.ntmps206
  go_wp2
  all_goals go_ret
  all_goals exact ⟨ret_int (by omega), rfl⟩
theorem Repeat_zeros (m : Nat) (hm : m ≤ 1000) (w : World) : Calls Tryz.prog 163 #[.string ⟨#[48]⟩, .int .i64 m] w fun r w' => r = .returned (.string ⟨(zeros m).toArray⟩) ∧ Below w.heap.size w w' := by
  have h := Tryz.strings_Repeat ⟨#[48]⟩ m w (by omega) (by show 1 * m ≤ _; omega)
  rw [show (⟨#[48]⟩ : ByteArray).data.toList = [48] from rfl, repeat_zeros] at h
  exact h
end Go.Proofs.YtebheehjhnaklaaGreatDoor
namespace Go.Proofs.YtebheehjhnaklaaGreatDoor
open Go.RowKit
def widW (s : ByteArray) (wd n : Int) (sep : ByteArray) : ByteArray := if s.size ≤ 80 ∧ 0 ≤ wd ∧ wd ≤ 30 ∧ 1 ≤ n ∧ n ≤ 9 ∧ sep.size ≤ 1 then ⟨(widL s.data.toList wd.toNat n.toNat sep.data.toList).toArray⟩ else ⟨#[]⟩
theorem widW_no {s : ByteArray} {wd n : Int} {sep : ByteArray} (h : ¬ (s.size ≤ 80 ∧ 0 ≤ wd ∧ wd ≤ 30 ∧ 1 ≤ n ∧ n ≤ 9 ∧ sep.size ≤ 1)) : widW s wd n sep = ⟨#[]⟩ := if_neg h
theorem widW_yes {s : ByteArray} {wd n : Nat} {sep : ByteArray} (h1 : s.size ≤ 80) (h2 : wd ≤ 30) (h3 : 1 ≤ n) (h4 : n ≤ 9) (h5 : sep.size ≤ 1) : widW s wd n sep = ⟨(widL s.data.toList wd n sep.data.toList).toArray⟩ := by unfold widW; rw [if_pos ⟨h1, by omega, by omega, by omega, by omega, h5⟩]; rfl
theorem list_size (s : ByteArray) : s.data.toList.length = s.size := by rw [Array.length_toList]; rfl
theorem cat_size (a : List UInt8) (s : ByteArray) : ((⟨a.toArray⟩ : ByteArray) ++ s).size = a.length + s.size := by rw [ByteArray.size_append]; rfl
theorem cat_list (a : List UInt8) (s : ByteArray) : ((⟨a.toArray⟩ : ByteArray) ++ s).data.toList = a ++ s.data.toList := by rw [ByteArray.data_append]; simp
theorem zeros_len (m : Nat) : (zeros m).length = m := by simp [zeros]
set_option maxRecDepth 100000 in
set_option maxHeartbeats 4000000 in
theorem WidenDigits_any (s : ByteArray) (wd n : Int) (sep : ByteArray) (w : World) (_hs : s.size ≤ 9223372036854775807) (hsep : sep.size ≤ 9223372036854775807) :
    Calls Tryz.prog 151 #[.string s, .int .i64 wd, .int .i64 n, .string sep] w fun r w' => r = .returned (.string (widW s wd n sep)) ∧ Below w.heap.size w w' := by
  have k1 := fun W => within_any wd 0 30 W
  have k2 := fun W => within_any n 1 9 W
  by_cases h : s.size ≤ 80 ∧ 0 ≤ wd ∧ wd ≤ 30 ∧ 1 ≤ n ∧ n ≤ 9 ∧ sep.size ≤ 1
  · obtain ⟨h1, h2, h3, h4, h5, h6⟩ := h
    obtain ⟨wd, rfl⟩ := Int.eq_ofNat_of_zero_le h2
    obtain ⟨n, rfl⟩ := Int.eq_ofNat_of_zero_le (show 0 ≤ n by omega)
    rw [widW_yes h1 (by omega) (by omega) (by omega) h6]
    rw [show inr (wd : Int) 0 30 = true by simp [inr]; omega] at k1
    rw [show inr (n : Int) 1 9 = true by simp [inr]; omega] at k2
    have i1 : (s.size : Int) ≤ 80 := by omega
    by_cases h0 : sep.size = 0
    · obtain rfl := size_zero h0
      have hw : widL s.data.toList wd n (⟨#[]⟩ : ByteArray).data.toList = zeros (max wd s.size - s.size) ++ s.data.toList := by unfold widL; rw [if_pos rfl, list_size]
      rw [hw]
      have kg := fun W => greater_nat wd s.size W
      have kr := fun W => Repeat_zeros (max wd s.size - s.size) (by omega) W
      have hsub : ((max wd s.size : Nat) : Int) - s.size = ((max wd s.size - s.size : Nat) : Int) := by omega
      have hmb : max wd s.size - s.size ≤ 110 := by omega
      have hMb : max wd s.size ≤ 110 := by omega
      generalize max wd s.size - s.size = m at *
      generalize max wd s.size = M at *
      have hzl : (zeros m).length + s.size ≤ 9223372036854775807 := by rw [zeros_len]; omega
      have K1 := Lib.hid k1; have K2 := Lib.hid k2; have KG := Lib.hid kg; have KR := Lib.hid kr
      clear k1 k2 kg kr hw
      go_enter Tryz.func151, Tryz.ntmps151
      go_wp2_with (first | (go_at_call 44; (with_reducible refine Calls.mono (K1.out _) ?_); rintro r w1 ⟨rfl, rfl⟩) | (go_at_call 44; (with_reducible refine Calls.mono (K2.out _) ?_); rintro r w1 ⟨rfl, rfl⟩) | (go_at_call 166; (with_reducible refine Calls.mono (KG.out _) ?_); rintro r w1 ⟨rfl, rfl⟩) | (go_at_call 163; (with_reducible refine Calls.mono (KR.out _) ?_); rintro r w1 ⟨rfl, hb⟩; have hB : Below w.heap.size w w1 := hb))
      go_ret
      exact ⟨ret_str (cat_two _ _), hB⟩
    · have h7 : sep.size = 1 := by omega
      have hne : sep.toList.isEmpty = false := nonempty_list (by omega)
      have hnn : ¬ sep.data.toList = [] := fun e => by have := list_size sep; rw [e] at this; simp at this; omega
      have hw : widL s.data.toList wd n sep.data.toList = grp n sep.data.toList (zeros (max (cnt wd n) s.size - s.size) ++ s.data.toList) := by unfold widL; rw [if_neg hnn, list_size]
      rw [hw]
      have hcl := @cnt_le n wd
      have kl := fun W => leastDigits_nat wd n (by omega) (by omega) (by omega) W
      have kg := fun W => greater_nat (cnt wd n) s.size W
      have kr := fun W => Repeat_zeros (max (cnt wd n) s.size - s.size) (by omega) W
      have kd := fun W => GroupDigits_any ((⟨(zeros (max (cnt wd n) s.size - s.size)).toArray⟩ : ByteArray) ++ s) n sep W (by rw [cat_size, zeros_len]; omega) hsep
      rw [grpW_yes (by rw [cat_size, zeros_len]; omega), cat_list] at kd
      have hsub : ((max (cnt wd n) s.size : Nat) : Int) - s.size = ((max (cnt wd n) s.size - s.size : Nat) : Int) := by omega
      have hcat := cat_two (zeros (max (cnt wd n) s.size - s.size)) s
      rw [hcat] at kd
      have hmb : max (cnt wd n) s.size - s.size ≤ 110 := by omega
      have hMb : max (cnt wd n) s.size ≤ 110 := by omega
      generalize max (cnt wd n) s.size - s.size = m at *
      generalize max (cnt wd n) s.size = M at *
      have hzl : (zeros m).length + s.size ≤ 9223372036854775807 := by rw [zeros_len]; omega
      generalize cnt wd n = C at *
      generalize grp n sep.data.toList (zeros m ++ s.data.toList) = G at *
      have K1 := Lib.hid k1; have K2 := Lib.hid k2; have KG := Lib.hid kg; have KR := Lib.hid kr; have KL := Lib.hid kl; have KD := Lib.hid kd
      clear k1 k2 kg kr kl kd hw
      go_enter Tryz.func151, Tryz.ntmps151
      go_wp2_with (first | (go_at_call 44; (with_reducible refine Calls.mono (K1.out _) ?_); rintro r w1 ⟨rfl, rfl⟩) | (go_at_call 44; (with_reducible refine Calls.mono (K2.out _) ?_); rintro r w1 ⟨rfl, rfl⟩) | (go_at_call 166; (with_reducible refine Calls.mono (KG.out _) ?_); rintro r w1 ⟨rfl, rfl⟩) | (go_at_call 163; (with_reducible refine Calls.mono (KR.out _) ?_); rintro r w1 ⟨rfl, hb⟩; have hB : Below w.heap.size w w1 := hb) | (go_at_call 206; (with_reducible refine Calls.mono (KL.out _) ?_); rintro r w1 ⟨rfl, rfl⟩) | (go_at_call 207; (with_reducible refine Calls.mono (KD.out _) ?_); rintro r w2 ⟨rfl, hb2⟩; replace hB := hB.trans (hb2.mono hB.size)))
      go_ret
      exact ⟨rfl, hB⟩
  · rw [widW_no h]
    by_cases h1 : s.size ≤ 80
    · have i1 : (s.size : Int) ≤ 80 := by omega
      by_cases h2 : 0 ≤ wd ∧ wd ≤ 30
      · rw [show inr wd 0 30 = true by simp [inr]; omega] at k1
        by_cases h3 : 1 ≤ n ∧ n ≤ 9
        · have h4 : ¬ sep.size ≤ 1 := fun e => h ⟨h1, h2.1, h2.2, h3.1, h3.2, e⟩
          have i4 : (1 : Int) < sep.size := by omega
          rw [show inr n 1 9 = true by simp [inr]; omega] at k2
          have K1 := Lib.hid k1; have K2 := Lib.hid k2
          clear k1 k2 h
          go_enter Tryz.func151, Tryz.ntmps151
          go_wp2_with (first | (go_at_call 44; (with_reducible refine Calls.mono (K1.out _) ?_); rintro r w1 ⟨rfl, rfl⟩) | (go_at_call 44; (with_reducible refine Calls.mono (K2.out _) ?_); rintro r w1 ⟨rfl, rfl⟩))
          all_goals go_ret
          all_goals exact ⟨rfl, (by repeat (first | with_reducible exact Below.refl _ _ | with_reducible assumption | with_reducible refine Below.setCell ?_ (by first | omega | (simp; done) | (simp <;> omega)) _ | with_reducible refine below_drewN ?_ _ | with_reducible refine Below.drew ?_ | with_reducible refine Below.alloc ?_ (by first | omega | (simp; done) | (simp <;> omega)) _))⟩
        · rw [show inr n 1 9 = false by simp [inr]; omega] at k2
          have K1 := Lib.hid k1; have K2 := Lib.hid k2
          clear k1 k2 h
          go_enter Tryz.func151, Tryz.ntmps151
          go_wp2_with (first | (go_at_call 44; (with_reducible refine Calls.mono (K1.out _) ?_); rintro r w1 ⟨rfl, rfl⟩) | (go_at_call 44; (with_reducible refine Calls.mono (K2.out _) ?_); rintro r w1 ⟨rfl, rfl⟩))
          all_goals go_ret
          all_goals exact ⟨rfl, (by repeat (first | with_reducible exact Below.refl _ _ | with_reducible assumption | with_reducible refine Below.setCell ?_ (by first | omega | (simp; done) | (simp <;> omega)) _ | with_reducible refine below_drewN ?_ _ | with_reducible refine Below.drew ?_ | with_reducible refine Below.alloc ?_ (by first | omega | (simp; done) | (simp <;> omega)) _))⟩
      · rw [show inr wd 0 30 = false by simp [inr]; omega] at k1
        have K1 := Lib.hid k1; have K2 := Lib.hid k2
        clear k1 k2 h
        go_enter Tryz.func151, Tryz.ntmps151
        go_wp2_with (first | (go_at_call 44; (with_reducible refine Calls.mono (K1.out _) ?_); rintro r w1 ⟨rfl, rfl⟩) | (go_at_call 44; (with_reducible refine Calls.mono (K2.out _) ?_); rintro r w1 ⟨rfl, rfl⟩))
        all_goals go_ret
        all_goals exact ⟨rfl, (by repeat (first | with_reducible exact Below.refl _ _ | with_reducible assumption | with_reducible refine Below.setCell ?_ (by first | omega | (simp; done) | (simp <;> omega)) _ | with_reducible refine below_drewN ?_ _ | with_reducible refine Below.drew ?_ | with_reducible refine Below.alloc ?_ (by first | omega | (simp; done) | (simp <;> omega)) _))⟩
    · have i1 : (80 : Int) < s.size := by omega
      clear h
      go_enter Tryz.func151, Tryz.ntmps151
      go_wp2
      all_goals go_ret
      all_goals exact ⟨rfl, (by repeat (first | with_reducible exact Below.refl _ _ | with_reducible assumption | with_reducible refine Below.setCell ?_ (by first | omega | (simp; done) | (simp <;> omega)) _ | with_reducible refine below_drewN ?_ _ | with_reducible refine Below.drew ?_ | with_reducible refine Below.alloc ?_ (by first | omega | (simp; done) | (simp <;> omega)) _))⟩
end Go.Proofs.YtebheehjhnaklaaGreatDoor
namespace Go.Proofs.YtebheehjhnaklaaGreatDoor
open Go.RowKit
def joinL (n : Nat) (sep l : List UInt8) : List UInt8 := if sep = [] then l else grp n sep l
set_option maxHeartbeats 1000000 in
theorem joinedS_any (l : List UInt8) (n : Nat) (sep : ByteArray) (w : World) (hs : l.length ≤ 1000) (hn0 : 1 ≤ n) (hn1 : n ≤ 9) (hsep : sep.size ≤ 1) :
    Calls Tryz.prog 242 #[.string ⟨l.toArray⟩, .int .i64 n, .string sep] w fun r w' => r = .returned (.string ⟨(joinL n sep.data.toList l).toArray⟩) ∧ w = w' := by
  have k1 := fun W => groupedS_any ⟨l.toArray⟩ n sep W hs hn0 hn1 hsep
  rw [show (⟨l.toArray⟩ : ByteArray).data.toList = l from rfl] at k1
  by_cases h0 : sep.size = 0
  · obtain rfl := size_zero h0
    rw [show joinL n (⟨#[]⟩ : ByteArray).data.toList l = l from if_pos rfl]
    clear k1
    go_enter Tryz.func242, Tryz.ntmps242
    go_wp2
    go_ret
    exact ⟨rfl, rfl⟩
  · have hne : sep.toList.isEmpty = false := nonempty_list (by omega)
    have hnn : ¬ sep.data.toList = [] := fun e => by have := list_size sep; rw [e] at this; simp at this; omega
    rw [show joinL n sep.data.toList l = grp n sep.data.toList l from if_neg hnn]
    have K1 := Lib.hid k1
    clear k1
    go_enter Tryz.func242, Tryz.ntmps242
    go_wp2_with (go_at_call 199; (with_reducible refine Calls.mono (K1.out _) ?_); rintro r w1 ⟨rfl, rfl⟩)
    go_ret
    exact ⟨rfl, rfl⟩
/-- so many zeros come ahead -/
def tz (wd n size : Nat) (sep : List UInt8) : Nat := if sep = [] then max wd size - size else max (cnt wd n) size - size
theorem tz_ok {wd n size j : Nat} {sep l : List UInt8} (hl : l.length = size) (hs : size ≤ 80) (hw : wd ≤ 30) (hn0 : 1 ≤ n) (hn1 : n ≤ 9) (h1 : sep.length ≤ 1) (hj : j ≤ tz wd n size sep) :
    (joinL n sep (zeros j ++ l)).length < wd ↔ j < tz wd n size sep := by
  have hc := @cnt_le n wd
  unfold joinL
  unfold tz at hj ⊢
  by_cases h : sep = []
  · rw [if_pos h] at hj ⊢
    rw [if_pos h, List.length_append, zeros_len, hl]
    omega
  · rw [if_neg h] at hj ⊢
    have h1' : sep.length = 1 := by
      have : sep.length ≠ 0 := fun e => h (List.length_eq_zero_iff.1 e)
      omega
    rw [if_neg h, grp_len n h1', List.length_append, zeros_len, hl, cnt_ok hn0 hn1 hw (by omega)]
    omega
theorem tz_le {wd n size : Nat} {sep : List UInt8} (hw : wd ≤ 30) : tz wd n size sep ≤ 30 := by
  have hc := @cnt_le n wd
  unfold tz
  split <;> omega
theorem widL_eq {wd n : Nat} {sep l : List UInt8} : widL l wd n sep = joinL n sep (zeros (tz wd n l.length sep) ++ l) := by
  unfold widL joinL tz
  by_cases h : sep = []
  · simp only [if_pos h]
  · simp only [if_neg h]
theorem cat_zero (j : Nat) (l : List UInt8) : (⟨#[48]⟩ : ByteArray) ++ ⟨(zeros j ++ l).toArray⟩ = ⟨(zeros (j + 1) ++ l).toArray⟩ := cat_l [48] (zeros j ++ l)
set_option maxRecDepth 100000 in
set_option maxHeartbeats 4000000 in
theorem widenedS_any (s : ByteArray) (wd : Int) (n : Nat) (sep : ByteArray) (w : World) (hs : s.size ≤ 80) (hw : wd ≤ 30) (hn0 : 1 ≤ n) (hn1 : n ≤ 9) (hsep : sep.size ≤ 1) :
    Calls Tryz.prog 241 #[.string s, .int .i64 wd, .int .i64 n, .string sep] w fun r w' => r = .returned (.string ⟨(widL s.data.toList wd.toNat n sep.data.toList).toArray⟩) ∧ w = w' := by
  have hls := list_size s
  have hsl : sep.data.toList.length ≤ 1 := by rw [list_size]; exact hsep
  have ht := @tz_le wd.toNat n s.size sep.data.toList (by omega)
  have tok := fun j h => tz_ok (wd := wd.toNat) (n := n) (j := j) (sep := sep.data.toList) hls hs (by omega) hn0 hn1 hsl h
  have kj := fun j h W => joinedS_any (zeros j ++ s.data.toList) n sep W (by rw [List.length_append, zeros_len, hls]; exact h) hn0 hn1 hsep
  rw [widL_eq, hls]
  have e0 : s = ⟨(zeros 0 ++ s.data.toList).toArray⟩ := of_list s
  generalize s.data.toList = l at *
  subst e0
  generalize tz wd.toNat n (⟨(zeros 0 ++ l).toArray⟩ : ByteArray).size sep.data.toList = T at *
  generalize hSZ : (⟨(zeros 0 ++ l).toArray⟩ : ByteArray).size = SZ at *
  have TOK := Lib.hid tok; have KJ := Lib.hid kj
  clear tok kj hSZ
  go_enter Tryz.func241, Tryz.ntmps241
  go_wp2
  go_loopg [0] T (fun g s0 wr => ∃ j : Nat, wr = w ∧ s0 = .string ⟨(zeros j ++ l).toArray⟩ ∧ j ≤ T ∧ Aside (g = T - j))
  case atStart => exact ⟨0, rfl, rfl, by omega, by show _ = _; omega⟩
  case round =>
    obtain ⟨j, rfl, rfl, hj, hg⟩ := hrel
    have hg' := hg.out
    have tj := TOK.out j hj
    have kj := KJ.out j (by omega)
    clear hg
    by_cases hlt : j < T
    · have i0 := tj.2 hlt
      have hzl : (zeros j).length + l.length ≤ 200 := by rw [zeros_len]; omega
      generalize joinL n sep.data.toList (zeros j ++ l) = X at *
      have i1 : (X.length : Int) < wd := by omega
      have KK := Lib.hid kj
      clear kj tj i0
      go_wp2_with (go_at_call 242; (with_reducible refine Calls.mono (KK.out _) ?_); rintro r w1 ⟨rfl, rfl⟩)
      go_roundg (T - (j + 1))
      case measure => omega
      case rel => exact ⟨j + 1, rfl, by rw [cat_zero], by omega, rfl⟩
    · obtain rfl : j = T := by omega
      have i0 : ¬ (joinL n sep.data.toList (zeros j ++ l)).length < wd.toNat := fun e => hlt (tj.1 e)
      generalize hX : joinL n sep.data.toList (zeros j ++ l) = X at *
      have HX := Lib.hid hX
      clear hX
      have i1 : ¬ (X.length : Int) < wd := by omega
      have KK := Lib.hid kj
      clear kj tj i0
      go_wp2_with (go_at_call 242; (with_reducible refine Calls.mono (KK.out _) ?_); rintro r w1 ⟨rfl, rfl⟩)
      go_ret
      exact ⟨ret_str (by rw [HX.out]), rfl⟩
end Go.Proofs.YtebheehjhnaklaaGreatDoor
