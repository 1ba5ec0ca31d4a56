import Derived.Test.YtamlnbciejnbdaaGreatDoorY11
namespace Go.Proofs.YtamlnbciejnbdaaGreatDoor
open Go.RowKit

def widW (s : ByteArray) (wd n : Int) (sep : ByteArray) : ByteArray := if s.size ≤ 80 ∧ 0 ≤ wd ∧ wd ≤ 30 ∧ 1 ≤ n ∧ n ≤ 9 ∧ sep.size ≤ 1 then ⟨(widL s.data.toList wd.toNat n.toNat sep.data.toList).toArray⟩ else ⟨#[]⟩
theorem widW_no {s : ByteArray} {wd n : Int} {sep : ByteArray} (h : ¬ (s.size ≤ 80 ∧ 0 ≤ wd ∧ wd ≤ 30 ∧ 1 ≤ n ∧ n ≤ 9 ∧ sep.size ≤ 1)) : widW s wd n sep = ⟨#[]⟩ := if_neg h
theorem widW_yes {s : ByteArray} {wd n : Nat} {sep : ByteArray} (h1 : s.size ≤ 80) (h2 : wd ≤ 30) (h3 : 1 ≤ n) (h4 : n ≤ 9) (h5 : sep.size ≤ 1) : widW s wd n sep = ⟨(widL s.data.toList wd n sep.data.toList).toArray⟩ := by unfold widW; rw [if_pos ⟨h1, by omega, by omega, by omega, by omega, h5⟩]; rfl
theorem list_size (s : ByteArray) : s.data.toList.length = s.size := by rw [Array.length_toList]; rfl
theorem cat_size (a : List UInt8) (s : ByteArray) : ((⟨a.toArray⟩ : ByteArray) ++ s).size = a.length + s.size := by rw [ByteArray.size_append]; rfl
theorem cat_list (a : List UInt8) (s : ByteArray) : ((⟨a.toArray⟩ : ByteArray) ++ s).data.toList = a ++ s.data.toList := by rw [ByteArray.data_append]; simp
theorem zeros_len (m : Nat) : (zeros m).length = m := by simp [zeros]
set_option maxRecDepth 100000 in
set_option maxHeartbeats 4000000 in
theorem WidenDigits_any (s : ByteArray) (wd n : Int) (sep : ByteArray) (w : World) (_hs : s.size ≤ 9223372036854775807) (hsep : sep.size ≤ 9223372036854775807) :
    Calls Tryz.prog 78 #[.string s, .int .i64 wd, .int .i64 n, .string sep] w fun r w' => r = .returned (.string (widW s wd n sep)) ∧ Below w.heap.size w w' := by
  have k1 := fun W => within_any wd 0 30 W
  have k2 := fun W => within_any n 1 9 W
  by_cases h : s.size ≤ 80 ∧ 0 ≤ wd ∧ wd ≤ 30 ∧ 1 ≤ n ∧ n ≤ 9 ∧ sep.size ≤ 1
  · obtain ⟨h1, h2, h3, h4, h5, h6⟩ := h
    obtain ⟨wd, rfl⟩ := Int.eq_ofNat_of_zero_le h2
    obtain ⟨n, rfl⟩ := Int.eq_ofNat_of_zero_le (show 0 ≤ n by omega)
    rw [widW_yes h1 (by omega) (by omega) (by omega) h6]
    rw [show inr (wd : Int) 0 30 = true by simp [inr]; omega] at k1
    rw [show inr (n : Int) 1 9 = true by simp [inr]; omega] at k2
    have i1 : (s.size : Int) ≤ 80 := by omega
    by_cases h0 : sep.size = 0
    · obtain rfl := size_zero h0
      have hw : widL s.data.toList wd n (⟨#[]⟩ : ByteArray).data.toList = zeros (max wd s.size - s.size) ++ s.data.toList := by unfold widL; rw [if_pos rfl, list_size]
      rw [hw]
      have kg := fun W => greater_nat wd s.size W
      have kr := fun W => Repeat_zeros (max wd s.size - s.size) (by omega) W
      have hsub : ((max wd s.size : Nat) : Int) - s.size = ((max wd s.size - s.size : Nat) : Int) := by omega
      have hmb : max wd s.size - s.size ≤ 110 := by omega
      have hMb : max wd s.size ≤ 110 := by omega
      generalize max wd s.size - s.size = m at *
      generalize max wd s.size = M at *
      have hzl : (zeros m).length + s.size ≤ 9223372036854775807 := by rw [zeros_len]; omega
      have K1 := Lib.hid k1; have K2 := Lib.hid k2; have KG := Lib.hid kg; have KR := Lib.hid kr
      clear k1 k2 kg kr hw
      go_enter Tryz.func78, Tryz.ntmps78
      go_wp2_with (first | (go_at_call 42; (with_reducible refine Calls.mono (K1.out _) ?_); rintro r w1 ⟨rfl, rfl⟩) | (go_at_call 42; (with_reducible refine Calls.mono (K2.out _) ?_); rintro r w1 ⟨rfl, rfl⟩) | (go_at_call 121; (with_reducible refine Calls.mono (KG.out _) ?_); rintro r w1 ⟨rfl, rfl⟩) | (go_at_call 91; (with_reducible refine Calls.mono (KR.out _) ?_); rintro r w1 ⟨rfl, hb⟩; have hB : Below w.heap.size w w1 := hb))
      go_ret
      exact ⟨ret_str (cat_two _ _), hB⟩
    · have h7 : sep.size = 1 := by omega
      have hne : sep.toList.isEmpty = false := nonempty_list (by omega)
      have hnn : ¬ sep.data.toList = [] := fun e => by have := list_size sep; rw [e] at this; simp at this; omega
      have hw : widL s.data.toList wd n sep.data.toList = grp n sep.data.toList (zeros (max (cnt wd n) s.size - s.size) ++ s.data.toList) := by unfold widL; rw [if_neg hnn, list_size]
      rw [hw]
      have hcl := @cnt_le n wd
      have kl := fun W => leastDigits_nat wd n (by omega) (by omega) (by omega) W
      have kg := fun W => greater_nat (cnt wd n) s.size W
      have kr := fun W => Repeat_zeros (max (cnt wd n) s.size - s.size) (by omega) W
      have kd := fun W => GroupDigits_any ((⟨(zeros (max (cnt wd n) s.size - s.size)).toArray⟩ : ByteArray) ++ s) n sep W (by rw [cat_size, zeros_len]; omega) hsep
      rw [grpW_yes (by rw [cat_size, zeros_len]; omega), cat_list] at kd
      have hsub : ((max (cnt wd n) s.size : Nat) : Int) - s.size = ((max (cnt wd n) s.size - s.size : Nat) : Int) := by omega
      have hcat := cat_two (zeros (max (cnt wd n) s.size - s.size)) s
      rw [hcat] at kd
      have hmb : max (cnt wd n) s.size - s.size ≤ 110 := by omega
      have hMb : max (cnt wd n) s.size ≤ 110 := by omega
      generalize max (cnt wd n) s.size - s.size = m at *
      generalize max (cnt wd n) s.size = M at *
      have hzl : (zeros m).length + s.size ≤ 9223372036854775807 := by rw [zeros_len]; omega
      generalize cnt wd n = C at *
      generalize grp n sep.data.toList (zeros m ++ s.data.toList) = G at *
      have K1 := Lib.hid k1; have K2 := Lib.hid k2; have KG := Lib.hid kg; have KR := Lib.hid kr; have KL := Lib.hid kl; have KD := Lib.hid kd
      clear k1 k2 kg kr kl kd hw
      go_enter Tryz.func78, Tryz.ntmps78
      go_wp2_with (first | (go_at_call 42; (with_reducible refine Calls.mono (K1.out _) ?_); rintro r w1 ⟨rfl, rfl⟩) | (go_at_call 42; (with_reducible refine Calls.mono (K2.out _) ?_); rintro r w1 ⟨rfl, rfl⟩) | (go_at_call 121; (with_reducible refine Calls.mono (KG.out _) ?_); rintro r w1 ⟨rfl, rfl⟩) | (go_at_call 91; (with_reducible refine Calls.mono (KR.out _) ?_); rintro r w1 ⟨rfl, hb⟩; have hB : Below w.heap.size w w1 := hb) | (go_at_call 122; (with_reducible refine Calls.mono (KL.out _) ?_); rintro r w1 ⟨rfl, rfl⟩) | (go_at_call 123; (with_reducible refine Calls.mono (KD.out _) ?_); rintro r w2 ⟨rfl, hb2⟩; replace hB := hB.trans (hb2.mono hB.size)))
      go_ret
      exact ⟨rfl, hB⟩
  · rw [widW_no h]
    by_cases h1 : s.size ≤ 80
    · have i1 : (s.size : Int) ≤ 80 := by omega
      by_cases h2 : 0 ≤ wd ∧ wd ≤ 30
      · rw [show inr wd 0 30 = true by simp [inr]; omega] at k1
        by_cases h3 : 1 ≤ n ∧ n ≤ 9
        · have h4 : ¬ sep.size ≤ 1 := fun e => h ⟨h1, h2.1, h2.2, h3.1, h3.2, e⟩
          have i4 : (1 : Int) < sep.size := by omega
          rw [show inr n 1 9 = true by simp [inr]; omega] at k2
          have K1 := Lib.hid k1; have K2 := Lib.hid k2
          clear k1 k2 h
          go_enter Tryz.func78, Tryz.ntmps78
          go_wp2_with (first | (go_at_call 42; (with_reducible refine Calls.mono (K1.out _) ?_); rintro r w1 ⟨rfl, rfl⟩) | (go_at_call 42; (with_reducible refine Calls.mono (K2.out _) ?_); rintro r w1 ⟨rfl, rfl⟩))
          all_goals go_ret
          all_goals exact ⟨rfl, (by repeat (first | with_reducible exact Below.refl _ _ | with_reducible assumption | with_reducible refine Below.setCell ?_ (by first | omega | (simp; done) | (simp <;> omega)) _ | with_reducible refine below_drewN ?_ _ | with_reducible refine Below.drew ?_ | with_reducible refine Below.alloc ?_ (by first | omega | (simp; done) | (simp <;> omega)) _))⟩
        · rw [show inr n 1 9 = false by simp [inr]; omega] at k2
          have K1 := Lib.hid k1; have K2 := Lib.hid k2
          clear k1 k2 h
          go_enter Tryz.func78, Tryz.ntmps78
          go_wp2_with (first | (go_at_call 42; (with_reducible refine Calls.mono (K1.out _) ?_); rintro r w1 ⟨rfl, rfl⟩) | (go_at_call 42; (with_reducible refine Calls.mono (K2.out _) ?_); rintro r w1 ⟨rfl, rfl⟩))
          all_goals go_ret
          all_goals exact ⟨rfl, (by repeat (first | with_reducible exact Below.refl _ _ | with_reducible assumption | with_reducible refine Below.setCell ?_ (by first | omega | (simp; done) | (simp <;> omega)) _ | with_reducible refine below_drewN ?_ _ | with_reducible refine Below.drew ?_ | with_reducible refine Below.alloc ?_ (by first | omega | (simp; done) | (simp <;> omega)) _))⟩
      · rw [show inr wd 0 30 = false by simp [inr]; omega] at k1
        have K1 := Lib.hid k1; have K2 := Lib.hid k2
        clear k1 k2 h
        go_enter Tryz.func78, Tryz.ntmps78
        go_wp2_with (first | (go_at_call 42; (with_reducible refine Calls.mono (K1.out _) ?_); rintro r w1 ⟨rfl, rfl⟩) | (go_at_call 42; (with_reducible refine Calls.mono (K2.out _) ?_); rintro r w1 ⟨rfl, rfl⟩))
        all_goals go_ret
        all_goals exact ⟨rfl, (by repeat (first | with_reducible exact Below.refl _ _ | with_reducible assumption | with_reducible refine Below.setCell ?_ (by first | omega | (simp; done) | (simp <;> omega)) _ | with_reducible refine below_drewN ?_ _ | with_reducible refine Below.drew ?_ | with_reducible refine Below.alloc ?_ (by first | omega | (simp; done) | (simp <;> omega)) _))⟩
    · have i1 : (80 : Int) < s.size := by omega
      clear h
      go_enter Tryz.func78, Tryz.ntmps78
      go_wp2
      all_goals go_ret
      all_goals exact ⟨rfl, (by repeat (first | with_reducible exact Below.refl _ _ | with_reducible assumption | with_reducible refine Below.setCell ?_ (by first | omega | (simp; done) | (simp <;> omega)) _ | with_reducible refine below_drewN ?_ _ | with_reducible refine Below.drew ?_ | with_reducible refine Below.alloc ?_ (by first | omega | (simp; done) | (simp <;> omega)) _))⟩
end Go.Proofs.YtamlnbciejnbdaaGreatDoor
