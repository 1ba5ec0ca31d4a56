import Derived.Test.YtffdgpahbdmacaaDoorNM1
namespace Go.Proofs.YtffdgpahbdmacaaDoor
open Go Go.RowKit
theorem drop_atN {s : ByteArray} {k : Nat} (h : k < s.size) : s.data.toList.drop k = s[k] :: s.data.toList.drop (k + 1) := by
  have h' : k < s.data.toList.length := by rw [Array.length_toList]; exact h
  rw [List.drop_eq_getElem_cons h']
  rfl
set_option maxRecDepth 100000 in
set_option maxHeartbeats 4000000 in
theorem validNameS_any (s : ByteArray) (hs : s.size ≤ 9223372036854775807) (w : World) :
    Calls Tryd.prog 44 #[.string s] w fun r w' => r = .returned (.bool (vnB s.data.toList)) ∧ Below w.heap.size w w' := by
  have hB := Below.refl w.heap.size w
  by_cases h0 : s.size = 0
  · have hl : s.data.toList = [] := List.length_eq_zero_iff.1 (by rw [Array.length_toList]; exact h0)
    have e : s = ⟨#[]⟩ := by
      apply ByteArray.ext
      exact Array.ext' hl
    subst e
    clear hl h0
    go_enter Tryd.func44, Tryd.ntmps44
    go_wp2
    go_ret
    exact ⟨rfl, hB⟩
  · have hne := nonempty_list (s := s) (by omega)
    have hd := drop_atN (s := s) (k := 0) (by omega)
    rw [List.drop_zero] at hd
    have hlen : s.data.toList.length = s.size := by rw [Array.length_toList]; rfl
    have i0 : 0 < s.size := by omega
    have i1 : (0 : Int) < s.size := by omega
    cases hc : isDig s[0]
    · have hv : vnB s.data.toList = (decide (s.size ≤ 4) && s.data.toList.all isLow) := by
        unfold vnB
        rw [← Lib.toList_data, hne, Lib.toList_data]
        have hdn : dnB s.data.toList = false := by
          rw [hd]
          cases hr : s.data.toList.drop (0 + 1) with
          | nil => exact hc
          | cons _ _ => rfl
        rw [hdn]
        unfold lnB
        rw [hlen, decide_eq_true (show 1 ≤ s.size by omega)]
        simp
      rw [hv]
      generalize hA : s.data.toList.all isLow = A at *
      have HA := Lib.hid hA
      clear hA
      have hcc : ¬ 48 ≤ s[0].toNat ∨ ¬ s[0].toNat ≤ 57 := by
        unfold isDig at hc
        simp only [Bool.and_eq_false_iff, decide_eq_false_iff_not] at hc
        omega
      clear hd hc h0 hv hlen
      by_cases d1 : 48 ≤ s[0].toNat
      all_goals
        first
          | (have d2 : ¬ s[0].toNat ≤ 57 := by omega)
          | skip
        clear hcc
        go_enter Tryd.func44, Tryd.ntmps44
        go_wp2
        go_loopg [3] s.size (fun g s3 wr => ∃ k : Nat, w = wr ∧ s3 = .int .i64 k ∧ k ≤ s.size ∧ Aside (g = s.size - k) ∧ Aside ((s.data.toList.drop k).all isLow = A))
        case atStart => exact ⟨0, rfl, rfl, by omega, by show _ = _; omega, by show _ = _; rw [List.drop_zero]; exact HA.out⟩
        case round =>
          obtain ⟨k, rfl, rfl, hk, hg, hv⟩ := hrel
          have hg' := hg.out
          have hv' := hv.out
          clear hg hv
          by_cases hlt : k < s.size
          · have j1 : (k : Int) < s.size := by omega
            rw [drop_atN hlt, List.all_cons] at hv'
            cases hc : isLow s[k]
            · rw [hc, Bool.false_and] at hv'
              have HV := Lib.hid hv'
              clear hv'
              unfold isLow at hc
              have hcc : s[k].toNat < 97 ∨ 122 < s[k].toNat := by
                simp only [Bool.and_eq_false_iff, decide_eq_false_iff_not] at hc
                omega
              clear hc
              rcases hcc with hcc | hcc
              · go_wp2
                go_ret
                exact ⟨ret_bool (by rw [← HV.out]; simp), hB⟩
              · have hcd : ¬ s[k].toNat < 97 := by omega
                go_wp2
                go_ret
                exact ⟨ret_bool (by rw [← HV.out]; simp), hB⟩
            · rw [hc, Bool.true_and] at hv'
              have HV := Lib.hid hv'
              clear hv'
              unfold isLow at hc
              have hcc : ¬ s[k].toNat < 97 ∧ ¬ 122 < s[k].toNat := by
                simp only [Bool.and_eq_true, decide_eq_true_eq] at hc
                omega
              obtain ⟨c1, c2⟩ := hcc
              clear hc
              go_wp2
              go_roundg (s.size - (k + 1))
              case measure => omega
              case rel => exact ⟨k + 1, rfl, by go_num, by omega, rfl, HV.out⟩
          · have j1 : ¬ (k : Int) < s.size := by omega
            rw [List.drop_eq_nil_of_le (by rw [Array.length_toList]; show s.size ≤ k; omega)] at hv'
            have HV := Lib.hid hv'
            clear hv'
            go_wp2
            go_ret
            exact ⟨ret_bool (by rw [← HV.out, Bool.eq_iff_iff]; simp; try omega), hB⟩
    · have hv : vnB s.data.toList = decide (s.size = 1) := by
        unfold vnB
        rw [← Lib.toList_data, hne, Lib.toList_data]
        have hln : lnB s.data.toList = false := by
          unfold lnB
          rw [hd, List.all_cons, low_dig hc]
          simp
        rw [hln, ← hlen, hd]
        cases hr : s.data.toList.drop (0 + 1) with
        | nil => show (false || (isDig s[0] || false)) = _; rw [hc]; rfl
        | cons a r => show (false || (false || false)) = _; simp
      rw [hv]
      have hc1 : 48 ≤ s[0].toNat ∧ s[0].toNat ≤ 57 := by
        unfold isDig at hc
        simpa using hc
      obtain ⟨c1, c2⟩ := hc1
      clear hd hc h0 hv hlen
      go_enter Tryd.func44, Tryd.ntmps44
      go_wp2
      go_ret
      exact ⟨ret_bool (by rw [Bool.eq_iff_iff]; simp; omega), hB⟩
theorem ValidNameS_any (s : ByteArray) (hs : s.size ≤ 9223372036854775807) (w : World) :
    Calls Tryd.prog 19 #[.string s] w fun r w' => r = .returned (.bool (vnB s.data.toList)) ∧ Below w.heap.size w w' := by
  have k1 := fun W => validNameS_any s hs W
  generalize vnB s.data.toList = b at *
  have hB := Below.refl w.heap.size w
  have K1 := Lib.hid k1
  clear k1
  go_enter Tryd.func19, Tryd.ntmps19
  go_wp2_with (go_at_call 44; (with_reducible refine Calls.mono (K1.out _) ?_); rintro r w1 ⟨rfl, hb⟩; replace hB := hB.trans (hb.mono hB.size))
  go_ret
  exact ⟨rfl, hB⟩
end Go.Proofs.YtffdgpahbdmacaaDoor
