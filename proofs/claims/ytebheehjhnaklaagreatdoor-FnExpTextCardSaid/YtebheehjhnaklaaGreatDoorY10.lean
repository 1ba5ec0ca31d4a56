import Derived.Test.YtebheehjhnaklaaGreatDoorC3T
import Derived.Test.YtebheehjhnaklaaGreatDoorY3
import Derived.Test.YtebheehjhnaklaaGreatDoorY7
namespace Go.Proofs.YtebheehjhnaklaaGreatDoor
open Go.RowKit
theorem ext_one {s : ByteArray} {k : Nat} (h : k < s.size) : s.extract k (k + 1) = ⟨#[s[k]]⟩ := by
  apply ByteArray.ext
  rw [ByteArray.data_extract]
  apply Array.ext
  · have : s.data.size = s.size := rfl
    simp; omega
  · intro i h1 h2
    simp at h2
    subst h2
    simp
    rfl
theorem cat_l (a b : List UInt8) : (⟨a.toArray⟩ : ByteArray) ++ ⟨b.toArray⟩ = ⟨(a ++ b).toArray⟩ := by
  apply ByteArray.ext
  rw [ByteArray.data_append]
  simp
theorem of_list (s : ByteArray) : s = ⟨s.data.toList.toArray⟩ := by
  apply ByteArray.ext
  simp
theorem cat_one (a : List UInt8) {s : ByteArray} {k : Nat} (h : k < s.size) : (⟨a.toArray⟩ : ByteArray) ++ s.extract k (k + 1) = ⟨(a ++ [s[k]]).toArray⟩ := by
  rw [ext_one h]
  exact cat_l a [s[k]]
theorem cat_two (a : List UInt8) (sep : ByteArray) : (⟨a.toArray⟩ : ByteArray) ++ sep = ⟨(a ++ sep.data.toList).toArray⟩ := by
  conv => lhs; rw [of_list sep]
  exact cat_l a _
/-- what is still to come of the groups from place k on -/
def tailG (n : Nat) (sep l : List UInt8) (k : Nat) : List UInt8 := if k = 0 then grp n sep l else grpT n sep (l.drop k)
theorem tailG_first (n : Nat) (sep : List UInt8) {s : ByteArray} (h : 0 < s.size) : tailG n sep s.data.toList 0 = s[0] :: tailG n sep s.data.toList 1 := by
  have e := drop_at h
  rw [List.drop_zero] at e
  show grp n sep s.data.toList = _
  rw [e]
  show s[0] :: grpT n sep (s.data.toList.drop 1) = s[0] :: grpT n sep (List.drop 1 (s[0] :: s.data.toList.drop 1))
  rfl
theorem tailG_next (n : Nat) (sep : List UInt8) {s : ByteArray} {k : Nat} (h : k < s.size) (hk : ¬ k = 0) : tailG n sep s.data.toList k = (if (s.size - k) % n = 0 then sep else []) ++ s[k] :: tailG n sep s.data.toList (k + 1) := by
  have hll : s.data.toList.length = s.size := by rw [Array.length_toList]; rfl
  have e1 : tailG n sep s.data.toList k = grpT n sep (s.data.toList.drop k) := if_neg hk
  have e2 : tailG n sep s.data.toList (k + 1) = grpT n sep (s.data.toList.drop (k + 1)) := if_neg (by omega)
  rw [e1, e2, drop_at h]
  show (if ((s.data.toList.drop (k + 1)).length + 1) % n = 0 then sep else []) ++ s[k] :: grpT n sep (s.data.toList.drop (k + 1)) = _
  rw [List.length_drop, hll, show s.size - (k + 1) + 1 = s.size - k by omega]
set_option maxRecDepth 100000 in
set_option maxHeartbeats 4000000 in
theorem groupedS_any (s : ByteArray) (n : Nat) (sep : ByteArray) (w : World) (hs : s.size ≤ 1000) (hn0 : 1 ≤ n) (hn1 : n ≤ 9) (hsep : sep.size ≤ 1) :
    Calls Tryz.prog 199 #[.string s, .int .i64 n, .string sep] w fun r w' => r = .returned (.string ⟨(grp n sep.data.toList s.data.toList).toArray⟩) ∧ w = w' := by
  go_enter Tryz.func199, Tryz.ntmps199
  go_wp2
  go_loopg [7, 8] s.size (fun g s4 s5 wr => ∃ (k : Nat) (out : List UInt8), wr = w ∧ s4 = .string ⟨out.toArray⟩ ∧ s5 = .int .i64 k ∧ k ≤ s.size ∧ out.length ≤ 2 * k ∧ Aside (out ++ tailG n sep.data.toList s.data.toList k = grp n sep.data.toList s.data.toList) ∧ Aside (g = s.size - k))
  case atStart => exact ⟨0, [], rfl, rfl, rfl, by omega, by simp, by show _ = _; simp [tailG], by show _ = _; omega⟩
  case round =>
    obtain ⟨k, out, rfl, rfl, rfl, hk, ho, hG, hg⟩ := hrel
    have hG' := hG.out
    have hg' := hg.out
    clear hG hg
    have hll : s.data.toList.length = s.size := by rw [Array.length_toList]; rfl
    by_cases hlt : k < s.size
    · have i1 : (k : Int) < s.size := by omega
      have i2 : (k : Int) + 1 ≤ s.size := by omega
      have hm0 : ((s.size : Int) - k).tmod n = (((s.size - k) % n : Nat) : Int) := by
        rw [show ((s.size : Int) - k) = ((s.size - k : Nat) : Int) by omega]
        rw [Int.tmod_eq_emod_of_nonneg (by omega)]
        rfl
      generalize hM : (s.size - k) % n = M at *
      have HM := Lib.hid hM
      clear hM
      by_cases hk0 : k = 0
      · subst hk0
        have T1 := Lib.hid (tailG_first n sep.data.toList hlt)
        go_wp2
        go_roundg (s.size - 1)
        case measure => omega
        case rel =>
          refine ⟨1, out ++ [s[0]], rfl, by rw [cat_one out hlt], rfl, by omega, by simp; omega, ?_, rfl⟩
          show _ = _
          rw [List.append_assoc, List.singleton_append, ← T1.out]
          exact hG'
      · have i3 : (0 : Int) < k := by omega
        have T1 := Lib.hid (tailG_next n sep.data.toList hlt hk0)
        by_cases hM0 : M = 0
        · subst hM0
          go_wp2
          go_roundg (s.size - (k + 1))
          case measure => omega
          case rel =>
            refine ⟨k + 1, out ++ sep.data.toList ++ [s[k]], rfl, by rw [show (⟨out.toArray⟩ : ByteArray) ++ sep = ⟨(out ++ sep.data.toList).toArray⟩ from cat_two out sep, cat_one _ hlt], by go_num, by omega, ?_, ?_, rfl⟩
            · have : sep.data.toList.length = sep.size := by rw [Array.length_toList]; rfl
              simp only [List.length_append, List.length_singleton]; omega
            · show _ = _
              have e := T1.out
              rw [if_pos HM.out] at e
              rw [List.append_assoc, List.append_assoc, List.singleton_append, ← e]
              exact hG'
        · have i4 : (((M : Nat) : Int) == 0) = false := by simpa using hM0
          go_wp2
          go_roundg (s.size - (k + 1))
          case measure => omega
          case rel =>
            refine ⟨k + 1, out ++ [s[k]], rfl, by rw [cat_one _ hlt], by go_num, by omega, by simp; omega, ?_, rfl⟩
            show _ = _
            have e := T1.out
            rw [if_neg (by rw [HM.out]; exact hM0), List.nil_append] at e
            rw [List.append_assoc, List.singleton_append, ← e]
            exact hG'
    · have i1 : ¬ (k : Int) < s.size := by omega
      have e : out = grp n sep.data.toList s.data.toList := by
        have h := hG'
        unfold tailG at h
        by_cases hk0 : k = 0
        · have hs0 : s.data.toList = [] := List.length_eq_zero_iff.1 (by omega)
          rw [if_pos hk0, hs0] at h
          rw [hs0]
          simpa [grp] using h
        · rw [if_neg hk0, List.drop_eq_nil_of_le (by omega)] at h
          simpa [grpT] using h
      subst e
      clear hG'
      go_wp2
      go_ret
      exact ⟨rfl, rfl⟩
end Go.Proofs.YtebheehjhnaklaaGreatDoor
namespace Go.Proofs.YtebheehjhnaklaaGreatDoor
open Go.RowKit
def grpW (s : ByteArray) (n : Int) (sep : ByteArray) : ByteArray := if s.size ≤ 80 ∧ 1 ≤ n ∧ n ≤ 9 ∧ sep.size = 1 then ⟨(grp n.toNat sep.data.toList s.data.toList).toArray⟩ else ⟨#[]⟩
theorem grpW_no {s : ByteArray} {n : Int} {sep : ByteArray} (h : ¬ (s.size ≤ 80 ∧ 1 ≤ n ∧ n ≤ 9 ∧ sep.size = 1)) : grpW s n sep = ⟨#[]⟩ := if_neg h
theorem grpW_yes {s : ByteArray} {n : Nat} {sep : ByteArray} (h : s.size ≤ 80 ∧ 1 ≤ n ∧ n ≤ 9 ∧ sep.size = 1) : grpW s n sep = ⟨(grp n sep.data.toList s.data.toList).toArray⟩ := by unfold grpW; rw [if_pos (by omega)]; rfl
theorem size_zero {s : ByteArray} (h : s.size = 0) : s = ⟨#[]⟩ := by
  rcases bytes_cases s with h' | ⟨b, rfl⟩ | h'
  · exact h'
  · exact absurd h (by simp [ByteArray.size])
  · omega
set_option maxRecDepth 100000 in
set_option maxHeartbeats 4000000 in
theorem GroupDigits_none (n : Nat) (sep : ByteArray) (w : World) (hn0 : 1 ≤ n) (hn1 : n ≤ 9) (hsep : sep.size = 1) :
    Calls Tryz.prog 207 #[.string ⟨#[]⟩, .int .i64 n, .string sep] w fun r w' => r = .returned (.string ⟨#[]⟩) ∧ Below w.heap.size w w' := by
  have k1 := fun W => within_any n 1 9 W
  rw [show inr n 1 9 = true by simp [inr]; omega] at k1
  have K1 := Lib.hid k1
  clear k1
  obtain ⟨cap, W1, hconv, hcap, hz1, hB1, _⟩ := bytes_world w ⟨#[]⟩
  obtain ⟨cap2, W2, hconv2, hcap2, hz2, hB2, _⟩ := bytes_world W1 sep
  rw [hsep] at hconv2
  have hBw : Below w.heap.size w W2 := hB1.trans (hB2.mono (by omega))
  clear hz1 hz2
  have hJ := Tryz.bytes_Join_none none 0 (.slice (some ⟨W1.heap.size, 0, none⟩) 1 cap2) W2
  have HJ := Lib.hid hJ
  clear hJ
  have hback := run_convert_bytes_back (P := Tryz.prog) (W2.alloc (.cells #[] 5)) 22 9 5 ⟨W2.heap.size, 0, none⟩ 0 [] Tryz.underlying22 Tryz.underlying5 Tryz.underlying9 (by intro j hj; simp at hj)
  simp only [List.length_nil] at hback
  have hm0 : ((-1 : Int)).tmod n = -1 ∨ ((-1 : Int)).tmod n = 0 := by
    by_cases h : n = 1
    · subst h; right; rfl
    · left
      rw [show (-1 : Int) = -(1 : Int) from rfl, Int.neg_tmod, Int.tmod_eq_emod_of_nonneg (by omega)]
      rw [Int.emod_eq_of_lt (by omega) (by omega)]
  rcases hm0 with hm0 | hm0
  all_goals (
    go_enter Tryz.func207, Tryz.ntmps207
    go_wp2_with (go_at_call 44; (with_reducible refine Calls.mono (K1.out _) ?_); rintro r w1 ⟨rfl, rfl⟩)
    refine wp_loop_rounds 1 ?_
    rw [rounds_succ]
    go_wp2_with (go_at_call 253; (with_reducible refine Calls.mono HJ.out ?_); rintro r w3 ⟨rfl, rfl⟩)
    go_ret
    exact ⟨rfl, hBw.alloc (by have := hBw.size; omega) _⟩)
end Go.Proofs.YtebheehjhnaklaaGreatDoor
namespace Go.Proofs.YtebheehjhnaklaaGreatDoor
open Go.RowKit
set_option maxRecDepth 100000 in
set_option maxHeartbeats 4000000 in
theorem GroupDigits_any (s : ByteArray) (n : Int) (sep : ByteArray) (w : World) (hs : s.size ≤ 9223372036854775807) (_hsep : sep.size ≤ 9223372036854775807) :
    Calls Tryz.prog 207 #[.string s, .int .i64 n, .string sep] w fun r w' => r = .returned (.string (grpW s n sep)) ∧ Below w.heap.size w w' := by
  by_cases h : s.size ≤ 80 ∧ 1 ≤ n ∧ n ≤ 9 ∧ sep.size = 1
  · obtain ⟨h1, h2, h3, h4⟩ := h
    obtain ⟨m, rfl⟩ := Int.eq_ofNat_of_zero_le (show 0 ≤ n by omega)
    rw [grpW_yes ⟨h1, by omega, by omega, h4⟩]
    by_cases h0 : s.size = 0
    · rw [size_zero h0]
      exact GroupDigits_none m sep w (by omega) (by omega) h4
    · exact GroupDigits_some s m sep w h1 (by omega) (by omega) (by omega) h4
  · rw [grpW_no h]
    have k1 := fun W => within_any n 1 9 W
    by_cases h1 : s.size ≤ 80
    · have i1 : (s.size : Int) ≤ 80 := by omega
      by_cases h2 : 1 ≤ n ∧ n ≤ 9
      · have h4 : ¬ sep.size = 1 := fun e => h ⟨h1, h2.1, h2.2, e⟩
        have i4 : ((sep.size : Int) == 1) = false := by simp; omega
        have i5 : ¬ (sep.size : Int) = 1 := by omega
        have i6 : ((sep.size : Int) != 1) = true := by simp; omega
        rw [show inr n 1 9 = true by simp [inr]; omega] at k1
        have K1 := Lib.hid k1
        clear k1 h
        go_enter Tryz.func207, Tryz.ntmps207
        go_wp2_with (go_at_call 44; (with_reducible refine Calls.mono (K1.out _) ?_); rintro r w1 ⟨rfl, rfl⟩)
        all_goals go_ret
        all_goals exact ⟨rfl, (by repeat (first | with_reducible exact Below.refl _ _ | with_reducible assumption | with_reducible refine Below.setCell ?_ (by first | omega | (simp; done) | (simp <;> omega)) _ | with_reducible refine below_drewN ?_ _ | with_reducible refine Below.drew ?_ | with_reducible refine Below.alloc ?_ (by first | omega | (simp; done) | (simp <;> omega)) _))⟩
      · rw [show inr n 1 9 = false by simp [inr]; omega] at k1
        have K1 := Lib.hid k1
        clear k1 h
        go_enter Tryz.func207, Tryz.ntmps207
        go_wp2_with (go_at_call 44; (with_reducible refine Calls.mono (K1.out _) ?_); rintro r w1 ⟨rfl, rfl⟩)
        all_goals go_ret
        all_goals exact ⟨rfl, (by repeat (first | with_reducible exact Below.refl _ _ | with_reducible assumption | with_reducible refine Below.setCell ?_ (by first | omega | (simp; done) | (simp <;> omega)) _ | with_reducible refine below_drewN ?_ _ | with_reducible refine Below.drew ?_ | with_reducible refine Below.alloc ?_ (by first | omega | (simp; done) | (simp <;> omega)) _))⟩
    · have i1 : (80 : Int) < s.size := by omega
      clear h
      go_enter Tryz.func207, Tryz.ntmps207
      go_wp2
      all_goals go_ret
      all_goals exact ⟨rfl, (by repeat (first | with_reducible exact Below.refl _ _ | with_reducible assumption | with_reducible refine Below.setCell ?_ (by first | omega | (simp; done) | (simp <;> omega)) _ | with_reducible refine below_drewN ?_ _ | with_reducible refine Below.drew ?_ | with_reducible refine Below.alloc ?_ (by first | omega | (simp; done) | (simp <;> omega)) _))⟩
end Go.Proofs.YtebheehjhnaklaaGreatDoor
