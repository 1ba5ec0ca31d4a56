import Derived.Test.YtkpdpohnbnpelaaGreatDoorB
import Derived.Test.YtkpdpohnbnpelaaGreatDoorY3
namespace Go.Proofs.YtkpdpohnbnpelaaGreatDoor
open Go.RowKit
theorem ext_one {s : ByteArray} {k : Nat} (h : k < s.size) : s.extract k (k + 1) = ⟨#[s[k]]⟩ := by
  apply ByteArray.ext
  rw [ByteArray.data_extract]
  apply Array.ext
  · have : s.data.size = s.size := rfl
    simp; omega
  · intro i h1 h2
    simp at h2
    subst h2
    simp
    rfl
theorem cat_l (a b : List UInt8) : (⟨a.toArray⟩ : ByteArray) ++ ⟨b.toArray⟩ = ⟨(a ++ b).toArray⟩ := by
  apply ByteArray.ext
  rw [ByteArray.data_append]
  simp
theorem of_list (s : ByteArray) : s = ⟨s.data.toList.toArray⟩ := by
  apply ByteArray.ext
  simp
theorem cat_one (a : List UInt8) {s : ByteArray} {k : Nat} (h : k < s.size) : (⟨a.toArray⟩ : ByteArray) ++ s.extract k (k + 1) = ⟨(a ++ [s[k]]).toArray⟩ := by
  rw [ext_one h]
  exact cat_l a [s[k]]
theorem cat_two (a : List UInt8) (sep : ByteArray) : (⟨a.toArray⟩ : ByteArray) ++ sep = ⟨(a ++ sep.data.toList).toArray⟩ := by
  conv => lhs; rw [of_list sep]
  exact cat_l a _
/-- what is still to come of the groups from place k on -/
def tailG (n : Nat) (sep l : List UInt8) (k : Nat) : List UInt8 := if k = 0 then grp n sep l else grpT n sep (l.drop k)
theorem tailG_first (n : Nat) (sep : List UInt8) {s : ByteArray} (h : 0 < s.size) : tailG n sep s.data.toList 0 = s[0] :: tailG n sep s.data.toList 1 := by
  have e := drop_at h
  rw [List.drop_zero] at e
  show grp n sep s.data.toList = _
  rw [e]
  show s[0] :: grpT n sep (s.data.toList.drop 1) = s[0] :: grpT n sep (List.drop 1 (s[0] :: s.data.toList.drop 1))
  rfl
theorem tailG_next (n : Nat) (sep : List UInt8) {s : ByteArray} {k : Nat} (h : k < s.size) (hk : ¬ k = 0) : tailG n sep s.data.toList k = (if (s.size - k) % n = 0 then sep else []) ++ s[k] :: tailG n sep s.data.toList (k + 1) := by
  have hll : s.data.toList.length = s.size := by rw [Array.length_toList]; rfl
  have e1 : tailG n sep s.data.toList k = grpT n sep (s.data.toList.drop k) := if_neg hk
  have e2 : tailG n sep s.data.toList (k + 1) = grpT n sep (s.data.toList.drop (k + 1)) := if_neg (by omega)
  rw [e1, e2, drop_at h]
  show (if ((s.data.toList.drop (k + 1)).length + 1) % n = 0 then sep else []) ++ s[k] :: grpT n sep (s.data.toList.drop (k + 1)) = _
  rw [List.length_drop, hll, show s.size - (k + 1) + 1 = s.size - k by omega]
set_option maxRecDepth 100000 in
set_option maxHeartbeats 4000000 in
theorem groupedS_any (s : ByteArray) (n : Nat) (sep : ByteArray) (w : World) (hs : s.size ≤ 1000) (hn0 : 1 ≤ n) (hn1 : n ≤ 9) (hsep : sep.size ≤ 1) :
    Calls Tryz.prog 75 #[.string s, .int .i64 n, .string sep] w fun r w' => r = .returned (.string ⟨(grp n sep.data.toList s.data.toList).toArray⟩) ∧ w = w' := by
  go_enter Tryz.func75, Tryz.ntmps75
  go_wp2
  go_loopg [7, 8] s.size (fun g s4 s5 wr => ∃ (k : Nat) (out : List UInt8), wr = w ∧ s4 = .string ⟨out.toArray⟩ ∧ s5 = .int .i64 k ∧ k ≤ s.size ∧ out.length ≤ 2 * k ∧ Aside (out ++ tailG n sep.data.toList s.data.toList k = grp n sep.data.toList s.data.toList) ∧ Aside (g = s.size - k))
  case atStart => exact ⟨0, [], rfl, rfl, rfl, by omega, by simp, by show _ = _; simp [tailG], by show _ = _; omega⟩
  case round =>
    obtain ⟨k, out, rfl, rfl, rfl, hk, ho, hG, hg⟩ := hrel
    have hG' := hG.out
    have hg' := hg.out
    clear hG hg
    have hll : s.data.toList.length = s.size := by rw [Array.length_toList]; rfl
    by_cases hlt : k < s.size
    · have i1 : (k : Int) < s.size := by omega
      have i2 : (k : Int) + 1 ≤ s.size := by omega
      have hm0 : ((s.size : Int) - k).tmod n = (((s.size - k) % n : Nat) : Int) := by
        rw [show ((s.size : Int) - k) = ((s.size - k : Nat) : Int) by omega]
        rw [Int.tmod_eq_emod_of_nonneg (by omega)]
        rfl
      generalize hM : (s.size - k) % n = M at *
      have HM := Lib.hid hM
      clear hM
      by_cases hk0 : k = 0
      · subst hk0
        have T1 := Lib.hid (tailG_first n sep.data.toList hlt)
        go_wp2
        go_roundg (s.size - 1)
        case measure => omega
        case rel =>
          refine ⟨1, out ++ [s[0]], rfl, by rw [cat_one out hlt], rfl, by omega, by simp; omega, ?_, rfl⟩
          show _ = _
          rw [List.append_assoc, List.singleton_append, ← T1.out]
          exact hG'
      · have i3 : (0 : Int) < k := by omega
        have T1 := Lib.hid (tailG_next n sep.data.toList hlt hk0)
        by_cases hM0 : M = 0
        · subst hM0
          go_wp2
          go_roundg (s.size - (k + 1))
          case measure => omega
          case rel =>
            refine ⟨k + 1, out ++ sep.data.toList ++ [s[k]], rfl, by rw [show (⟨out.toArray⟩ : ByteArray) ++ sep = ⟨(out ++ sep.data.toList).toArray⟩ from cat_two out sep, cat_one _ hlt], by go_num, by omega, ?_, ?_, rfl⟩
            · have : sep.data.toList.length = sep.size := by rw [Array.length_toList]; rfl
              simp only [List.length_append, List.length_singleton]; omega
            · show _ = _
              have e := T1.out
              rw [if_pos HM.out] at e
              rw [List.append_assoc, List.append_assoc, List.singleton_append, ← e]
              exact hG'
        · have i4 : (((M : Nat) : Int) == 0) = false := by simpa using hM0
          go_wp2
          go_roundg (s.size - (k + 1))
          case measure => omega
          case rel =>
            refine ⟨k + 1, out ++ [s[k]], rfl, by rw [cat_one _ hlt], by go_num, by omega, by simp; omega, ?_, rfl⟩
            show _ = _
            have e := T1.out
            rw [if_neg (by rw [HM.out]; exact hM0), List.nil_append] at e
            rw [List.append_assoc, List.singleton_append, ← e]
            exact hG'
    · have i1 : ¬ (k : Int) < s.size := by omega
      have e : out = grp n sep.data.toList s.data.toList := by
        have h := hG'
        unfold tailG at h
        by_cases hk0 : k = 0
        · have hs0 : s.data.toList = [] := List.length_eq_zero_iff.1 (by omega)
          rw [if_pos hk0, hs0] at h
          rw [hs0]
          simpa [grp] using h
        · rw [if_neg hk0, List.drop_eq_nil_of_le (by omega)] at h
          simpa [grpT] using h
      subst e
      clear hG'
      go_wp2
      go_ret
      exact ⟨rfl, rfl⟩
end Go.Proofs.YtkpdpohnbnpelaaGreatDoor
