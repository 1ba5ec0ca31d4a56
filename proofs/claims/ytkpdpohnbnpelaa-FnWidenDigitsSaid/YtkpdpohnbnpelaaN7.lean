import Derived.Test.YtkpdpohnbnpelaaN2
import Derived.Test.YtkpdpohnbnpelaaY11
namespace Go.Proofs.Ytkpdpohnbnpelaa
/-- no more bytes than the width and one, where zeros were put ahead -/
theorem cnt_up {n wd : Nat} (hn0 : 1 ≤ n) (hn1 : n ≤ 9) (hw : wd ≤ 30) : fl n (cnt wd n) ≤ wd + 1 := by
  have h : ((List.range 9).all fun n' => (List.range 31).all fun wd => decide (fl (n' + 1) (cnt wd (n' + 1)) ≤ wd + 1)) = true := by decide +kernel
  have h1 := List.all_eq_true.1 h (n - 1) (List.mem_range.2 (by omega))
  have h2 := List.all_eq_true.1 h1 wd (List.mem_range.2 (by omega))
  rw [show n - 1 + 1 = n by omega] at h2
  simpa using h2
theorem zeros_at {m i : Nat} (l : List UInt8) (h : i < m) : (zeros m ++ l)[i]? = some 48 := by
  rw [List.getElem?_append_left (by simp [zeros]; exact h)]
  rw [zeros, List.getElem?_replicate, if_pos h]
/-- what promise 26 says of widened digits -/
theorem wid_ok {l : List UInt8} {wd n : Nat} {c : UInt8} (hn0 : 1 ≤ n) (hn1 : n ≤ 9) (hw : wd ≤ 30) (hl : l.length ≤ 80) (hc : ∀ b ∈ l, b ≠ c) (h48 : c ≠ 48) :
    ∃ m, wo c (widL l wd n [c]) = zeros m ++ l ∧ m ≤ 110 ∧ wd ≤ (widL l wd n [c]).length ∧ (m = 0 ∨ (widL l wd n [c]).length ≤ wd + 1) ∧ (widL l wd n [c]).length ≤ 400 := by
  have hcl := @cnt_le n wd
  have hfl := grp_len n (sep := [c]) rfl (zeros (max (cnt wd n) l.length - l.length) ++ l)
  have hz : (zeros (max (cnt wd n) l.length - l.length) ++ l).length = max (cnt wd n) l.length := by simp [zeros]; omega
  rw [hz] at hfl
  have hg := grp_length n [c] (zeros (max (cnt wd n) l.length - l.length) ++ l) (by simp)
  rw [hz] at hg
  have hk := cnt_ok (L := max (cnt wd n) l.length) hn0 hn1 hw (by omega)
  refine ⟨max (cnt wd n) l.length - l.length, ?_, by omega, ?_, ?_, ?_⟩
  · unfold widL
    rw [if_neg (by simp), wo_grp, wo_self]
    intro b hb
    rcases List.mem_append.1 hb with hb | hb
    · obtain ⟨_, rfl⟩ := List.mem_replicate.1 hb
      exact fun e => h48 e.symm
    · exact hc b hb
  · unfold widL
    rw [if_neg (by simp), hfl]
    omega
  · by_cases hm : cnt wd n ≤ l.length
    · left; omega
    · right
      unfold widL
      rw [if_neg (by simp), hfl, show max (cnt wd n) l.length = cnt wd n by omega]
      exact cnt_up hn0 hn1 hw
  · unfold widL
    rw [if_neg (by simp)]
    omega
theorem wid_ok0 {l : List UInt8} {wd n : Nat} (hw : wd ≤ 30) (hl : l.length ≤ 80) :
    ∃ m, widL l wd n [] = zeros m ++ l ∧ m ≤ 110 ∧ wd ≤ (widL l wd n []).length ∧ (m = 0 ∨ (widL l wd n []).length ≤ wd + 1) ∧ (widL l wd n []).length ≤ 400 := by
  have e : widL l wd n [] = zeros (max wd l.length - l.length) ++ l := by unfold widL; rw [if_pos rfl]
  have hz : (zeros (max wd l.length - l.length) ++ l).length = max wd l.length := by simp [zeros]; omega
  refine ⟨_, e, by omega, ?_, ?_, ?_⟩
  · rw [e, hz]; omega
  · rw [e, hz]; omega
  · rw [e, hz]; omega
end Go.Proofs.Ytkpdpohnbnpelaa
