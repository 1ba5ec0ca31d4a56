import Derived.Test.YtcbpocpkfmbaoaaGreatDoorZ9
import Derived.Test.YtcbpocpkfmbaoaaGreatDoorN2
namespace Go.Proofs.YtcbpocpkfmbaoaaGreatDoor
open Go.RowKit
theorem nm_grpT {n : Nat} {sep : List UInt8} {x : UInt8} (hs : x ∉ sep) : ∀ l : List UInt8, x ∉ l → x ∉ grpT n sep l
  | [], _ => by simp [grpT]
  | b :: l, h => by
    simp only [List.mem_cons, not_or] at h
    simp only [grpT, List.mem_append, List.mem_cons, not_or]
    refine ⟨?_, h.1, nm_grpT hs l h.2⟩
    split
    · exact hs
    · simp
theorem nm_grp {n : Nat} {sep : List UInt8} {x : UInt8} (hs : x ∉ sep) (l : List UInt8) (h : x ∉ l) : x ∉ grp n sep l := by
  cases l with
  | nil => simp [grp]
  | cons b l =>
    simp only [List.mem_cons, not_or] at h
    simp only [grp, List.mem_cons, not_or]
    exact ⟨h.1, nm_grpT hs l h.2⟩
theorem nm_zeros (k : Nat) : (45 : UInt8) ∉ zeros k := fun hk => absurd (List.eq_of_mem_replicate hk) (by decide)
theorem nm_rep {c : UInt8} (hc : c ≠ 45) (k : Nat) : (45 : UInt8) ∉ rep c k := fun hk => hc (List.eq_of_mem_replicate hk).symm
theorem nm_widL {l sep : List UInt8} {wd n : Nat} (hs : (45 : UInt8) ∉ sep) (h : (45 : UInt8) ∉ l) : (45 : UInt8) ∉ widL l wd n sep := by
  unfold widL
  split
  · rw [List.mem_append, not_or]; exact ⟨nm_zeros _, h⟩
  · exact nm_grp hs _ (by rw [List.mem_append, not_or]; exact ⟨nm_zeros _, h⟩)
theorem nm_mkL (g : Int) : (45 : UInt8) ∉ mkL g := by
  unfold mkL
  split
  · decide
  · split <;> decide
theorem nm_pre {t : List UInt8} (h : TyOk t) : (45 : UInt8) ∉ tyPre t := by rcases h with rfl | rfl | rfl | rfl | rfl | rfl <;> decide
theorem nm_dch (up : Bool) {k : Nat} (h : k < 16) : dch up k ≠ 45 := by
  have h0 : ((List.range 16).all fun k => !(dch up k == 45)) = true := by cases up <;> decide +kernel
  simpa using List.all_eq_true.1 h0 k (List.mem_range.2 h)
theorem nm_digs {up : Bool} {b : Nat} (h2 : 2 ≤ b) (h16 : b ≤ 16) : ∀ (k n : Nat), n ≤ k → (45 : UInt8) ∉ digs up b n := by
  intro k
  induction k with
  | zero =>
    intro n hn
    rw [digs_lt (by omega)]
    have := nm_dch up (show n < 16 by omega)
    simpa using this.symm
  | succ k ih =>
    intro n hn
    by_cases h : n < b
    · rw [digs_lt h]
      have := nm_dch up (show n < 16 by omega)
      simpa using this.symm
    · have hd := div_lt_of h2 (show b ≤ n by omega)
      have hr := Nat.mod_lt n (show 0 < b by omega)
      have e1 : digs up b n = _ := digs_ge h2 (by omega)
      rw [e1, List.mem_append, not_or]
      have := nm_dch up (show n % b < 16 by omega)
      exact ⟨ih (n / b) (by omega), by simpa using this.symm⟩
/-- a number's text with a plus: one byte tells its sign -/
theorem sign_shape (c : UInt8) (a : Int) (alt : Bool) (wi : Nat) (gr : Int) (t : List UInt8) (n : Int) (hT : TyOk t) (hc : c ≠ 45) :
    ∃ P Q : List UInt8, (45 : UInt8) ∉ P ∧ (45 : UInt8) ∉ Q ∧ ∀ m : Int, m.natAbs = n.natAbs → wholeL c a 2 alt wi gr t m = P ++ ((if m < 0 then 45 else 43) :: Q) := by
  have hpre : (45 : UInt8) ∉ (if alt then tyPre t else []) := by
    cases alt
    · simp
    · exact nm_pre hT
  have hH : ∀ m : Int, headL 2 (decide (m < 0)) alt t = (if m < 0 then 45 else 43) :: (if alt then tyPre t else []) := by
    intro m
    unfold headL sgnL
    by_cases h : m < 0 <;> simp [h]
  generalize (if alt then tyPre t else []) = p at *
  have hB : (45 : UInt8) ∉ widL (digs (t == [88]) (tyBase t) n.natAbs) (zuN c a wi (p.length + 1)) (tyGrp t) (mkL gr) := nm_widL (nm_mkL gr) (nm_digs hT.base.1 hT.base.2 _ _ (Nat.le_refl _))
  have hW : ∀ m : Int, m.natAbs = n.natAbs → wholeL c a 2 alt wi gr t m = padL ((if m < 0 then 45 else 43) :: p) (widL (digs (t == [88]) (tyBase t) n.natAbs) (zuN c a wi (p.length + 1)) (tyGrp t) (mkL gr)) wi c a := by
    intro m hm
    unfold wholeL
    rw [hH m, hm, List.length_cons]
  generalize widL (digs (t == [88]) (tyBase t) n.natAbs) (zuN c a wi (p.length + 1)) (tyGrp t) (mkL gr) = B at *
  have hr := nm_rep hc
  by_cases h1 : a = 1
  · refine ⟨[], p ++ (B ++ rep c (wi - (p.length + 1) - B.length)), by simp, by simp [hpre, hB, hr], fun m hm => ?_⟩
    rw [hW m hm]
    unfold padL
    rw [if_pos h1, List.length_cons]
    simp
  · by_cases h3 : a = 3
    · refine ⟨rep c ((wi - (p.length + 1) - B.length) / 2), p ++ (B ++ rep c (wi - (p.length + 1) - B.length - (wi - (p.length + 1) - B.length) / 2)), hr _, by simp [hpre, hB, hr], fun m hm => ?_⟩
      rw [hW m hm]
      unfold padL
      rw [if_neg h1, if_pos h3, List.length_cons]
      simp
    · by_cases h4 : a = 4
      · refine ⟨[], p ++ (rep c (wi - (p.length + 1) - B.length) ++ B), by simp, by simp [hpre, hB, hr], fun m hm => ?_⟩
        rw [hW m hm]
        unfold padL
        rw [if_neg h1, if_neg h3, if_pos h4, List.length_cons]
        simp
      · refine ⟨rep c (wi - (p.length + 1) - B.length), p ++ B, hr _, by simp [hpre, hB], fun m hm => ?_⟩
        rw [hW m hm]
        unfold padL
        rw [if_neg h1, if_neg h3, if_neg h4, List.length_cons]
        simp
theorem wo_no {c : UInt8} {l : List UInt8} (h : c ∉ l) : wo c l = l := wo_self (fun _ hb e => h (e ▸ hb))
theorem wo_mid {P Q : List UInt8} {x : UInt8} (hP : (45 : UInt8) ∉ P) (hQ : (45 : UInt8) ∉ Q) : (wo 45 (P ++ (x :: Q))).length = P.length + Q.length + (if x = 45 then 0 else 1) := by
  rw [wo_append, wo_no hP, show wo 45 (x :: Q) = wo 45 ([x] ++ Q) from rfl, wo_append, wo_no hQ]
  by_cases h : x = 45
  · subst h; simp [wo]
  · rw [if_neg h, show wo 45 [x] = [x] by simp [wo, h]]
    simp
    omega
theorem pair_at {P Q : List UInt8} {x y : UInt8} {A B : List UInt8} (hA : A = P ++ (x :: Q)) (hB : B = P ++ (y :: Q)) {i : Nat} (h1 : i < A.length) (h2 : i < B.length) : A[i] = B[i] ∨ (A[i] = x ∧ B[i] = y) := by
  subst hA hB
  by_cases h : i < P.length
  · left; rw [List.getElem_append_left h, List.getElem_append_left h]
  · rw [List.getElem_append_right (by omega), List.getElem_append_right (by omega)]
    by_cases h0 : i = P.length
    · right; subst h0; simp
    · left
      obtain ⟨k, hk⟩ : ∃ k, i - P.length = k + 1 := ⟨i - P.length - 1, by omega⟩
      simp only [hk, List.getElem_cons_succ]
theorem whole_len {c : UInt8} {a si : Int} {alt : Bool} {wi : Nat} {gr : Int} {t : List UInt8} {n : Int} (hT : TyOk t) (hw : wi ≤ 30) (hn : n.natAbs ≤ 999999999999) : (wholeL c a si alt wi gr t n).length ≤ 300 := by
  unfold wholeL
  have h1 := head_len hT si (decide (n < 0)) alt
  have hd := digs_40 (up := (t == [88])) (b := tyBase t) (n := n.natAbs) hT.base.1 hn
  have h2 := widL_len (l := digs (t == [88]) (tyBase t) n.natAbs) (sep := mkL gr) (wd := zuN c a wi (headL si (decide (n < 0)) alt t).length) (n := tyGrp t) hd (by have := @zu_le c a wi (headL si (decide (n < 0)) alt t).length; omega) (mkL_len gr)
  generalize widL (digs (t == [88]) (tyBase t) n.natAbs) (zuN c a wi (headL si (decide (n < 0)) alt t).length) (tyGrp t) (mkL gr) = B at *
  generalize headL si (decide (n < 0)) alt t = H at *
  unfold padL
  split
  · simp only [List.length_append, rep_len]; omega
  · split
    · simp only [List.length_append, rep_len]; omega
    · split
      · simp only [List.length_append, rep_len]; omega
      · simp only [List.length_append, rep_len]; omega
end Go.Proofs.YtcbpocpkfmbaoaaGreatDoor
