import Derived.Test.YtcbpocpkfmbaoaaGreatDoorZ9
import Derived.Test.YtcbpocpkfmbaoaaGreatDoorZ11
import Derived.Test.YtcbpocpkfmbaoaaGreatDoorX6
namespace Go.Proofs.YtcbpocpkfmbaoaaGreatDoor
open Go.RowKit
theorem padL_zero (H B : List UInt8) (c : UInt8) (a : Int) : padL H B 0 c a = H ++ B := by
  unfold padL
  rw [show (0 : Nat) - H.length - B.length = 0 by omega]
  simp only [Nat.zero_div, Nat.sub_zero, show rep c 0 = [] from rfl, List.append_nil, List.nil_append]
  split
  · rfl
  · split
    · rfl
    · split <;> rfl
theorem padL_len (H B : List UInt8) (wi : Nat) (c : UInt8) (a : Int) : (padL H B wi c a).length = max wi (H.length + B.length) := by
  unfold padL
  split
  · simp only [List.length_append, rep_len]; omega
  · split
    · simp only [List.length_append, rep_len]; omega
    · split
      · simp only [List.length_append, rep_len]; omega
      · simp only [List.length_append, rep_len]; omega
theorem padL_full {H B : List UInt8} {wi : Nat} (h : wi ≤ H.length + B.length) (c : UInt8) (a : Int) : padL H B wi c a = H ++ B := by
  rw [← padL_zero H B c a]
  unfold padL
  rw [show (0 : Nat) - H.length - B.length = 0 by omega, show wi - H.length - B.length = 0 by omega]
theorem zuN_zero (c : UInt8) (a : Int) (o : Nat) : zuN c a 0 o = 0 := by
  unfold zuN
  split
  · omega
  · rfl
/-- the digits, grouped -/
def bodyL (gr : Int) (t : List UInt8) (n : Int) : List UInt8 := joinL (tyGrp t) (mkL gr) (digs (t == [88]) (tyBase t) n.natAbs)
theorem whole_zero (c : UInt8) (a si : Int) (alt : Bool) (gr : Int) (t : List UInt8) (n : Int) : wholeL c a si alt 0 gr t n = headL si (decide (n < 0)) alt t ++ bodyL gr t n := by
  unfold wholeL bodyL
  rw [zuN_zero, widL_zero, padL_zero]
theorem widL_full {l sep : List UInt8} {wd n : Nat} (hl : l.length ≤ 80) (hw : wd ≤ 30) (hn0 : 1 ≤ n) (hn1 : n ≤ 9) (hs : sep.length ≤ 1) (h : wd ≤ (joinL n sep l).length) : widL l wd n sep = joinL n sep l := by
  have h0 := tz_ok (wd := wd) (n := n) (size := l.length) (j := 0) (sep := sep) (l := l) rfl hl hw hn0 hn1 hs (Nat.zero_le _)
  rw [show zeros 0 ++ l = l from rfl] at h0
  rw [widL_eq, show tz wd n l.length sep = 0 by omega]
  rfl
theorem whole_wide {c : UInt8} {a si : Int} {alt : Bool} {wi : Nat} {gr : Int} {t : List UInt8} {n : Int} (hT : TyOk t) (hw : wi ≤ 30) (hn : -999999999999 ≤ n ∧ n ≤ 999999999999) :
    wi ≤ (wholeL c a si alt wi gr t n).length ∧ (headL si (decide (n < 0)) alt t ++ bodyL gr t n).length ≤ (wholeL c a si alt wi gr t n).length ∧
      (wi ≤ (headL si (decide (n < 0)) alt t ++ bodyL gr t n).length → wholeL c a si alt wi gr t n = headL si (decide (n < 0)) alt t ++ bodyL gr t n) := by
  by_cases h : c = 48 ∧ a = 4
  · obtain ⟨rfl, h4⟩ := h
    rw [whole_inside hT hw hn h4]
    have hd := digs_40 (up := (t == [88])) (b := tyBase t) (n := n.natAbs) hT.base.1 (by omega)
    have hg := hT.grp
    have f1 := widL_ge (l := digs (t == [88]) (tyBase t) n.natAbs) (sep := mkL gr) (wd := wi - (headL si (decide (n < 0)) alt t).length) (n := tyGrp t) (by omega) (by omega) (by omega) (by omega) (mkL_len gr)
    have f2 := widL_full (l := digs (t == [88]) (tyBase t) n.natAbs) (sep := mkL gr) (wd := wi - (headL si (decide (n < 0)) alt t).length) (n := tyGrp t) (by omega) (by omega) (by omega) (by omega) (mkL_len gr)
    rw [show joinL (tyGrp t) (mkL gr) (digs (t == [88]) (tyBase t) n.natAbs) = bodyL gr t n from rfl] at f2
    generalize widL (digs (t == [88]) (tyBase t) n.natAbs) (wi - (headL si (decide (n < 0)) alt t).length) (tyGrp t) (mkL gr) = B at *
    generalize bodyL gr t n = J at *
    generalize headL si (decide (n < 0)) alt t = H at *
    simp only [List.length_append]
    refine ⟨by omega, ?_, fun h => by rw [f2 (by omega)]⟩
    by_cases hq : wi - H.length ≤ J.length
    · rw [f2 hq]; exact Nat.le_refl _
    · omega
  · rw [whole_pad h, padL_len, show joinL (tyGrp t) (mkL gr) (digs (t == [88]) (tyBase t) n.natAbs) = bodyL gr t n from rfl, List.length_append]
    exact ⟨by omega, by omega, fun h => padL_full h _ _⟩
theorem body_len {gr : Int} {t : List UInt8} {n : Int} (hT : TyOk t) (hn : -999999999999 ≤ n ∧ n ≤ 999999999999) : (bodyL gr t n).length ≤ 60 := by
  have hd := digs_40 (up := (t == [88])) (b := tyBase t) (n := n.natAbs) hT.base.1 (by omega)
  have hg := hT.grp
  have hm := mkL_len gr
  unfold bodyL joinL
  split
  · omega
  · rename_i h
    have h1 : (mkL gr).length = 1 := by
      have : (mkL gr).length ≠ 0 := fun e => h (List.length_eq_zero_iff.1 e)
      omega
    rw [grp_len (tyGrp t) h1]
    unfold fl
    rcases hg with e | e
    · rw [e]; split <;> omega
    · rw [e]; split <;> omega
theorem digs_first {up : Bool} {b : Nat} (h2 : 2 ≤ b) (h16 : b ≤ 16) : ∀ (k n : Nat), n ≤ k → ∃ d r, d < 16 ∧ digs up b n = dch up d :: r := by
  intro k
  induction k with
  | zero => intro n hn; exact ⟨n, [], by omega, digs_lt (by omega)⟩
  | succ k ih =>
    intro n hn
    by_cases h : n < b
    · exact ⟨n, [], by omega, digs_lt h⟩
    · have hd := div_lt_of h2 (show b ≤ n by omega)
      obtain ⟨d, r, hd16, e⟩ := ih (n / b) (by omega)
      exact ⟨d, r ++ [dch up (n % b)], hd16, by rw [digs_ge h2 (by omega), e]; rfl⟩
theorem digs_all {up : Bool} {b : Nat} (h2 : 2 ≤ b) (h16 : b ≤ 16) : ∀ (k n : Nat), n ≤ k → ∀ x ∈ digs up b n, ∃ d, d < 16 ∧ x = dch up d := by
  intro k
  induction k with
  | zero => intro n hn x hx; rw [digs_lt (by omega)] at hx; exact ⟨n, by omega, List.mem_singleton.1 hx⟩
  | succ k ih =>
    intro n hn x hx
    by_cases h : n < b
    · rw [digs_lt h] at hx; exact ⟨n, by omega, List.mem_singleton.1 hx⟩
    · have hd := div_lt_of h2 (show b ≤ n by omega)
      have hr := Nat.mod_lt n (show 0 < b by omega)
      rw [digs_ge h2 (by omega), List.mem_append] at hx
      rcases hx with hx | hx
      · exact ih (n / b) (by omega) x hx
      · exact ⟨n % b, by omega, List.mem_singleton.1 hx⟩
theorem dch_free (up : Bool) {k : Nat} (h : k < 16) : dch up k ≠ 44 ∧ dch up k ≠ 95 ∧ isSign (dch up k) = false := by
  have h0 : ((List.range 16).all fun k => !(dch up k == 44) && (!(dch up k == 95) && !(isSign (dch up k)))) = true := by cases up <;> decide +kernel
  have := List.all_eq_true.1 h0 k (List.mem_range.2 h)
  simpa using this
theorem grpV_body {gr : Int} {t : List UInt8} {n : Int} (hT : TyOk t) (h0 : 0 ≤ gr) (h2 : gr ≤ 2) (hn : -999999999999 ≤ n ∧ n ≤ 999999999999) : grpV gr t (bodyL gr t n) = (n.natAbs : Int) := by
  have hb := hT.base
  have hv : valW ⟨(digs (t == [88]) (tyBase t) n.natAbs).toArray⟩ (tyBase t) = (n.natAbs : Int) := by
    have hp := digs_pos (t == [88]) (tyBase t) n.natAbs
    have hr := vRun_digs (up := (t == [88])) hb.1 hb.2 n.natAbs n.natAbs (Nat.le_refl _) (by omega) []
    rw [List.append_nil] at hr
    have hz : ¬ (⟨(digs (t == [88]) (tyBase t) n.natAbs).toArray⟩ : ByteArray).size = 0 := by show ¬ (digs (t == [88]) (tyBase t) n.natAbs).length = 0; omega
    have hz1 : ¬ ((tyBase t : Nat) : Int) < 2 := by omega
    have hz2 : ¬ 16 < ((tyBase t : Nat) : Int) := by omega
    unfold valW
    rw [if_neg hz, if_neg hz1, if_neg hz2]
    exact hr
  unfold grpV bodyL joinL
  by_cases hg : gr = 0
  · have hm0 : mkL gr = [] := by rw [hg]; rfl
    rw [if_pos hg, if_pos hm0]
    exact hv
  · have hne : ¬ ([mkC gr] : List UInt8) = [] := by simp
    rw [if_neg hg, mkL_one hg h0 h2, if_neg hne]
    have hwo : wo (mkC gr) (digs (t == [88]) (tyBase t) n.natAbs) = digs (t == [88]) (tyBase t) n.natAbs := by
      refine wo_self fun b hbm => ?_
      obtain ⟨d, hd, rfl⟩ := digs_all hb.1 hb.2 n.natAbs n.natAbs (Nat.le_refl _) b hbm
      have hf := dch_free (t == [88]) hd
      unfold mkC
      split
      · exact hf.1
      · exact hf.2.1
    have hu : ungB (grp (tyGrp t) [mkC gr] (digs (t == [88]) (tyBase t) n.natAbs)) (tyGrp t) (mkC gr) = true := by
      unfold ungB
      rw [wo_grp, hwo]
      simp
    rw [if_pos hu, wo_grp, hwo]
    exact hv
theorem body_head {gr : Int} {t : List UInt8} {n : Int} (hT : TyOk t) : ∃ d r, d < 16 ∧ bodyL gr t n = dch (t == [88]) d :: r := by
  have hb := hT.base
  obtain ⟨d, r, hd, e⟩ := digs_first (up := (t == [88])) hb.1 hb.2 n.natAbs n.natAbs (Nat.le_refl _)
  unfold bodyL joinL
  rw [e]
  split
  · exact ⟨d, r, hd, rfl⟩
  · exact ⟨d, _, hd, rfl⟩
/-- no prefix is at the digits' beginning -/
theorem body_nopre {gr : Int} {t : List UInt8} {n : Int} (hT : TyOk t) : Lib.trimPrefix (bodyL gr t n) (tyPre t) = bodyL gr t n := by
  have hb := hT.base
  unfold Lib.trimPrefix Lib.hasPrefix
  by_cases hpre : (tyPre t).isPrefixOf (bodyL gr t n) = true
  · rw [if_pos hpre]
    obtain ⟨r, hr⟩ := List.isPrefixOf_iff_prefix.1 hpre
    rcases tyPre_len hT with h | h
    · rw [h]; rfl
    · exfalso
      have h48 : ∃ x, tyPre t = [48, x] := by
        rcases hT with rfl | rfl | rfl | rfl | rfl | rfl
        · simp [tyPre] at h
        · simp [tyPre] at h
        · exact ⟨98, rfl⟩
        · exact ⟨111, rfl⟩
        · exact ⟨120, rfl⟩
        · exact ⟨88, rfl⟩
      obtain ⟨x, hx⟩ := h48
      rw [hx] at hr
      by_cases h0 : n.natAbs = 0
      · unfold bodyL joinL at hr
        rw [h0, digs_lt (by omega)] at hr
        split at hr
        · simp at hr
        · simp [grp, grpT] at hr
      · obtain ⟨c, r2, e, hc⟩ := digs_head (up := (t == [88])) hb.1 hb.2 n.natAbs n.natAbs (Nat.le_refl _) (by omega)
        unfold bodyL joinL at hr
        rw [e] at hr
        split at hr
        · simp only [List.cons_append, List.cons.injEq] at hr
          exact hc hr.1.symm
        · simp only [grp, List.cons_append, List.cons.injEq] at hr
          exact hc hr.1.symm
  · rw [if_neg hpre]
theorem trim_pre (P J : List UInt8) : Lib.trimPrefix (P ++ J) P = J := by
  unfold Lib.trimPrefix Lib.hasPrefix
  rw [if_pos (List.isPrefixOf_iff_prefix.2 ⟨J, rfl⟩), List.drop_left]
theorem cut_plain {X : List UInt8} {b : UInt8} {r : List UInt8} (e : X = b :: r) (h : isSign b = false) (si : Int) (neg : Bool) : cutD (sgnL si neg ++ X) = X ∧ cutN (sgnL si neg ++ X) = neg := by
  subst e
  have h45 : (b == 45) = false := by
    rw [isSign_eq] at h
    simp only [Bool.or_eq_false_iff] at h
    exact h.1
  have s45 : isSign 45 = true := by rw [isSign_eq]; rfl
  have s43 : isSign 43 = true := by rw [isSign_eq]; rfl
  have s32 : isSign 32 = true := by rw [isSign_eq]; rfl
  have hc : ∀ (x : UInt8) (l : List UInt8), isSign x = true → cutD (x :: l) = l := fun x l hx => by show (if isSign x then l else x :: l) = l; rw [if_pos hx]
  unfold sgnL
  cases neg
  · rw [if_neg (by decide)]
    split
    · exact ⟨hc _ _ s43, rfl⟩
    · split
      · exact ⟨hc _ _ s32, rfl⟩
      · refine ⟨?_, h45⟩
        show (if isSign b then r else b :: r) = b :: r
        rw [h]; rfl
  · rw [if_pos rfl]
    exact ⟨hc _ _ s45, rfl⟩
/-- what is written without a width is read back -/
theorem read_back {si : Int} {alt : Bool} {gr : Int} {t : List UInt8} {n : Int} (hT : TyOk t) (h0 : 0 ≤ gr) (h2 : gr ≤ 2) (hn : -999999999999 ≤ n ∧ n ≤ 999999999999) :
    grpV gr t (Lib.trimPrefix (cutD (headL si (decide (n < 0)) alt t ++ bodyL gr t n)) (tyPre t)) = (n.natAbs : Int) ∧ cutN (headL si (decide (n < 0)) alt t ++ bodyL gr t n) = decide (n < 0) := by
  obtain ⟨d, r, hd, e⟩ := body_head (gr := gr) (n := n) hT
  have hf := (dch_free (t == [88]) hd).2.2
  unfold headL
  rw [List.append_assoc]
  cases alt
  · rw [if_neg (by decide), List.nil_append]
    obtain ⟨c1, c2⟩ := cut_plain e hf si (decide (n < 0))
    rw [c1, c2, body_nopre hT, grpV_body hT h0 h2 hn]
    exact ⟨rfl, rfl⟩
  · rw [if_pos rfl]
    have hx : ∃ b q, tyPre t ++ bodyL gr t n = b :: q ∧ isSign b = false := by
      rcases tyPre_len hT with h | _
      · rw [h]; exact ⟨_, _, e, hf⟩
      · unfold tyPre
        split
        · exact ⟨48, _, rfl, by rw [isSign_eq]; rfl⟩
        · exact ⟨_, _, e, hf⟩
    obtain ⟨b, q, e2, hb⟩ := hx
    obtain ⟨c1, c2⟩ := cut_plain e2 hb si (decide (n < 0))
    rw [c1, c2, trim_pre, grpV_body hT h0 h2 hn]
    exact ⟨rfl, rfl⟩
theorem resN_back (n : Int) : resN (n.natAbs : Int) (decide (n < 0)) = n := by
  unfold resN
  rw [if_neg (by omega)]
  by_cases h : n < 0
  · rw [decide_eq_true h, if_pos rfl]; omega
  · rw [decide_eq_false h, if_neg (by decide)]; omega
end Go.Proofs.YtcbpocpkfmbaoaaGreatDoor
