import Derived.Test.YtebheehjhnaklaaGreatDoorN6
import Derived.Test.YtebheehjhnaklaaGreatDoorC7
import Derived.Test.YtebheehjhnaklaaGreatDoorS6
import Derived.Test.YtebheehjhnaklaaGreatDoorY13
import Derived.Test.YtebheehjhnaklaaGreatDoorTL
import Derived.Test.YtebheehjhnaklaaGreatDoorZ3
import Derived.Test.YtebheehjhnaklaaGreatDoorC3T
import Derived.Lib.ItoaMem
import Derived.Lib.AppendIntMem
import Derived.Handy
namespace Go.Proofs.YtebheehjhnaklaaGreatDoor
open Go.RowKit
/-- the table that numbers are written by -/
abbrev PT (w : World) : Prop := Lib.TabIs Tryz.prog w "internal/strconv.uint64pow10" .u64 Lib.pow10Tab
theorem PT.on {w w1 : World} (h : PT w) (hb : Below w.heap.size w w1) : PT w1 := Lib.tabBelow_of_tabIs h w1 hb
theorem Itoa_nat (n : Nat) (hn : n ≤ 999999999999) (w : World) (hT : PT w) :
    Calls Tryz.prog 162 #[.int .i64 n] w fun r w' => r = .returned (.string ⟨(digs false 10 n).toArray⟩) ∧ Below w.heap.size w w' := by
  have h := Tryz.strconv_Itoa (n : Int) (by omega) (by omega) w hT
  rw [Lib.itoa_nonneg, decDigits_digs n n (Nat.le_refl _)] at h
  exact h.mono (by rintro r w1 ⟨rfl, k, os, rfl⟩; exact ⟨rfl, Lib.below_grow _ _ (Nat.le_refl _) _ _⟩)
theorem numberS_one (k : Nat) (h : k < 10) (w : World) : Calls Tryz.prog 98 #[.int .i64 k] w fun r w' => r = .returned (.string ⟨#[dch false k]⟩) ∧ w = w' := by
  have hk : k = 0 ∨ k = 1 ∨ k = 2 ∨ k = 3 ∨ k = 4 ∨ k = 5 ∨ k = 6 ∨ k = 7 ∨ k = 8 ∨ k = 9 := by omega
  rcases hk with rfl | rfl | rfl | rfl | rfl | rfl | rfl | rfl | rfl | rfl
  all_goals (
    go_enter Tryz.func98, Tryz.ntmps98
    go_wp2
    go_ret
    exact ⟨rfl, rfl⟩)
set_option maxRecDepth 100000 in
set_option maxHeartbeats 4000000 in
theorem numberS_any : ∀ (k n : Nat), n ≤ k → n ≤ 999999999999 → ∀ w : World,
    Calls Tryz.prog 98 #[.int .i64 n] w fun r w' => r = .returned (.string ⟨(digs false 10 n).toArray⟩) ∧ Below w.heap.size w w' := by
  intro k
  induction k with
  | zero =>
    intro n hk hm w
    obtain rfl : n = 0 := by omega
    rw [digs_lt (by omega)]
    exact mBn (numberS_one 0 (by omega) w)
  | succ k ih =>
    intro n hk hm w
    by_cases h : n < 10
    · rw [digs_lt h]
      exact mBn (numberS_one n h w)
    · have hd := div_lt_of (b := 10) (n := n) (by omega) (by omega)
      have hr := Nat.mod_lt n (show 0 < 10 by omega)
      have k1 := fun W => ih (n / 10) (by omega) (by omega) W
      have k2 := fun W => mBn (numberS_one (n % 10) (by omega) W)
      have l1 := digs_40 (up := false) (b := 10) (n := n / 10) (by omega) (by omega)
      have i1 : ¬ (n : Int) < 10 := by omega
      have e1 := tdivN n 10
      have e2 := tmodN n 10
      have e3 : (n : Int) / 10 = ((n / 10 : Nat) : Int) := by omega
      have e4 : (n : Int) % 10 = ((n % 10 : Nat) : Int) := by omega
      rw [digs_ge (by omega) (by omega)]
      have e : (⟨#[dch false (n % 10)]⟩ : ByteArray) = ⟨[dch false (n % 10)].toArray⟩ := rfl
      rw [e] at k2
      clear e ih
      have l2 : [dch false (n % 10)].length = 1 := rfl
      generalize [dch false (n % 10)] = D at *
      generalize digs false 10 (n / 10) = E at *
      generalize n / 10 = q at *
      generalize n % 10 = m at *
      have w1 : IntKind.i64.wrap (q : Int) = q := by rw [IntKind.wrap_i64]; omega
      have w2 : IntKind.i64.wrap (m : Int) = m := by rw [IntKind.wrap_i64]; omega
      have hlen : ¬ (9223372036854775807 < E.length + 1) := by omega
      have K1 := Lib.hid k1; have K2 := Lib.hid k2
      clear k1 k2
      have hB := Below.refl w.heap.size w
      go_enter Tryz.func98, Tryz.ntmps98
      go_wp2_with (first | (go_at_call 98; (with_reducible refine Calls.mono (K1.out _) ?_); rintro r w1 ⟨rfl, hb⟩; replace hB := hB.trans (hb.mono hB.size)) | (go_at_call 98; (with_reducible refine Calls.mono (K2.out _) ?_); rintro r w1 ⟨rfl, hb⟩; replace hB := hB.trans (hb.mono hB.size)))
      go_ret
      exact ⟨ret_strN (cat_lN _ _), hB⟩
theorem zeros_rep (m : Nat) : zeros m = rep 48 m := rfl
theorem zerosS_any (m : Nat) (hm : m ≤ 100) (w : World) : Calls Tryz.prog 96 #[.int .i64 m] w fun r w' => r = .returned (.string ⟨(zeros m).toArray⟩) ∧ w = w' := by
  have k1 := fun W => repeatS_any 48 m hm W
  rw [← zeros_rep] at k1
  have K1 := Lib.hid k1
  clear k1
  go_enter Tryz.func96, Tryz.ntmps96
  go_wp2_with (go_at_call 167; (with_reducible refine Calls.mono (K1.out _) ?_); rintro r w1 ⟨rfl, rfl⟩)
  all_goals go_ret
  all_goals exact ⟨rfl, rfl⟩
/-- the coefficient rounded at p places -/
def fxC (c e p : Int) : Nat := (Fd.dropI ⟨false, c, e⟩ (-p - e)).c.toNat
/-- its digits, with the zeros that its exponent asks -/
def fxD (c e p : Int) : List UInt8 := if fxC c e p = 0 then [] else digs false 10 (fxC c e p) ++ zeros (e + p).toNat
/-- all digits with p places, one ahead of them at least -/
def fxL (c e : Int) (p : Nat) : List UInt8 := widL (fxD c e p) (p + 1) 9 []
theorem drop_c (n : Bool) (c e k : Int) : (Fd.dropI ⟨n, c, e⟩ k).c = (Fd.dropI ⟨false, c, e⟩ k).c ∧ (Fd.dropI ⟨n, c, e⟩ k).e = (Fd.dropI ⟨false, c, e⟩ k).e := by
  unfold Fd.dropI
  split
  · exact ⟨rfl, rfl⟩
  · split <;> exact ⟨rfl, rfl⟩
structure FxF (n : Bool) (c e : Int) (p : Nat) : Prop where
  c0 : (Fd.dropI ⟨n, c, e⟩ (-p - e)).c = (fxC c e p : Int)
  cb : fxC c e p ≤ 999999999
  ez : ∃ z : Nat, (Fd.dropI ⟨n, c, e⟩ (-p - e)).e + p = (z : Int) ∧ z ≤ 45 ∧ (fxC c e p ≠ 0 → z = (e + p).toNat)
  eb : -60 ≤ (Fd.dropI ⟨n, c, e⟩ (-p - e)).e ∧ (Fd.dropI ⟨n, c, e⟩ (-p - e)).e ≤ 60
theorem fx_facts (n : Bool) {c e : Int} {p : Nat} (h0 : 0 ≤ c) (h1 : c ≤ 999999999) (h2 : -24 ≤ e) (h3 : e ≤ 24) (h4 : e + p ≤ 40) (h5 : p ≤ 29) : FxF n c e p := by
  obtain ⟨d1, d2⟩ := drop_c n c e (-p - e)
  have hq : ∀ k : Int, 0 < k → 0 ≤ Fd.rq c k ∧ Fd.rq c k ≤ 999999999 := by
    intro k hk
    have hP := Fd.p10_pos k
    have h10 : 10 ≤ Fd.p10 k := by
      have := Fd.p10_mono (j := 1) (k := k) (by omega) (by omega)
      rw [show Fd.p10 1 = 10 from rfl] at this
      exact this
    have hd0 : 0 ≤ c / Fd.p10 k := Int.ediv_nonneg h0 (by omega)
    have hd1 : c / Fd.p10 k ≤ c / 10 := by
      have hm := Int.mul_ediv_self_le (x := c) (k := Fd.p10 k) (by omega)
      have hle : 10 * (c / Fd.p10 k) ≤ Fd.p10 k * (c / Fd.p10 k) := Int.mul_le_mul_of_nonneg_right h10 hd0
      omega
    unfold Fd.rq
    split <;> omega
  have hc0 : 0 ≤ (Fd.dropI ⟨false, c, e⟩ (-p - e)).c ∧ (Fd.dropI ⟨false, c, e⟩ (-p - e)).c ≤ 999999999 := by
    unfold Fd.dropI
    split
    · exact ⟨h0, h1⟩
    · split
      · exact ⟨by decide, by decide⟩
      · exact hq _ (by omega)
  refine ⟨by rw [d1]; unfold fxC; omega, by unfold fxC; omega, ?_, ?_⟩
  · rw [d2]
    by_cases hk : -(p : Int) - e ≤ 0
    · refine ⟨(e + p).toNat, ?_, by omega, fun _ => rfl⟩
      unfold Fd.dropI
      rw [if_pos hk]
      show e + (p : Int) = _
      omega
    · by_cases hk9 : 9 < -(p : Int) - e
      · refine ⟨p, ?_, by omega, fun hne => ?_⟩
        · unfold Fd.dropI
          rw [if_neg hk, if_pos hk9]
          show (0 : Int) + p = p
          omega
        · exfalso
          apply hne
          unfold fxC Fd.dropI
          rw [if_neg hk, if_pos hk9]
          rfl
      · refine ⟨0, ?_, by omega, fun _ => by omega⟩
        unfold Fd.dropI
        rw [if_neg hk, if_neg hk9]
        show e + (-(p : Int) - e) + p = 0
        omega
  · rw [d2]
    unfold Fd.dropI
    split
    · exact ⟨by show -60 ≤ e; omega, by show e ≤ 60; omega⟩
    · split
      · exact ⟨by decide, by decide⟩
      · exact ⟨by show -60 ≤ e + (-(p : Int) - e); omega, by show e + (-(p : Int) - e) ≤ 60; omega⟩
theorem trL_zeros (m : Nat) : trL 48 (zeros m) = [] := by
  induction m with
  | zero => rfl
  | succ m ih =>
    show trL 48 (48 :: zeros m) = []
    unfold trL at *
    rw [List.dropWhile_cons_of_pos (by decide)]
    exact ih
theorem trL_fx (C : Nat) (z : Nat) : trL 48 (digs false 10 C ++ zeros z) = if C = 0 then [] else digs false 10 C ++ zeros z := by
  by_cases h : C = 0
  · subst h
    rw [if_pos rfl, digs_lt (by omega)]
    exact trL_zeros (z + 1)
  · rw [if_neg h]
    obtain ⟨c, r, e, hc⟩ := digs_head (up := false) (b := 10) (by omega) (by omega) C C (Nat.le_refl _) (by omega)
    rw [e]
    unfold trL
    rw [List.cons_append, List.dropWhile_cons_of_neg (by simpa using hc)]
theorem digs_30 {C : Nat} (h : C ≤ 999999999) : (digs false 10 C).length ≤ 30 := digs_short (by omega) 29 C (Nat.lt_of_le_of_lt h (by decide))
theorem fxD_len {c e : Int} {p : Nat} (h : fxC c e p ≤ 999999999) (h4 : e + p ≤ 40) : (fxD c e p).length ≤ 70 := by
  unfold fxD
  split
  · simp
  · rw [List.length_append, zeros_len]
    have := digs_30 h
    omega
theorem widL_none (l : List UInt8) (wd n : Nat) : widL l wd n [] = zeros (max wd l.length - l.length) ++ l := if_pos rfl
theorem fxL_len {c e : Int} {p : Nat} (h : fxC c e p ≤ 999999999) (h4 : e + p ≤ 40) (h5 : p ≤ 29) : p + 1 ≤ (fxL c e p).length ∧ (fxL c e p).length ≤ 70 := by
  have := fxD_len h h4
  unfold fxL
  rw [widL_none, List.length_append, zeros_len]
  omega
/-- what is ahead of the point, and behind it -/
def fxA (c e : Int) (p : Nat) : List UInt8 := (fxL c e p).take ((fxL c e p).length - p)
def fxB (c e : Int) (p : Nat) : List UInt8 := (fxL c e p).drop ((fxL c e p).length - p)
end Go.Proofs.YtebheehjhnaklaaGreatDoor
namespace Go.Proofs.YtebheehjhnaklaaGreatDoor
open Go.RowKit
theorem fxD_trim {c e : Int} {p z : Nat} (hz : fxC c e p ≠ 0 → z = (e + p).toNat) : trL 48 (digs false 10 (fxC c e p) ++ zeros z) = fxD c e p := by
  rw [trL_fx]
  unfold fxD
  by_cases h : fxC c e p = 0
  · rw [if_pos h, if_pos h]
  · rw [if_neg h, if_neg h, hz h]
set_option maxRecDepth 100000 in
set_option maxHeartbeats 8000000 in
theorem fixed_any (n : Bool) (c e : Int) (p : Nat) (w : World) (h0 : 0 ≤ c) (h1 : c ≤ 999999999) (h2 : -24 ≤ e) (h3 : e ≤ 24) (h4 : e + p ≤ 40) (h5 : p ≤ 29) (hT : PT w) :
    Calls Tryz.prog 93 #[.agg #[.bool n, .int .i64 c, .int .i64 e], .int .i64 p] w fun r w' => r = .returned (.agg #[.string ⟨(fxA c e p).toArray⟩, .string ⟨(fxB c e p).toArray⟩, .string ⟨#[]⟩]) ∧ Below w.heap.size w w' := by
  obtain ⟨f1, f2, ⟨z, hz1, hz2, hz3⟩, f4⟩ := fx_facts n (c := c) (e := e) (p := p) h0 h1 h2 h3 h4 h5
  have kd := fun W => dropped_any n c e (-(p : Int) - e) W h0 h1 h2 h3 (by omega)
  rw [f1] at kd
  have ht := fxD_trim hz3
  have hDl := fxD_len f2 h4
  have hFl := fxL_len f2 h4 h5
  have h30 := digs_30 f2
  have ki := fun W (h : PT W) => Itoa_nat (fxC c e p) (by omega) W h
  have kr := fun W => Repeat_zeros z (by omega) W
  have kt := fun W => mBn (TrimLeft_one ⟨(digs false 10 (fxC c e p) ++ zeros z).toArray⟩ 48 (by decide) (by show (digs false 10 (fxC c e p) ++ zeros z).length ≤ _; rw [List.length_append, zeros_len]; omega) W)
  have etr : trLB 48 ⟨(digs false 10 (fxC c e p) ++ zeros z).toArray⟩ = ⟨(fxD c e p).toArray⟩ := by
    show (⟨(trL 48 (digs false 10 (fxC c e p) ++ zeros z)).toArray⟩ : ByteArray) = _
    rw [ht]
  rw [etr] at kt
  have kw := fun W => WidenDigits_any ⟨(fxD c e p).toArray⟩ ((p : Int) + 1) 9 ⟨#[]⟩ W (by show (fxD c e p).length ≤ _; omega) (by decide)
  have ew : widW ⟨(fxD c e p).toArray⟩ ((p : Int) + 1) 9 ⟨#[]⟩ = ⟨(fxL c e p).toArray⟩ := widW_yes (wd := p + 1) (n := 9) (by show (fxD c e p).length ≤ 80; omega) (by omega) (by omega) (by omega) (by decide)
  rw [ew] at kw
  have ea : (⟨(fxL c e p).toArray⟩ : ByteArray).extract 0 ((fxL c e p).length - p) = ⟨(fxA c e p).toArray⟩ := ext_take _ _
  have eb : (⟨(fxL c e p).toArray⟩ : ByteArray).extract ((fxL c e p).length - p) (fxL c e p).length = ⟨(fxB c e p).toArray⟩ := ext_drop _ _
  have hq : ((fxL c e p).length : Int) - p = (((fxL c e p).length - p : Nat) : Int) := by omega
  have hq1 : (fxL c e p).length - p ≤ (fxL c e p).length := by omega
  have hzl : (zeros z).length = z := zeros_len z
  have hcat := cat_lN (digs false 10 (fxC c e p)) (zeros z)
  clear ht etr ew hz3
  generalize (Fd.dropI ⟨n, c, e⟩ (-(p : Int) - e)).e = E2 at *
  generalize (Fd.dropI ⟨n, c, e⟩ (-(p : Int) - e)).n = nb at *
  generalize digs false 10 (fxC c e p) = D at *
  generalize zeros z = Zs at *
  generalize (D ++ Zs) = DZ at *
  generalize fxC c e p = C at *
  generalize fxD c e p = FD at *
  generalize fxA c e p = FA at *
  generalize fxB c e p = FB at *
  generalize fxL c e p = FL at *
  have hFz : (⟨FL.toArray⟩ : ByteArray).size = FL.length := rfl
  have b1 : ¬ (9223372036854775807 < D.length + z) := by omega
  have b1' : ¬ (9223372036854775807 < D.length + Zs.length) := by omega
  have wz : IntKind.i64.wrap (z : Int) = z := IntWalk.i64_in _ (by omega)
  have wn : IntKind.i64.wrap (-(p : Int)) = -(p : Int) := IntWalk.i64_in _ (by omega)
  have wn2 : IntKind.i64.wrap (-(p : Int) - e) = -(p : Int) - e := IntWalk.i64_in _ (by omega)
  have hFb : FL.length ≤ 70 := hFl.2
  generalize FL.length - p = q at *
  have b2 : ¬ (q : Int) < 0 := by omega
  have b3 : (q : Int) ≤ FL.length := by omega
  have wq : IntKind.i64.wrap (q : Int) = q := IntWalk.i64_in _ (by omega)
  have KD := Lib.hid kd; have KI := Lib.hid ki; have KR := Lib.hid kr; have KT := Lib.hid kt; have KW := Lib.hid kw
  clear kd ki kr kt kw
  have zb := C3.up (C3.new w (.bool n) (.int .i64 c) (.int .i64 e) 24) (.cells #[.string ⟨#[]⟩, .string ⟨#[]⟩, .string ⟨#[]⟩] 69)
  have zc : C3 ((w.alloc (.cells #[.bool n, .int .i64 c, .int .i64 e] 24)).alloc (.cells #[.string ⟨#[]⟩, .string ⟨#[]⟩, .string ⟨#[]⟩] 69)) (w.heap.size + 1) (.string ⟨#[]⟩) (.string ⟨#[]⟩) (.string ⟨#[]⟩) := by
    have h := C3.new (w.alloc (.cells #[.bool n, .int .i64 c, .int .i64 e] 24)) (.string ⟨#[]⟩) (.string ⟨#[]⟩) (.string ⟨#[]⟩) 69
    rw [show (w.alloc (.cells #[.bool n, .int .i64 c, .int .i64 e] 24)).heap.size = w.heap.size + 1 by simp] at h
    exact h
  have hB : Below w.heap.size w ((w.alloc (.cells #[.bool n, .int .i64 c, .int .i64 e] 24)).alloc (.cells #[.string ⟨#[]⟩, .string ⟨#[]⟩, .string ⟨#[]⟩] 69)) := (Below.alloc (Below.refl _ _) (Nat.le_refl _) _).alloc (by simp) _
  have zz := zb
  obtain ⟨x0, x1, x2, x3, x4, x5, x6⟩ := zz
  have zz := zc
  obtain ⟨x0, x1, x2, x3, x4, x5, x6⟩ := zz
  go_enter Tryz.func93, Tryz.ntmps93
  go_wp2_with ((go_at_call 60; (with_reducible refine Calls.mono (KD.out _) ?_); rintro r w1 ⟨rfl, hb⟩; replace hB := hB.trans (hb.mono hB.size); have hz := hB.size; replace zb := C3.carry zb hb; have zz := zb; obtain ⟨x0, x1, x2, x3, x4, x5, x6⟩ := zz; replace zc := C3.carry zc hb; have zz := zc; obtain ⟨x0, x1, x2, x3, x4, x5, x6⟩ := zz))
  have za := C3.new w1 (.bool nb) (.int .i64 C) (.int .i64 E2) 24
  replace zc := C3.up zc (.cells #[.bool nb, .int .i64 C, .int .i64 E2] 24)
  replace hB : Below w.heap.size w (w1.alloc (.cells #[.bool nb, .int .i64 C, .int .i64 E2] 24)) := hB.alloc (by omega) _
  clear zb
  obtain ⟨sza0, sza1, sza2⟩ := C3.since za
  obtain ⟨szc0, szc1, szc2⟩ := C3.since zc
  refine wp_region_since (by kernel_rfl) (by kernel_rfl) ?_
  repeat (quiet_step (first | (go_at_call 162; with_reducible exact Calls.since_of (KI.out _ (hT.on (hB.trans ((Since.h _).mono hB.size))))) | (go_at_call 163; with_reducible exact Calls.since_of (KR.out _))))
  refine wpQuiet_nil ?_
  intro w_ hw_
  obtain ⟨⟨w1, hb⟩, hw2⟩ := hw_
  have hw3 : w1 = w_ := hw2.symm
  clear hw2
  subst hw3
  clear sza0 sza1 sza2 szc0 szc1 szc2
  replace hB := hB.trans (hb.mono hB.size)
  have hz := hb.size
  replace za := C3.carry za hb
  have zz := za
  obtain ⟨x0, x1, x2, x3, x4, x5, x6⟩ := zz
  replace zc := C3.carry zc hb
  have zz := zc
  obtain ⟨x0, x1, x2, x3, x4, x5, x6⟩ := zz
  go_wp2_with (first | (go_at_call 164; (with_reducible refine Calls.mono (KT.out _) ?_); rintro r w1 ⟨rfl, hb⟩; replace hB := hB.trans (hb.mono hB.size); have hz := hB.size; replace zc := C3.carry zc hb; have zz := zc; obtain ⟨x0, x1, x2, x3, x4, x5, x6⟩ := zz) | (go_at_call 151; (with_reducible refine Calls.mono (KW.out _) ?_); rintro r w1 ⟨rfl, hb⟩; replace hB := hB.trans (hb.mono hB.size); have hz := hB.size; replace zc := C3.carry zc hb; have zz := zc; obtain ⟨x0, x1, x2, x3, x4, x5, x6⟩ := zz))
  have zz := zc
  obtain ⟨x0, x1, x2, x3, x4, x5, x6⟩ := zz
  go_region
  all_goals go_wp2
  all_goals exact bodyPost_ret (v := .agg #[.string ⟨FA.toArray⟩, .string ⟨FB.toArray⟩, .string ⟨#[]⟩]) (by simp [results, Tryz.results93, go_sem, *]) rfl ⟨rfl, (by repeat (first | with_reducible exact Below.refl _ _ | with_reducible assumption | with_reducible refine Below.setCell ?_ (by first | omega | (simp; done) | (simp <;> omega)) _ | with_reducible refine below_drewN ?_ _ | with_reducible refine Below.drew ?_ | with_reducible refine Below.alloc ?_ (by first | omega | (simp; done) | (simp <;> omega)) _))⟩
end Go.Proofs.YtebheehjhnaklaaGreatDoor
namespace Go.Proofs.YtebheehjhnaklaaGreatDoor
open Go.RowKit
structure RnF (n : Bool) (c e : Int) (p : Nat) : Prop where
  c0 : (Fd.roundedS ⟨n, c, e⟩ (0 - p)).c = (fxC c e p : Int)
  ez : fxC c e p ≠ 0 → max 0 ((Fd.roundedS ⟨n, c, e⟩ (0 - p)).e + p) = (((e + p).toNat : Nat) : Int)
  eb : -60 ≤ (Fd.roundedS ⟨n, c, e⟩ (0 - p)).e ∧ (Fd.roundedS ⟨n, c, e⟩ (0 - p)).e ≤ 60
theorem rq_zero (k : Int) : Fd.rq 0 k = 0 := by
  have hP := Fd.p10_pos k
  unfold Fd.rq
  rw [Int.zero_ediv, Int.zero_emod]
  split <;> omega
theorem rn_facts (n : Bool) {c e : Int} {p : Nat} (h0 : 0 ≤ c) (h1 : c ≤ 999999999) (h2 : -24 ≤ e) (h3 : e ≤ 24) (h4 : e + p ≤ 40) (h5 : p ≤ 29) : RnF n c e p := by
  have F := fx_facts false (c := c) (e := e) (p := p) h0 h1 h2 h3 h4 h5
  have f1 := F.c0
  have hk : -(p : Int) - e = 0 - (p : Int) - e := by omega
  rw [hk] at f1
  by_cases ha : 0 - (p : Int) - e ≤ 0
  · have e1 : Fd.roundedS ⟨n, c, e⟩ (0 - p) = ⟨n, c, e⟩ := by unfold Fd.roundedS; rw [if_pos (.inl ha)]
    have e2 : Fd.dropI ⟨false, c, e⟩ (0 - (p : Int) - e) = ⟨false, c, e⟩ := by unfold Fd.dropI; rw [if_pos ha]
    rw [e2] at f1
    refine ⟨by rw [e1]; exact f1, fun _ => ?_, by rw [e1]; exact ⟨by show -60 ≤ e; omega, by show e ≤ 60; omega⟩⟩
    rw [e1]
    show max 0 (e + (p : Int)) = _
    omega
  · by_cases hz : c = 0
    · subst hz
      have e1 : Fd.roundedS ⟨n, 0, e⟩ (0 - p) = ⟨n, 0, e⟩ := by unfold Fd.roundedS; rw [if_pos (.inr rfl)]
      have hC : (fxC 0 e p : Int) = 0 := by
        rw [← f1]
        unfold Fd.dropI
        rw [if_neg ha]
        split
        · rfl
        · exact rq_zero _
      refine ⟨by rw [e1, hC], fun h => absurd (by omega) h, by rw [e1]; exact ⟨by show -60 ≤ e; omega, by show e ≤ 60; omega⟩⟩
    · have hF : ¬ (0 - (p : Int) - e ≤ 0 ∨ c = 0) := by omega
      by_cases h9 : 9 < 0 - (p : Int) - e
      · have e1 : Fd.roundedS ⟨n, c, e⟩ (0 - p) = Fd.D.z := by unfold Fd.roundedS; rw [if_neg hF, if_pos h9]
        have e2 : Fd.dropI ⟨false, c, e⟩ (0 - (p : Int) - e) = Fd.D.z := by unfold Fd.dropI; rw [if_neg ha, if_pos h9]
        rw [e2] at f1
        have hC : (fxC c e p : Int) = 0 := f1.symm
        exact ⟨by rw [e1]; exact f1, fun h => absurd (by omega) h, by rw [e1]; exact ⟨by decide, by decide⟩⟩
      · have e1 : Fd.roundedS ⟨n, c, e⟩ (0 - p) = ⟨n && decide (0 < Fd.rq c (0 - p - e)), Fd.rq c (0 - p - e), 0 - p⟩ := by unfold Fd.roundedS; rw [if_neg hF, if_neg h9]
        have e2 : Fd.dropI ⟨false, c, e⟩ (0 - (p : Int) - e) = ⟨false, Fd.rq c (0 - p - e), e + (0 - p - e)⟩ := by unfold Fd.dropI; rw [if_neg ha, if_neg h9]
        rw [e2] at f1
        refine ⟨by rw [e1]; exact f1, fun _ => ?_, by rw [e1]; exact ⟨by show -60 ≤ 0 - (p : Int); omega, by show 0 - (p : Int) ≤ 60; omega⟩⟩
        rw [e1]
        show max 0 (0 - (p : Int) + p) = _
        omega
theorem fx_zero {c e : Int} {p : Nat} (h : fxC c e p = 0) : fxA c e p = [48] ∧ fxB c e p = zeros p := by
  have hL : fxL c e p = 48 :: zeros p := by
    unfold fxL fxD
    rw [if_pos h, widL_none]
    show zeros (max (p + 1) 0 - 0) ++ [] = _
    rw [show max (p + 1) 0 - 0 = p + 1 by omega, List.append_nil]
    rfl
  unfold fxA fxB
  rw [hL, show (48 :: zeros p).length - p = 1 by rw [List.length_cons, zeros_len]; omega]
  exact ⟨rfl, rfl⟩
set_option maxRecDepth 100000 in
set_option maxHeartbeats 8000000 in
theorem fixedPartsS_any (n : Bool) (c e : Int) (p : Nat) (w : World) (h0 : 0 ≤ c) (h1 : c ≤ 999999999) (h2 : -24 ≤ e) (h3 : e ≤ 24) (h4 : e + p ≤ 40) (h5 : p ≤ 29) :
    Calls Tryz.prog 111 #[.agg #[.bool n, .int .i64 c, .int .i64 e], .int .i64 p] w fun r w' => r = .returned (.tuple #[.string ⟨(fxA c e p).toArray⟩, .string ⟨(fxB c e p).toArray⟩]) ∧ Below w.heap.size w w' := by
  obtain ⟨r1, r2, r3⟩ := rn_facts n (c := c) (e := e) (p := p) h0 h1 h2 h3 h4 h5
  rw [show (0 : Int) - p = -(p : Int) by omega] at r1 r2 r3
  have F := fx_facts n (c := c) (e := e) (p := p) h0 h1 h2 h3 h4 h5
  have f2 := F.cb
  have hDl := fxD_len f2 h4
  have hFl := fxL_len f2 h4 h5
  have h30 := digs_30 f2
  have kd := fun W => roundedS_any n c e (-(p : Int)) W h0 h1 h2 h3 (by omega) (by omega)
  rw [r1] at kd
  have kn := fun W => numberS_any (fxC c e p) (fxC c e p) (Nat.le_refl _) (by omega) W
  have wn : IntKind.i64.wrap (0 - (p : Int)) = 0 - (p : Int) := IntWalk.i64_in _ (by omega)
  have wn2 : IntKind.i64.wrap (-(p : Int)) = -(p : Int) := IntWalk.i64_in _ (by omega)
  have kz0 := fun W => mBn (zerosS_any p (by omega) W)
  have zb := C3.new w (.bool n) (.int .i64 c) (.int .i64 e) 24
  have hB : Below w.heap.size w (w.alloc (.cells #[.bool n, .int .i64 c, .int .i64 e] 24)) := Below.alloc (Below.refl _ _) (Nat.le_refl _) _
  have zz := zb
  obtain ⟨x0, x1, x2, x3, x4, x5, x6⟩ := zz
  by_cases hC : fxC c e p = 0
  · obtain ⟨q1, q2⟩ := fx_zero hC
    rw [q1, q2]
    rw [hC] at kd kn
    rw [digs_lt (by omega)] at kn
    generalize (Fd.roundedS ⟨n, c, e⟩ (-(p : Int))).e = E2 at *
    generalize (Fd.roundedS ⟨n, c, e⟩ (-(p : Int))).n = nb at *
    have KD := Lib.hid kd; have KN := Lib.hid kn; have KZ0 := Lib.hid kz0
    clear kd kn kz0
    clear r1 r2 r3 F f2 hDl hFl h30 q1 q2 hC
    go_enter Tryz.func111, Tryz.ntmps111
    go_wp2_with ((go_at_call 169; (with_reducible refine Calls.mono (KD.out _) ?_); rintro r w1 ⟨rfl, hb⟩; replace hB := hB.trans (hb.mono hB.size); have hz := hB.size; replace zb := C3.carry zb hb; have zz := zb; obtain ⟨x0, x1, x2, x3, x4, x5, x6⟩ := zz))
    have za := C3.new w1 (.bool nb) (.int .i64 0) (.int .i64 E2) 24
    replace hB : Below w.heap.size w (w1.alloc (.cells #[.bool nb, .int .i64 0, .int .i64 E2] 24)) := hB.alloc (by omega) _
    have zz := za
    obtain ⟨x0, x1, x2, x3, x4, x5, x6⟩ := zz
    go_wp2_with (first | (go_at_call 98; (with_reducible refine Calls.mono (KN.out _) ?_); rintro r w1 ⟨rfl, hb⟩; replace hB := hB.trans (hb.mono hB.size); have hz := hB.size; replace za := C3.carry za hb; have zz := za; obtain ⟨x0, x1, x2, x3, x4, x5, x6⟩ := zz) | (go_at_call 96; (with_reducible refine Calls.mono (KZ0.out _) ?_); rintro r w1 ⟨rfl, hb⟩; replace hB := hB.trans (hb.mono hB.size); have hz := hB.size; replace za := C3.carry za hb; have zz := za; obtain ⟨x0, x1, x2, x3, x4, x5, x6⟩ := zz))
    all_goals go_ret2
    all_goals exact ⟨rfl, hB⟩
  · have hz := r2 hC
    have ez0 : ((fxC c e p : Int) == 0) = false := by simp; omega
    have hD : fxD c e p = digs false 10 (fxC c e p) ++ zeros (e + p).toNat := if_neg hC
    have hL : fxL c e p = zeros (max (p + 1) (fxD c e p).length - (fxD c e p).length) ++ fxD c e p := widL_none _ _ _
    have kz := fun W => mBn (zerosS_any (e + p).toNat (by omega) W)
    have hcat := cat_lN (digs false 10 (fxC c e p)) (zeros (e + p).toNat)
    rw [← hD] at hcat
    have hll : (fxD c e p).length = (digs false 10 (fxC c e p)).length + (e + p).toNat := by rw [hD, List.length_append, zeros_len]
    have hzl := zeros_len (e + p).toNat
    have ea : (⟨(fxL c e p).toArray⟩ : ByteArray).extract 0 ((fxL c e p).length - p) = ⟨(fxA c e p).toArray⟩ := ext_take _ _
    have eb : (⟨(fxL c e p).toArray⟩ : ByteArray).extract ((fxL c e p).length - p) (fxL c e p).length = ⟨(fxB c e p).toArray⟩ := ext_drop _ _
    have hq : ((fxL c e p).length : Int) - p = (((fxL c e p).length - p : Nat) : Int) := by omega
    have hq1 : (fxL c e p).length - p ≤ (fxL c e p).length := by omega
    have hFb := hFl.2
    have hZb : (e + p).toNat ≤ 40 := by omega
    clear r1 r2 F f2 hD hFl
    generalize (Fd.roundedS ⟨n, c, e⟩ (-(p : Int))).e = E2 at *
    generalize (Fd.roundedS ⟨n, c, e⟩ (-(p : Int))).n = nb at *
    generalize digs false 10 (fxC c e p) = D at *
    generalize zeros (e + p).toNat = Zs at *
    generalize (e + p).toNat = z at *
    generalize fxC c e p = C at *
    by_cases hlp : (fxD c e p).length ≤ p
    · have kz2 := fun W => mBn (zerosS_any (p + 1 - (fxD c e p).length) (by omega) W)
      rw [show max (p + 1) (fxD c e p).length - (fxD c e p).length = p + 1 - (fxD c e p).length by omega] at hL
      have hcat2 := cat_lN (zeros (p + 1 - (fxD c e p).length)) (fxD c e p)
      rw [← hL] at hcat2
      have hz2l := zeros_len (p + 1 - (fxD c e p).length)
      have hsub : (p : Int) + 1 - (fxD c e p).length = ((p + 1 - (fxD c e p).length : Nat) : Int) := by omega
      have hFl2 : (fxL c e p).length = p + 1 := by rw [hL, List.length_append, hz2l]; omega
      have i1 : ((fxD c e p).length : Int) ≤ p := by omega
      have hDb : (fxD c e p).length ≤ 70 := hDl
      clear hL hFl2 hll
      generalize zeros (p + 1 - (fxD c e p).length) = Z2 at *
      generalize p + 1 - (fxD c e p).length = z2 at *
      generalize fxD c e p = FD at *
      generalize fxA c e p = FA at *
      generalize fxB c e p = FB at *
      generalize fxL c e p = FL at *
      have hFz : (⟨FL.toArray⟩ : ByteArray).size = FL.length := rfl
      have hDz : (⟨FD.toArray⟩ : ByteArray).size = FD.length := rfl
      have wz2 : IntKind.i64.wrap (z2 : Int) = z2 := IntWalk.i64_in _ (by omega)
      have KD := Lib.hid kd; have KN := Lib.hid kn; have KZ := Lib.hid kz; have KZ2 := Lib.hid kz2
      clear kd kn kz kz2
      generalize hqq : FL.length - p = q at *
      clear hqq
      have b1 : ¬ (9223372036854775807 < D.length + z) := by omega
      have b1x : ¬ (9223372036854775807 < D.length + Zs.length) := by omega
      have b1y : ¬ (9223372036854775807 < Z2.length + FD.length) := by omega
      have b1z : ¬ (9223372036854775807 < z2 + FD.length) := by omega
      have b2 : ¬ (q : Int) < 0 := by omega
      have b3 : (q : Int) ≤ FL.length := by omega
      have wq : IntKind.i64.wrap (q : Int) = q := IntWalk.i64_in _ (by omega)
      go_enter Tryz.func111, Tryz.ntmps111
      go_wp2_with ((go_at_call 169; (with_reducible refine Calls.mono (KD.out _) ?_); rintro r w1 ⟨rfl, hb⟩; replace hB := hB.trans (hb.mono hB.size); have hz := hB.size; replace zb := C3.carry zb hb; have zz := zb; obtain ⟨x0, x1, x2, x3, x4, x5, x6⟩ := zz))
      have za := C3.new w1 (.bool nb) (.int .i64 C) (.int .i64 E2) 24
      replace hB : Below w.heap.size w (w1.alloc (.cells #[.bool nb, .int .i64 C, .int .i64 E2] 24)) := hB.alloc (by omega) _
      have zz := za
      obtain ⟨x0, x1, x2, x3, x4, x5, x6⟩ := zz
      go_wp2_with (first | (go_at_call 98; (with_reducible refine Calls.mono (KN.out _) ?_); rintro r w1 ⟨rfl, hb⟩; replace hB := hB.trans (hb.mono hB.size); have hz := hB.size; replace za := C3.carry za hb; have zz := za; obtain ⟨x0, x1, x2, x3, x4, x5, x6⟩ := zz) | (go_at_call 96; (with_reducible refine Calls.mono (KZ.out _) ?_); rintro r w1 ⟨rfl, hb⟩; replace hB := hB.trans (hb.mono hB.size); have hz := hB.size; replace za := C3.carry za hb; have zz := za; obtain ⟨x0, x1, x2, x3, x4, x5, x6⟩ := zz) | (go_at_call 96; (with_reducible refine Calls.mono (KZ2.out _) ?_); rintro r w1 ⟨rfl, hb⟩; replace hB := hB.trans (hb.mono hB.size); have hz := hB.size; replace za := C3.carry za hb; have zz := za; obtain ⟨x0, x1, x2, x3, x4, x5, x6⟩ := zz))
      go_quiet (fail)
      go_wp2
      all_goals go_ret2
      all_goals exact ⟨rfl, by repeat (first | exact hB | refine below_drewN ?_ _ | refine Below.drew ?_)⟩
    · have hfz : max (p + 1) (fxD c e p).length - (fxD c e p).length = 0 := by omega
      rw [hfz, show zeros 0 = [] from rfl, List.nil_append] at hL
      rw [hL] at ea eb hq hq1 hFb
      have i1 : ¬ ((fxD c e p).length : Int) ≤ p := by omega
      have hDb : (fxD c e p).length ≤ 70 := hDl
      clear hL hfz hll
      generalize fxD c e p = FD at *
      generalize fxA c e p = FA at *
      generalize fxB c e p = FB at *
      have hDz : (⟨FD.toArray⟩ : ByteArray).size = FD.length := rfl
      have kz2 := kz
      have KD := Lib.hid kd; have KN := Lib.hid kn; have KZ := Lib.hid kz; have KZ2 := Lib.hid kz2
      clear kd kn kz kz2
      generalize hqq : FD.length - p = q at *
      clear hqq
      have b1 : ¬ (9223372036854775807 < D.length + z) := by omega
      have b1x : ¬ (9223372036854775807 < D.length + Zs.length) := by omega
      have b2 : ¬ (q : Int) < 0 := by omega
      have b3 : (q : Int) ≤ FD.length := by omega
      have wq : IntKind.i64.wrap (q : Int) = q := IntWalk.i64_in _ (by omega)
      go_enter Tryz.func111, Tryz.ntmps111
      go_wp2_with ((go_at_call 169; (with_reducible refine Calls.mono (KD.out _) ?_); rintro r w1 ⟨rfl, hb⟩; replace hB := hB.trans (hb.mono hB.size); have hz := hB.size; replace zb := C3.carry zb hb; have zz := zb; obtain ⟨x0, x1, x2, x3, x4, x5, x6⟩ := zz))
      have za := C3.new w1 (.bool nb) (.int .i64 C) (.int .i64 E2) 24
      replace hB : Below w.heap.size w (w1.alloc (.cells #[.bool nb, .int .i64 C, .int .i64 E2] 24)) := hB.alloc (by omega) _
      have zz := za
      obtain ⟨x0, x1, x2, x3, x4, x5, x6⟩ := zz
      go_wp2_with (first | (go_at_call 98; (with_reducible refine Calls.mono (KN.out _) ?_); rintro r w1 ⟨rfl, hb⟩; replace hB := hB.trans (hb.mono hB.size); have hz := hB.size; replace za := C3.carry za hb; have zz := za; obtain ⟨x0, x1, x2, x3, x4, x5, x6⟩ := zz) | (go_at_call 96; (with_reducible refine Calls.mono (KZ.out _) ?_); rintro r w1 ⟨rfl, hb⟩; replace hB := hB.trans (hb.mono hB.size); have hz := hB.size; replace za := C3.carry za hb; have zz := za; obtain ⟨x0, x1, x2, x3, x4, x5, x6⟩ := zz))
      go_quiet (fail)
      go_wp2
      all_goals go_ret2
      all_goals exact ⟨rfl, by repeat (first | exact hB | refine below_drewN ?_ _ | refine Below.drew ?_)⟩
end Go.Proofs.YtebheehjhnaklaaGreatDoor
namespace Go.Proofs.YtebheehjhnaklaaGreatDoor
open Go.RowKit
/-- what comes behind the digits ahead of the point -/
def restL (B T : List UInt8) (alt : Bool) : List UInt8 := if B = [] ∧ alt = false then T else 46 :: (B ++ T)
set_option maxRecDepth 100000 in
set_option maxHeartbeats 4000000 in
theorem rest_any (A B T : List UInt8) (alt : Bool) (w : World) (hB : B.length ≤ 200) (hT : T.length ≤ 200) :
    Calls Tryz.prog 95 #[.agg #[.string ⟨A.toArray⟩, .string ⟨B.toArray⟩, .string ⟨T.toArray⟩], .bool alt] w fun r w' => r = .returned (.string ⟨(restL B T alt).toArray⟩) ∧ Below w.heap.size w w' := by
  have c1 := cat_lN [46] B
  have c2 := cat_lN ([46] ++ B) T
  have q1 : ¬ (9223372036854775807 < 1 + B.length) := by omega
  have q2 : ¬ (9223372036854775807 < 1 + B.length + T.length) := by omega
  have q3 : ¬ (9223372036854775807 < B.length + 1) := by omega
  have q4 : ¬ (9223372036854775807 < B.length + 1 + T.length) := by omega
  have za := C3.new w (.string ⟨A.toArray⟩) (.string ⟨B.toArray⟩) (.string ⟨T.toArray⟩) 69
  have hB0 : Below w.heap.size w (w.alloc (.cells #[.string ⟨A.toArray⟩, .string ⟨B.toArray⟩, .string ⟨T.toArray⟩] 69)) := Below.alloc (Below.refl _ _) (Nat.le_refl _) _
  have zz := za
  obtain ⟨x0, x1, x2, x3, x4, x5, x6⟩ := zz
  by_cases hb : B = []
  · subst hb
    cases alt
    · rw [show restL [] T false = T from rfl]
      go_enter Tryz.func95, Tryz.ntmps95
      go_wp2
      all_goals go_ret
      all_goals exact ⟨rfl, hB0⟩
    · rw [show restL [] T true = 46 :: ([] ++ T) from rfl]
      go_enter Tryz.func95, Tryz.ntmps95
      go_wp2
      all_goals go_ret
      all_goals exact ⟨ret_strN (by first | rfl | (simp [cat_lN]; done) | (exact c2)), hB0⟩
  · have hbe : B.isEmpty = false := by cases B; exact absurd rfl hb; rfl
    have hbl : (B == []) = false := by simpa using hb
    rw [show restL B T alt = 46 :: (B ++ T) from if_neg (fun h => hb h.1)]
    go_enter Tryz.func95, Tryz.ntmps95
    go_wp2
    all_goals go_ret
    all_goals exact ⟨ret_strN (by first | rfl | exact c2 | (rw [c1, c2]; rfl)), hB0⟩
set_option maxRecDepth 100000 in
set_option maxHeartbeats 4000000 in
theorem text_any (A B T : List UInt8) (w : World) (hA : A.length ≤ 200) (hB : B.length ≤ 200) (hT : T.length ≤ 200) :
    Calls Tryz.prog 46 #[.agg #[.string ⟨A.toArray⟩, .string ⟨B.toArray⟩, .string ⟨T.toArray⟩]] w fun r w' => r = .returned (.string ⟨(A ++ restL B T false).toArray⟩) ∧ Below w.heap.size w w' := by
  have kr := fun W => rest_any A B T false W hB hT
  have hl : (restL B T false).length ≤ 401 := by unfold restL; split; omega; simp only [List.length_cons, List.length_append]; omega
  have hc := cat_lN A (restL B T false)
  generalize restL B T false = R at *
  have q1 : ¬ (9223372036854775807 < A.length + R.length) := by omega
  have za := C3.new w (.string ⟨A.toArray⟩) (.string ⟨B.toArray⟩) (.string ⟨T.toArray⟩) 69
  replace hB : Below w.heap.size w (w.alloc (.cells #[.string ⟨A.toArray⟩, .string ⟨B.toArray⟩, .string ⟨T.toArray⟩] 69)) := Below.alloc (Below.refl _ _) (Nat.le_refl _) _
  have KR := Lib.hid kr
  clear kr
  go_enter Tryz.func46, Tryz.ntmps46
  go_wp2
  obtain ⟨sza0, sza1, sza2⟩ := C3.since za
  refine wp_region_since (by kernel_rfl) (by kernel_rfl) ?_
  repeat (quiet_step ((go_at_call 95; with_reducible exact Calls.since_of (KR.out _))))
  refine wpQuiet_nil ?_
  intro w_ hw_
  obtain ⟨⟨w1, hb⟩, hw2⟩ := hw_
  have hw3 : w1 = w_ := hw2.symm
  clear hw2
  subst hw3
  clear sza0 sza1 sza2
  replace hB := hB.trans (hb.mono hB.size)
  have hz := hb.size
  replace za := C3.carry za hb
  have zz := za
  obtain ⟨x0, x1, x2, x3, x4, x5, x6⟩ := zz
  go_wp2
  all_goals go_ret
  all_goals exact ⟨ret_strN (by first | rfl | exact hc), hB⟩
theorem pointedS_any (B : List UInt8) (alt : Bool) (w : World) (hB : B.length ≤ 200) :
    Calls Tryz.prog 50 #[.string ⟨B.toArray⟩, .bool alt] w fun r w' => r = .returned (.string ⟨(restL B [] alt).toArray⟩) ∧ w = w' := by
  have c1 := cat_lN [46] B
  have q1 : ¬ (9223372036854775807 < 1 + B.length) := by omega
  have q3 : ¬ (9223372036854775807 < B.length + 1) := by omega
  by_cases hb : B = []
  · subst hb
    cases alt
    · rw [show restL [] [] false = [] from rfl]
      go_enter Tryz.func50, Tryz.ntmps50
      go_wp2
      all_goals go_ret
      all_goals exact ⟨rfl, rfl⟩
    · rw [show restL [] [] true = [46] from rfl]
      go_enter Tryz.func50, Tryz.ntmps50
      go_wp2
      all_goals go_ret
      all_goals exact ⟨ret_strN (by first | rfl | (simp [cat_lN]; done)), rfl⟩
  · have hbe : B.isEmpty = false := by cases B; exact absurd rfl hb; rfl
    have hbl : (B == []) = false := by simpa using hb
    rw [show restL B [] alt = 46 :: (B ++ []) from if_neg (fun h => hb h.1), List.append_nil]
    go_enter Tryz.func50, Tryz.ntmps50
    go_wp2
    all_goals go_ret
    all_goals exact ⟨ret_strN (by first | rfl | exact c1), rfl⟩
/-- the text of an amount with p places -/
def ftL (c e : Int) (p : Nat) : List UInt8 := fxA c e p ++ restL (fxB c e p) [] false
theorem fxAB_len {c e : Int} {p : Nat} (h : fxC c e p ≤ 999999999) (h4 : e + p ≤ 40) (h5 : p ≤ 29) : (fxA c e p).length ≤ 70 ∧ (fxB c e p).length ≤ 70 := by
  have := fxL_len h h4 h5
  unfold fxA fxB
  rw [List.length_take, List.length_drop]
  omega
theorem vld_b {n : Bool} {c e : Int} (h : Fd.vld ⟨n, c, e⟩ = true) : 0 ≤ c ∧ c ≤ 999999999 ∧ -12 ≤ e ∧ e ≤ 12 := bounds_of h
end Go.Proofs.YtebheehjhnaklaaGreatDoor
namespace Go.Proofs.YtebheehjhnaklaaGreatDoor
open Go.RowKit
structure PlF (n : Bool) (c e : Int) (m : Nat) : Prop where
  pl : Fd.placesI ⟨n, c, e⟩ = (m : Int)
  mb : m ≤ 12
theorem pl_facts {n : Bool} {c e : Int} (hv : Fd.vld ⟨n, c, e⟩ = true) : ∃ m, PlF n c e m := by
  have h := Fd.nd_valid ⟨n, c, e⟩
  obtain ⟨_, _, h1, h2, _⟩ := h
  refine ⟨(Fd.placesI ⟨n, c, e⟩).toNat, ?_, ?_⟩
  · unfold Fd.placesI
    rw [hv, if_pos rfl]
    omega
  · unfold Fd.placesI
    rw [hv, if_pos rfl]
    omega
def plainW (n : Bool) (c e : Int) : ByteArray := if Fd.vld ⟨n, c, e⟩ then ⟨(ftL c e (Fd.placesI ⟨n, c, e⟩).toNat).toArray⟩ else ⟨#[]⟩
set_option maxRecDepth 100000 in
set_option maxHeartbeats 4000000 in
theorem plain_any (n : Bool) (c e : Int) (m : Nat) (w : World) (hv : Fd.vld ⟨n, c, e⟩ = true) (hm : PlF n c e m) (hT : PT w) :
    Calls Tryz.prog 74 #[.agg #[.bool n, .int .i64 c, .int .i64 e]] w fun r w' => r = .returned (.agg #[.string ⟨(fxA c e m).toArray⟩, .string ⟨(fxB c e m).toArray⟩, .string ⟨#[]⟩]) ∧ Below w.heap.size w w' := by
  obtain ⟨b0, b1, b2, b3⟩ := vld_b hv
  have hmb := hm.mb
  have kp := fun W => PlacesOf_any n c e W
  rw [hm.pl] at kp
  have kx := fun W (h : PT W) => fixed_any n c e m W b0 b1 (by omega) (by omega) (by omega) (by omega) h
  generalize fxA c e m = A at *
  generalize fxB c e m = B at *
  have zb := C3.up (C3.new w (.bool n) (.int .i64 c) (.int .i64 e) 24) (.cells #[.string ⟨#[]⟩, .string ⟨#[]⟩, .string ⟨#[]⟩] 69)
  have zc : C3 ((w.alloc (.cells #[.bool n, .int .i64 c, .int .i64 e] 24)).alloc (.cells #[.string ⟨#[]⟩, .string ⟨#[]⟩, .string ⟨#[]⟩] 69)) (w.heap.size + 1) (.string ⟨#[]⟩) (.string ⟨#[]⟩) (.string ⟨#[]⟩) := by
    have h := C3.new (w.alloc (.cells #[.bool n, .int .i64 c, .int .i64 e] 24)) (.string ⟨#[]⟩) (.string ⟨#[]⟩) (.string ⟨#[]⟩) 69
    rw [show (w.alloc (.cells #[.bool n, .int .i64 c, .int .i64 e] 24)).heap.size = w.heap.size + 1 by simp] at h
    exact h
  have hB : Below w.heap.size w ((w.alloc (.cells #[.bool n, .int .i64 c, .int .i64 e] 24)).alloc (.cells #[.string ⟨#[]⟩, .string ⟨#[]⟩, .string ⟨#[]⟩] 69)) := (Below.alloc (Below.refl _ _) (Nat.le_refl _) _).alloc (by simp) _
  have zz := zb
  obtain ⟨x0, x1, x2, x3, x4, x5, x6⟩ := zz
  have zz := zc
  obtain ⟨x0, x1, x2, x3, x4, x5, x6⟩ := zz
  have KP := Lib.hid kp; have KX := Lib.hid kx
  clear kp kx
  clear hv hm
  go_enter Tryz.func74, Tryz.ntmps74
  go_wp2
  go_region_with (first | (go_at_call 119; (with_reducible refine Calls.mono (KP.out _) ?_); rintro r w1 ⟨rfl, hb⟩; have hB : Below w.heap.size w w1 := (by refine Below.trans ?_ (hb.mono (by first | omega | (simp; done) | (simp <;> omega))); repeat (first | with_reducible exact Below.refl _ _ | with_reducible assumption | with_reducible refine Below.setCell ?_ (by first | omega | (simp; done) | (simp <;> omega)) _ | with_reducible refine below_drewN ?_ _ | with_reducible refine Below.drew ?_ | with_reducible refine Below.alloc ?_ (by first | omega | (simp; done) | (simp <;> omega)) _)); have hz := hb.size; (try simp at hz); (try (have zN := C3.carry (by first | with_reducible exact za | with_reducible exact za.up _ | with_reducible exact (za.up _).up _ | with_reducible exact C3.drew za | with_reducible exact (C3.drew za).up _) hb; clear za; have za := zN; clear zN; have zz := za; obtain ⟨x0, x1, x2, x3, x4, x5, x6⟩ := zz)); (try (have zN := C3.carry (by first | with_reducible exact zb | with_reducible exact zb.up _ | with_reducible exact (zb.up _).up _ | with_reducible exact C3.drew zb | with_reducible exact (C3.drew zb).up _) hb; clear zb; have zb := zN; clear zN; have zz := zb; obtain ⟨x0, x1, x2, x3, x4, x5, x6⟩ := zz)); (try (have zN := C3.carry (by first | with_reducible exact zc | with_reducible exact zc.up _ | with_reducible exact (zc.up _).up _ | with_reducible exact C3.drew zc | with_reducible exact (C3.drew zc).up _) hb; clear zc; have zc := zN; clear zN; have zz := zc; obtain ⟨x0, x1, x2, x3, x4, x5, x6⟩ := zz)); (try (have zN := C3.carry (by first | with_reducible exact zd | with_reducible exact zd.up _ | with_reducible exact (zd.up _).up _ | with_reducible exact C3.drew zd | with_reducible exact (C3.drew zd).up _) hb; clear zd; have zd := zN; clear zN; have zz := zd; obtain ⟨x0, x1, x2, x3, x4, x5, x6⟩ := zz)); (try (have zN := C3.carry (by first | with_reducible exact ze | with_reducible exact ze.up _ | with_reducible exact (ze.up _).up _ | with_reducible exact C3.drew ze | with_reducible exact (C3.drew ze).up _) hb; clear ze; have ze := zN; clear zN; have zz := ze; obtain ⟨x0, x1, x2, x3, x4, x5, x6⟩ := zz)); (try (have zN := C3.carry (by first | with_reducible exact zf | with_reducible exact zf.up _ | with_reducible exact (zf.up _).up _ | with_reducible exact C3.drew zf | with_reducible exact (C3.drew zf).up _) hb; clear zf; have zf := zN; clear zN; have zz := zf; obtain ⟨x0, x1, x2, x3, x4, x5, x6⟩ := zz)); (try (first | (have zT := za; clear zT; (first | (have zT := zb; clear zT; (first | (have zT := zc; clear zT; (first | (have zT := zd; clear zT; (first | (have zT := ze; clear zT; (first | (have zT := zf; clear zT; (skip)) | (have zf := C3.carry (C3.new _ _ _ _ _) hb; have zz := zf; obtain ⟨x0, x1, x2, x3, x4, x5, x6⟩ := zz))) | (have ze := C3.carry (C3.new _ _ _ _ _) hb; have zz := ze; obtain ⟨x0, x1, x2, x3, x4, x5, x6⟩ := zz))) | (have zd := C3.carry (C3.new _ _ _ _ _) hb; have zz := zd; obtain ⟨x0, x1, x2, x3, x4, x5, x6⟩ := zz))) | (have zc := C3.carry (C3.new _ _ _ _ _) hb; have zz := zc; obtain ⟨x0, x1, x2, x3, x4, x5, x6⟩ := zz))) | (have zb := C3.carry (C3.new _ _ _ _ _) hb; have zz := zb; obtain ⟨x0, x1, x2, x3, x4, x5, x6⟩ := zz))) | (have za := C3.carry (C3.new _ _ _ _ _) hb; have zz := za; obtain ⟨x0, x1, x2, x3, x4, x5, x6⟩ := zz)))) | (go_at_call 93; (with_reducible refine Calls.mono (KX.out _ (by first | exact hT.on hB | exact hT.on hB.drew | exact hT.on hB.drew.drew)) ?_); rintro r w1 ⟨rfl, hb⟩; have hB : Below w.heap.size w w1 := (by refine Below.trans ?_ (hb.mono (by first | omega | (simp; done) | (simp <;> omega))); repeat (first | with_reducible exact Below.refl _ _ | with_reducible assumption | with_reducible refine Below.setCell ?_ (by first | omega | (simp; done) | (simp <;> omega)) _ | with_reducible refine below_drewN ?_ _ | with_reducible refine Below.drew ?_ | with_reducible refine Below.alloc ?_ (by first | omega | (simp; done) | (simp <;> omega)) _)); have hz := hb.size; (try simp at hz); (try (have zN := C3.carry (by first | with_reducible exact za | with_reducible exact za.up _ | with_reducible exact (za.up _).up _ | with_reducible exact C3.drew za | with_reducible exact (C3.drew za).up _) hb; clear za; have za := zN; clear zN; have zz := za; obtain ⟨x0, x1, x2, x3, x4, x5, x6⟩ := zz)); (try (have zN := C3.carry (by first | with_reducible exact zb | with_reducible exact zb.up _ | with_reducible exact (zb.up _).up _ | with_reducible exact C3.drew zb | with_reducible exact (C3.drew zb).up _) hb; clear zb; have zb := zN; clear zN; have zz := zb; obtain ⟨x0, x1, x2, x3, x4, x5, x6⟩ := zz)); (try (have zN := C3.carry (by first | with_reducible exact zc | with_reducible exact zc.up _ | with_reducible exact (zc.up _).up _ | with_reducible exact C3.drew zc | with_reducible exact (C3.drew zc).up _) hb; clear zc; have zc := zN; clear zN; have zz := zc; obtain ⟨x0, x1, x2, x3, x4, x5, x6⟩ := zz)); (try (have zN := C3.carry (by first | with_reducible exact zd | with_reducible exact zd.up _ | with_reducible exact (zd.up _).up _ | with_reducible exact C3.drew zd | with_reducible exact (C3.drew zd).up _) hb; clear zd; have zd := zN; clear zN; have zz := zd; obtain ⟨x0, x1, x2, x3, x4, x5, x6⟩ := zz)); (try (have zN := C3.carry (by first | with_reducible exact ze | with_reducible exact ze.up _ | with_reducible exact (ze.up _).up _ | with_reducible exact C3.drew ze | with_reducible exact (C3.drew ze).up _) hb; clear ze; have ze := zN; clear zN; have zz := ze; obtain ⟨x0, x1, x2, x3, x4, x5, x6⟩ := zz)); (try (have zN := C3.carry (by first | with_reducible exact zf | with_reducible exact zf.up _ | with_reducible exact (zf.up _).up _ | with_reducible exact C3.drew zf | with_reducible exact (C3.drew zf).up _) hb; clear zf; have zf := zN; clear zN; have zz := zf; obtain ⟨x0, x1, x2, x3, x4, x5, x6⟩ := zz)); (try (first | (have zT := za; clear zT; (first | (have zT := zb; clear zT; (first | (have zT := zc; clear zT; (first | (have zT := zd; clear zT; (first | (have zT := ze; clear zT; (first | (have zT := zf; clear zT; (skip)) | (have zf := C3.carry (C3.new _ _ _ _ _) hb; have zz := zf; obtain ⟨x0, x1, x2, x3, x4, x5, x6⟩ := zz))) | (have ze := C3.carry (C3.new _ _ _ _ _) hb; have zz := ze; obtain ⟨x0, x1, x2, x3, x4, x5, x6⟩ := zz))) | (have zd := C3.carry (C3.new _ _ _ _ _) hb; have zz := zd; obtain ⟨x0, x1, x2, x3, x4, x5, x6⟩ := zz))) | (have zc := C3.carry (C3.new _ _ _ _ _) hb; have zz := zc; obtain ⟨x0, x1, x2, x3, x4, x5, x6⟩ := zz))) | (have zb := C3.carry (C3.new _ _ _ _ _) hb; have zz := zb; obtain ⟨x0, x1, x2, x3, x4, x5, x6⟩ := zz))) | (have za := C3.carry (C3.new _ _ _ _ _) hb; have zz := za; obtain ⟨x0, x1, x2, x3, x4, x5, x6⟩ := zz)))))
  all_goals go_wp2
  all_goals exact bodyPost_ret (v := .agg #[.string ⟨A.toArray⟩, .string ⟨B.toArray⟩, .string ⟨#[]⟩]) (by simp [results, Tryz.results74, go_sem, *]) rfl ⟨rfl, (by repeat (first | with_reducible exact Below.refl _ _ | with_reducible assumption | with_reducible refine Below.setCell ?_ (by first | omega | (simp; done) | (simp <;> omega)) _ | with_reducible refine below_drewN ?_ _ | with_reducible refine Below.drew ?_ | with_reducible refine Below.alloc ?_ (by first | omega | (simp; done) | (simp <;> omega)) _))⟩
set_option maxRecDepth 100000 in
set_option maxHeartbeats 4000000 in
theorem PlainText_any (n : Bool) (c e : Int) (w : World) (hT : PT w) :
    Calls Tryz.prog 23 #[.agg #[.bool n, .int .i64 c, .int .i64 e]] w fun r w' => r = .returned (.string (plainW n c e)) ∧ Below w.heap.size w w' := by
  have kv := fun W => ValidDec_any n c e W
  have zb := C3.new w (.bool n) (.int .i64 c) (.int .i64 e) 24
  have hB : Below w.heap.size w (w.alloc (.cells #[.bool n, .int .i64 c, .int .i64 e] 24)) := Below.alloc (Below.refl _ _) (Nat.le_refl _) _
  have zz := zb
  obtain ⟨x0, x1, x2, x3, x4, x5, x6⟩ := zz
  cases hv : Fd.vld ⟨n, c, e⟩
  · rw [show plainW n c e = ⟨#[]⟩ by unfold plainW; rw [hv]; rfl]
    rw [hv] at kv
    have KV := Lib.hid kv
    clear kv
    clear hT hv
    go_enter Tryz.func23, Tryz.ntmps23
    go_wp2_with (first | (go_at_call 43; (with_reducible refine Calls.mono (KV.out _) ?_); rintro r w1 ⟨rfl, hb⟩; replace hB := hB.trans (hb.mono hB.size); have hz := hB.size; replace zb := C3.carry zb hb; have zz := zb; obtain ⟨x0, x1, x2, x3, x4, x5, x6⟩ := zz))
    all_goals go_ret
    all_goals exact ⟨rfl, hB⟩
  · obtain ⟨b0, b1, b2, b3⟩ := vld_b hv
    obtain ⟨m, hm⟩ := pl_facts hv
    have hmb := hm.mb
    rw [show plainW n c e = ⟨(ftL c e m).toArray⟩ by unfold plainW; rw [hv, hm.pl]; rfl]
    have kx := fun W (h : PT W) => plain_any n c e m W hv hm h
    rw [hv] at kv
    have F := fx_facts n (c := c) (e := e) (p := m) b0 b1 (by omega) (by omega) (by omega) (by omega)
    have hl := fxAB_len F.cb (by omega) (by omega)
    have kt := fun W => text_any (fxA c e m) (fxB c e m) [] W (by omega) (by omega) (by simp)
    rw [show fxA c e m ++ restL (fxB c e m) [] false = ftL c e m from rfl] at kt
    generalize ftL c e m = R at *
    generalize fxA c e m = A at *
    generalize fxB c e m = B at *
    have KV := Lib.hid kv; have KX := Lib.hid kx; have KT := Lib.hid kt
    clear kv kx kt
    clear F hl hv hm
    go_enter Tryz.func23, Tryz.ntmps23
    go_wp2_with (first | (go_at_call 43; (with_reducible refine Calls.mono (KV.out _) ?_); rintro r w1 ⟨rfl, hb⟩; replace hB := hB.trans (hb.mono hB.size); have hz := hB.size; replace zb := C3.carry zb hb; have zz := zb; obtain ⟨x0, x1, x2, x3, x4, x5, x6⟩ := zz) | (go_at_call 74; (with_reducible refine Calls.mono (KX.out _ (hT.on hB)) ?_); rintro r w1 ⟨rfl, hb⟩; replace hB := hB.trans (hb.mono hB.size); have hz := hB.size; replace zb := C3.carry zb hb; have zz := zb; obtain ⟨x0, x1, x2, x3, x4, x5, x6⟩ := zz) | (go_at_call 46; (with_reducible refine Calls.mono (KT.out _) ?_); rintro r w1 ⟨rfl, hb⟩; replace hB := hB.trans (hb.mono hB.size); have hz := hB.size; replace zb := C3.carry zb hb; have zz := zb; obtain ⟨x0, x1, x2, x3, x4, x5, x6⟩ := zz))
    all_goals go_ret
    all_goals exact ⟨rfl, hB⟩
end Go.Proofs.YtebheehjhnaklaaGreatDoor
