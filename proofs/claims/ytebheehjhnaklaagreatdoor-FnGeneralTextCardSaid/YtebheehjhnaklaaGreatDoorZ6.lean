import Derived.Test.YtebheehjhnaklaaGreatDoorZ3
namespace Go.Proofs.YtebheehjhnaklaaGreatDoor
open Go.RowKit
theorem upper_dch {k : Nat} (h : k < 16) : Lib.upperB (dch false k) = dch true k := by
  have h0 : ((List.range 16).all fun k => Lib.upperB (dch false k) == dch true k) = true := by decide +kernel
  exact eq_of_beq (List.all_eq_true.1 h0 k (List.mem_range.2 h))
theorem ascii_dch {k : Nat} (h : k < 16) : (dch false k).toNat < 128 := by
  have h0 : ((List.range 16).all fun k => decide ((dch false k).toNat < 128)) = true := by decide +kernel
  simpa using List.all_eq_true.1 h0 k (List.mem_range.2 h)
theorem digs_mem {b : Nat} (h2 : 2 ≤ b) (h16 : b ≤ 16) : ∀ (k n : Nat), n ≤ k → ∀ x ∈ digs false b n, ∃ d, d < 16 ∧ x = dch false d := by
  intro k
  induction k with
  | zero =>
    intro n hn x hx
    rw [digs_lt (by omega)] at hx
    exact ⟨n, by omega, by simpa using hx⟩
  | succ k ih =>
    intro n hn x hx
    by_cases h : n < b
    · rw [digs_lt h] at hx
      exact ⟨n, by omega, by simpa using hx⟩
    · have hd := div_lt_of h2 (show b ≤ n by omega)
      have hr := Nat.mod_lt n (show 0 < b by omega)
      rw [digs_ge h2 (by omega)] at hx
      rcases List.mem_append.1 hx with hx | hx
      · exact ih (n / b) (by omega) x hx
      · exact ⟨n % b, by omega, by simpa using hx⟩
theorem upper_digs {b : Nat} (h2 : 2 ≤ b) (h16 : b ≤ 16) : ∀ (k n : Nat), n ≤ k → Lib.toUpperA (digs false b n) = digs true b n := by
  intro k
  induction k with
  | zero =>
    intro n hn
    rw [digs_lt (by omega), digs_lt (by omega)]
    show [Lib.upperB (dch false n)] = _
    rw [upper_dch (by omega)]
  | succ k ih =>
    intro n hn
    by_cases h : n < b
    · rw [digs_lt h, digs_lt h]
      show [Lib.upperB (dch false n)] = _
      rw [upper_dch (by omega)]
    · have hd := div_lt_of h2 (show b ≤ n by omega)
      have hr := Nat.mod_lt n (show 0 < b by omega)
      have e1 : digs false b n = _ := digs_ge h2 (by omega)
      have e2 : digs true b n = _ := digs_ge h2 (by omega)
      have hlt : n % b < 16 := by omega
      rw [e1, e2, ← ih (n / b) (by omega), ← upper_dch hlt]
      simp [Lib.toUpperA]
theorem ToUpper_digs (b n : Nat) (h2 : 2 ≤ b) (h16 : b ≤ 16) (hn : n ≤ 999999999999) (w : World) :
    Calls Tryz.prog 203 #[.string ⟨(digs false b n).toArray⟩] w fun r w' => r = .returned (.string ⟨(digs true b n).toArray⟩) ∧ Below w.heap.size w w' := by
  have hd := digs_40 (up := false) h2 hn
  have h := Tryz.strings_ToUpper_ascii ⟨(digs false b n).toArray⟩ w (by show (digs false b n).length ≤ _; omega) (fun j x hx => by
    obtain ⟨d, hd, rfl⟩ := digs_mem h2 h16 n n (Nat.le_refl _) x (List.mem_of_getElem? hx)
    exact ascii_dch hd)
  rw [show (⟨(digs false b n).toArray⟩ : ByteArray).data.toList = digs false b n from rfl, upper_digs h2 h16 n n (Nat.le_refl _)] at h
  exact h
theorem mkL_len (k : Int) : (mkL k).length ≤ 1 := by
  unfold mkL
  split
  · simp
  · split <;> simp
theorem szZ (l : List UInt8) : (⟨l.toArray⟩ : ByteArray).size = l.length := rfl
set_option maxRecDepth 100000 in
set_option maxHeartbeats 8000000 in
theorem digitsOf_any (f : ByteArray) (al si : Int) (alt ze : Bool) (wi : Nat) (gr pr : Int) (t : List UInt8) (n : Int) (others : Nat) (c : UInt8) (a : Int) (w : World) (hw : wi ≤ 30) (hT : TyOk t) (hn : -999999999999 ≤ n ∧ n ≤ 999999999999) (hg0 : 0 ≤ gr) (hg2 : gr ≤ 2) (hD : DT w)
    (kf : ∀ W, Calls Tryz.prog 146 #[.agg #[.string f, .int .i64 al, .int .i64 si, .bool alt, .bool ze, .int .i64 wi, .int .i64 gr, .int .i64 pr, .string ⟨t.toArray⟩]] W fun r w' => r = .returned (.string ⟨#[c]⟩) ∧ Below W.heap.size W w')
    (ka : ∀ W, Calls Tryz.prog 147 #[.agg #[.string f, .int .i64 al, .int .i64 si, .bool alt, .bool ze, .int .i64 wi, .int .i64 gr, .int .i64 pr, .string ⟨t.toArray⟩], .int .i64 0] W fun r w' => r = .returned (.int .i64 a) ∧ Below W.heap.size W w') (ho : others ≤ 100) :
    Calls Tryz.prog 145 #[.agg #[.string f, .int .i64 al, .int .i64 si, .bool alt, .bool ze, .int .i64 wi, .int .i64 gr, .int .i64 pr, .string ⟨t.toArray⟩], .int .i64 n, .int .i64 others] w fun r w' => r = .returned (.string ⟨(widL (digs (t == [88]) (tyBase t) n.natAbs) (zuN c a wi others) (tyGrp t) (mkL gr)).toArray⟩) ∧ Below w.heap.size w w' := by
  have hbase := hT.base
  have hgrp := hT.grp
  have kb := fun W => mBn (baseOf_ok t hT W)
  have kg := fun W => mBn (groupOf_ok t hT W)
  have km := fun W => mBn (markAt_g gr hg0 hg2 W)
  have kz := fun W => zerosUpTo_any f al si alt ze wi gr pr ⟨t.toArray⟩ others c a W hw kf ka ho
  have kx := fun W => mBn (greater_abs n (by omega) W)
  have kd := fun W (h : DT W) => DigitsIn_any ((n.natAbs : Nat) : Int) ((tyBase t : Nat) : Int) W h
  rw [digW_yes (by omega) (by omega) (by omega)] at kd
  have ku := fun W => ToUpper_digs (tyBase t) n.natAbs hbase.1 hbase.2 (by omega) W
  have hdl : ∀ up, (digs up (tyBase t) n.natAbs).length ≤ 40 := fun up => digs_40 hbase.1 (by omega)
  have hzl := @zu_le c a wi others
  have kw := fun W => WidenDigits_any ⟨(digs (t == [88]) (tyBase t) n.natAbs).toArray⟩ (zuN c a wi others) (tyGrp t) ⟨(mkL gr).toArray⟩ W (by rw [szZ]; have := hdl (t == [88]); omega) (by rw [szZ]; have := mkL_len gr; omega)
  rw [widW_yes (by rw [szZ]; have := hdl (t == [88]); omega) (by omega) (by omega) (by omega) (by rw [szZ]; exact mkL_len gr)] at kw
  rw [show (⟨(mkL gr).toArray⟩ : ByteArray).data.toList = mkL gr from rfl, show (⟨(digs (t == [88]) (tyBase t) n.natAbs).toArray⟩ : ByteArray).data.toList = digs (t == [88]) (tyBase t) n.natAbs from rfl] at kw
  generalize widL (digs (t == [88]) (tyBase t) n.natAbs) (zuN c a wi others) (tyGrp t) (mkL gr) = R at *
  generalize zuN c a wi others = z at *
  generalize mkL gr = M at *
  clear hdl
  by_cases hx : t = [88]
  · subst hx
    rw [show (([88] : List UInt8) == [88]) = true from rfl] at kw
    generalize digs true (tyBase [88]) n.natAbs = D1 at *
    generalize digs false (tyBase [88]) n.natAbs = D0 at *
    generalize tyGrp [88] = g at *
    generalize tyBase [88] = b at *
    generalize hN : n.natAbs = N at *
    have KB := Lib.hid kb; have KG := Lib.hid kg; have KM := Lib.hid km; have KZ := Lib.hid kz; have KX := Lib.hid kx; have KD := Lib.hid kd; have KU := Lib.hid ku; have KW := Lib.hid kw
    clear kb kg km kz kx kd ku kw kf ka hT hN
    have za := C9.new w (.string f) (.int .i64 al) (.int .i64 si) (.bool alt) (.bool ze) (.int .i64 wi) (.int .i64 gr) (.int .i64 pr) (.string ⟨[88].toArray⟩) 38
    have hB : Below w.heap.size w (w.alloc (.cells #[.string f, .int .i64 al, .int .i64 si, .bool alt, .bool ze, .int .i64 wi, .int .i64 gr, .int .i64 pr, .string ⟨[88].toArray⟩] 38)) := (Below.refl _ _).alloc (Nat.le_refl _) _
    have zz := za
    obtain ⟨x0, x1, x2, x3, x4, x5, x6, x7, x8, x9, xl⟩ := zz
    go_enter Tryz.func145, Tryz.ntmps145
    go_wp2_with (first | (go_at_call 195; (with_reducible refine Calls.mono (KB.out _) ?_); rintro r w1 ⟨rfl, hb⟩; replace hB := hB.trans (hb.mono hB.size); replace za := za.carry hb; have zz := za; obtain ⟨x0, x1, x2, x3, x4, x5, x6, x7, x8, x9, xl⟩ := zz) | (go_at_call 166; (with_reducible refine Calls.mono (KX.out _) ?_); rintro r w1 ⟨rfl, hb⟩; replace hB := hB.trans (hb.mono hB.size); replace za := za.carry hb; have zz := za; obtain ⟨x0, x1, x2, x3, x4, x5, x6, x7, x8, x9, xl⟩ := zz) | (go_at_call 165; (with_reducible refine Calls.mono (KD.out _ (hD.on hB)) ?_); rintro r w1 ⟨rfl, hb⟩; replace hB := hB.trans (hb.mono hB.size); replace za := za.carry hb; have zz := za; obtain ⟨x0, x1, x2, x3, x4, x5, x6, x7, x8, x9, xl⟩ := zz) | (go_at_call 203; (with_reducible refine Calls.mono (KU.out _) ?_); rintro r w1 ⟨rfl, hb⟩; replace hB := hB.trans (hb.mono hB.size); replace za := za.carry hb; have zz := za; obtain ⟨x0, x1, x2, x3, x4, x5, x6, x7, x8, x9, xl⟩ := zz))
    obtain ⟨sza0, sza1, sza2, sza3, sza4, sza5, sza6, sza7, sza8⟩ := C9.since za
    refine wp_region_since (by kernel_rfl) (by kernel_rfl) ?_
    repeat (quiet_step (first | (go_at_call 152; with_reducible exact Calls.since_of (KG.out _)) | (go_at_call 130; with_reducible exact Calls.since_of (KM.out _)) | (go_at_call 150; with_reducible exact Calls.since_of (KZ.out _)) | (go_at_call 151; with_reducible exact Calls.since_of (KW.out _))))
    refine wpQuiet_nil ?_
    intro w_ hw_
    obtain ⟨⟨w1, hb⟩, hw2⟩ := hw_
    have hw3 : w1 = w_ := hw2.symm
    clear hw2
    subst hw3
    clear sza0 sza1 sza2 sza3 sza4 sza5 sza6 sza7 sza8
    replace hB := hB.trans (hb.mono hB.size)
    have hz := hb.size
    replace za := C9.carry za hb
    have zz := za
    obtain ⟨x0, x1, x2, x3, x4, x5, x6, x7, x8, x9, xl⟩ := zz
    go_wp2
    all_goals go_ret
    all_goals exact ⟨rfl, hB⟩
  · have hx1 : (t == [88]) = false := by simpa using hx
    rw [hx1] at kw
    generalize digs false (tyBase t) n.natAbs = D0 at *
    generalize tyGrp t = g at *
    generalize tyBase t = b at *
    generalize hN : n.natAbs = N at *
    have KB := Lib.hid kb; have KG := Lib.hid kg; have KM := Lib.hid km; have KZ := Lib.hid kz; have KX := Lib.hid kx; have KD := Lib.hid kd; have KW := Lib.hid kw
    clear kb kg km kz kx kd ku kw kf ka hT hN
    have za := C9.new w (.string f) (.int .i64 al) (.int .i64 si) (.bool alt) (.bool ze) (.int .i64 wi) (.int .i64 gr) (.int .i64 pr) (.string ⟨t.toArray⟩) 38
    have hB : Below w.heap.size w (w.alloc (.cells #[.string f, .int .i64 al, .int .i64 si, .bool alt, .bool ze, .int .i64 wi, .int .i64 gr, .int .i64 pr, .string ⟨t.toArray⟩] 38)) := (Below.refl _ _).alloc (Nat.le_refl _) _
    have zz := za
    obtain ⟨x0, x1, x2, x3, x4, x5, x6, x7, x8, x9, xl⟩ := zz
    go_enter Tryz.func145, Tryz.ntmps145
    go_wp2_with (first | (go_at_call 195; (with_reducible refine Calls.mono (KB.out _) ?_); rintro r w1 ⟨rfl, hb⟩; replace hB := hB.trans (hb.mono hB.size); replace za := za.carry hb; have zz := za; obtain ⟨x0, x1, x2, x3, x4, x5, x6, x7, x8, x9, xl⟩ := zz) | (go_at_call 166; (with_reducible refine Calls.mono (KX.out _) ?_); rintro r w1 ⟨rfl, hb⟩; replace hB := hB.trans (hb.mono hB.size); replace za := za.carry hb; have zz := za; obtain ⟨x0, x1, x2, x3, x4, x5, x6, x7, x8, x9, xl⟩ := zz) | (go_at_call 165; (with_reducible refine Calls.mono (KD.out _ (hD.on hB)) ?_); rintro r w1 ⟨rfl, hb⟩; replace hB := hB.trans (hb.mono hB.size); replace za := za.carry hb; have zz := za; obtain ⟨x0, x1, x2, x3, x4, x5, x6, x7, x8, x9, xl⟩ := zz))
    obtain ⟨sza0, sza1, sza2, sza3, sza4, sza5, sza6, sza7, sza8⟩ := C9.since za
    refine wp_region_since (by kernel_rfl) (by kernel_rfl) ?_
    repeat (quiet_step (first | (go_at_call 152; with_reducible exact Calls.since_of (KG.out _)) | (go_at_call 130; with_reducible exact Calls.since_of (KM.out _)) | (go_at_call 150; with_reducible exact Calls.since_of (KZ.out _)) | (go_at_call 151; with_reducible exact Calls.since_of (KW.out _))))
    refine wpQuiet_nil ?_
    intro w_ hw_
    obtain ⟨⟨w1, hb⟩, hw2⟩ := hw_
    have hw3 : w1 = w_ := hw2.symm
    clear hw2
    subst hw3
    clear sza0 sza1 sza2 sza3 sza4 sza5 sza6 sza7 sza8
    replace hB := hB.trans (hb.mono hB.size)
    have hz := hb.size
    replace za := C9.carry za hb
    have zz := za
    obtain ⟨x0, x1, x2, x3, x4, x5, x6, x7, x8, x9, xl⟩ := zz
    go_wp2
    all_goals go_ret
    all_goals exact ⟨rfl, hB⟩
end Go.Proofs.YtebheehjhnaklaaGreatDoor
namespace Go.Proofs.YtebheehjhnaklaaGreatDoor
open Go.RowKit
theorem rune_text {k : Nat} (h : k < 128) (h32 : 32 ≤ k) : Utf8.encode (k : Int) = ⟨#[UInt8.ofNat k]⟩ := by
  have h0 : ((List.range 128).all fun k => decide (k < 32) || (Utf8.encode (k : Int)).data.toList == [UInt8.ofNat k]) = true := by decide +kernel
  have h1 := List.all_eq_true.1 h0 k (List.mem_range.2 h)
  simp only [Bool.or_eq_true, decide_eq_true_eq, beq_iff_eq] at h1
  rcases h1 with h1 | h1
  · omega
  · apply ByteArray.ext
    exact Array.toList_inj.1 h1
/-- what comes ahead of the digits -/
def headL (si : Int) (neg alt : Bool) (t : List UInt8) : List UInt8 := sgnL si neg ++ (if alt then tyPre t else [])
theorem tyPre_len2 {t : List UInt8} (h : TyOk t) : (tyPre t).length ≤ 2 := by rcases h with rfl | rfl | rfl | rfl | rfl | rfl <;> decide
theorem head_len {t : List UInt8} (h : TyOk t) (si : Int) (neg alt : Bool) : (headL si neg alt t).length ≤ 3 := by
  unfold headL
  have := sgn_len si neg
  have := tyPre_len2 h
  rw [List.length_append]
  split <;> simp <;> omega
def wholeL (c : UInt8) (a si : Int) (alt : Bool) (wi : Nat) (gr : Int) (t : List UInt8) (n : Int) : List UInt8 :=
  padL (headL si (decide (n < 0)) alt t) (widL (digs (t == [88]) (tyBase t) n.natAbs) (zuN c a wi (headL si (decide (n < 0)) alt t).length) (tyGrp t) (mkL gr)) wi c a
theorem widL_len {l sep : List UInt8} {wd n : Nat} (hl : l.length ≤ 40) (hw : wd ≤ 30) (hs : sep.length ≤ 1) : (widL l wd n sep).length ≤ 200 := by
  unfold widL
  have hc := @cnt_le n wd
  split
  · simp [zeros]; omega
  · have := grp_length n sep (zeros (max (cnt wd n) l.length - l.length) ++ l) hs
    have hz : ∀ k, (zeros k).length = k := fun k => by simp [zeros]
    rw [List.length_append, hz] at this
    omega
set_option maxRecDepth 100000 in
set_option maxHeartbeats 8000000 in
theorem FormatWhole_num (f : ByteArray) (al si : Int) (alt ze : Bool) (wi : Nat) (gr pr : Int) (t : List UInt8) (n : Int) (c : UInt8) (a : Int) (w : World) (hw : wi ≤ 30) (hT : TyOk t) (hn : -999999999999 ≤ n ∧ n ≤ 999999999999) (hg0 : 0 ≤ gr) (hg2 : gr ≤ 2) (ha : 1 ≤ a ∧ a ≤ 4) (hD : DT w)
    (ks : ∀ W, Calls Tryz.prog 85 #[.agg #[.string f, .int .i64 al, .int .i64 si, .bool alt, .bool ze, .int .i64 wi, .int .i64 gr, .int .i64 pr, .string ⟨t.toArray⟩], .int .i64 0] W fun r w' => r = .returned (.bool true) ∧ Below W.heap.size W w')
    (kf : ∀ W, Calls Tryz.prog 146 #[.agg #[.string f, .int .i64 al, .int .i64 si, .bool alt, .bool ze, .int .i64 wi, .int .i64 gr, .int .i64 pr, .string ⟨t.toArray⟩]] W fun r w' => r = .returned (.string ⟨#[c]⟩) ∧ Below W.heap.size W w')
    (ka : ∀ W, Calls Tryz.prog 147 #[.agg #[.string f, .int .i64 al, .int .i64 si, .bool alt, .bool ze, .int .i64 wi, .int .i64 gr, .int .i64 pr, .string ⟨t.toArray⟩], .int .i64 0] W fun r w' => r = .returned (.int .i64 a) ∧ Below W.heap.size W w') :
    Calls Tryz.prog 86 #[.agg #[.string f, .int .i64 al, .int .i64 si, .bool alt, .bool ze, .int .i64 wi, .int .i64 gr, .int .i64 pr, .string ⟨t.toArray⟩], .int .i64 n] w fun r w' => r = .returned (.string ⟨(wholeL c a si alt wi gr t n).toArray⟩) ∧ Below w.heap.size w w' := by
  have k1 := fun W => mBn (within_any n (-999999999999) 999999999999 W)
  rw [show inr n (-999999999999) 999999999999 = true by simp [inr]; omega] at k1
  have ht1 : (t == [99]) = false := by rcases hT with rfl | rfl | rfl | rfl | rfl | rfl <;> decide
  have ht2 : ¬ t = [99] := by rcases hT with rfl | rfl | rfl | rfl | rfl | rfl <;> decide
  have kp := fun W => mBn (prefixOf_ok t hT W)
  have hpl := tyPre_len2 hT
  have hsl := sgn_len si (decide (n < 0))
  have kg := fun W => mBn (signFor_any si (decide (n < 0)) W)
  have hhl := head_len hT si (decide (n < 0)) alt
  have kd := fun W (h : DT W) => digitsOf_any f al si alt ze wi gr pr t n (headL si (decide (n < 0)) alt t).length c a W hw hT hn hg0 hg2 h kf ka (by omega)
  have hwl : (widL (digs (t == [88]) (tyBase t) n.natAbs) (zuN c a wi (headL si (decide (n < 0)) alt t).length) (tyGrp t) (mkL gr)).length ≤ 200 := widL_len (digs_40 hT.base.1 (by omega)) (by have := @zu_le c a wi (headL si (decide (n < 0)) alt t).length; omega) (mkL_len gr)
  have kl := fun W => filled_any (headL si (decide (n < 0)) alt t) (widL (digs (t == [88]) (tyBase t) n.natAbs) (zuN c a wi (headL si (decide (n < 0)) alt t).length) (tyGrp t) (mkL gr)) wi c a W (by omega) (by omega) hw ha
  unfold wholeL
  generalize padL (headL si (decide (n < 0)) alt t) (widL (digs (t == [88]) (tyBase t) n.natAbs) (zuN c a wi (headL si (decide (n < 0)) alt t).length) (tyGrp t) (mkL gr)) wi c a = R at *
  generalize widL (digs (t == [88]) (tyBase t) n.natAbs) (zuN c a wi (headL si (decide (n < 0)) alt t).length) (tyGrp t) (mkL gr) = Bd at *
  unfold headL at kd kl hhl
  cases alt
  · rw [if_neg (by decide), List.append_nil] at kd kl hhl
    generalize sgnL si (decide (n < 0)) = H at *
    have KS := Lib.hid ks; have K1 := Lib.hid k1; have KF := Lib.hid kf; have KA := Lib.hid ka; have KP := Lib.hid kp; have KG := Lib.hid kg; have KD := Lib.hid kd; have KL := Lib.hid kl
    clear ks k1 kf ka kp kg kd kl hT
    have za := C9.new w (.string f) (.int .i64 al) (.int .i64 si) (.bool false) (.bool ze) (.int .i64 wi) (.int .i64 gr) (.int .i64 pr) (.string ⟨t.toArray⟩) 38
    have hB : Below w.heap.size w (w.alloc (.cells #[.string f, .int .i64 al, .int .i64 si, .bool false, .bool ze, .int .i64 wi, .int .i64 gr, .int .i64 pr, .string ⟨t.toArray⟩] 38)) := (Below.refl _ _).alloc (Nat.le_refl _) _
    have zz := za
    obtain ⟨x0, x1, x2, x3, x4, x5, x6, x7, x8, x9, xl⟩ := zz
    go_enter Tryz.func86, Tryz.ntmps86
    go_wp2_with (first | (go_at_call 85; (with_reducible refine Calls.mono (KS.out _) ?_); rintro r w1 ⟨rfl, hb⟩; replace hB := hB.trans (hb.mono hB.size); replace za := za.carry hb; have zz := za; obtain ⟨x0, x1, x2, x3, x4, x5, x6, x7, x8, x9, xl⟩ := zz) | (go_at_call 44; (with_reducible refine Calls.mono (K1.out _) ?_); rintro r w1 ⟨rfl, hb⟩; replace hB := hB.trans (hb.mono hB.size); replace za := za.carry hb; have zz := za; obtain ⟨x0, x1, x2, x3, x4, x5, x6, x7, x8, x9, xl⟩ := zz) | (go_at_call 142; (with_reducible refine Calls.mono (KG.out _) ?_); rintro r w1 ⟨rfl, hb⟩; replace hB := hB.trans (hb.mono hB.size); replace za := za.carry hb; have zz := za; obtain ⟨x0, x1, x2, x3, x4, x5, x6, x7, x8, x9, xl⟩ := zz) | (go_at_call 143; (with_reducible refine Calls.mono (KP.out _) ?_); rintro r w1 ⟨rfl, hb⟩; replace hB := hB.trans (hb.mono hB.size); replace za := za.carry hb; have zz := za; obtain ⟨x0, x1, x2, x3, x4, x5, x6, x7, x8, x9, xl⟩ := zz))
    have hDx := hD.on hB
    obtain ⟨sza0, sza1, sza2, sza3, sza4, sza5, sza6, sza7, sza8⟩ := C9.since za
    refine wp_region_since (by kernel_rfl) (by kernel_rfl) ?_
    repeat (quiet_step (first | (go_at_call 145; with_reducible exact Calls.since_of (KD.out _ (hDx.on (Since.h _)))) | (go_at_call 146; with_reducible exact Calls.since_of (KF.out _)) | (go_at_call 147; with_reducible exact Calls.since_of (KA.out _)) | (go_at_call 144; with_reducible exact Calls.since_of (KL.out _))))
    refine wpQuiet_nil ?_
    intro w_ hw_
    obtain ⟨⟨w1, hb⟩, hw2⟩ := hw_
    have hw3 : w1 = w_ := hw2.symm
    clear hw2
    subst hw3
    clear sza0 sza1 sza2 sza3 sza4 sza5 sza6 sza7 sza8
    replace hB := hB.trans (hb.mono hB.size)
    have hz := hb.size
    replace za := C9.carry za hb
    have zz := za
    obtain ⟨x0, x1, x2, x3, x4, x5, x6, x7, x8, x9, xl⟩ := zz
    go_wp2
    all_goals go_ret
    all_goals exact ⟨rfl, hB⟩
  · rw [if_pos rfl] at kd kl hhl
    generalize sgnL si (decide (n < 0)) = H at *
    generalize tyPre t = P at *
    have c1 := cat_l H P
    simp only [List.length_append, Int.natCast_add] at kd
    have hq : ¬ (9223372036854775807 < H.length + P.length) := by omega
    have KS := Lib.hid ks; have K1 := Lib.hid k1; have KF := Lib.hid kf; have KA := Lib.hid ka; have KP := Lib.hid kp; have KG := Lib.hid kg; have KD := Lib.hid kd; have KL := Lib.hid kl
    clear ks k1 kf ka kp kg kd kl hT
    have za := C9.new w (.string f) (.int .i64 al) (.int .i64 si) (.bool true) (.bool ze) (.int .i64 wi) (.int .i64 gr) (.int .i64 pr) (.string ⟨t.toArray⟩) 38
    have hB : Below w.heap.size w (w.alloc (.cells #[.string f, .int .i64 al, .int .i64 si, .bool true, .bool ze, .int .i64 wi, .int .i64 gr, .int .i64 pr, .string ⟨t.toArray⟩] 38)) := (Below.refl _ _).alloc (Nat.le_refl _) _
    have zz := za
    obtain ⟨x0, x1, x2, x3, x4, x5, x6, x7, x8, x9, xl⟩ := zz
    go_enter Tryz.func86, Tryz.ntmps86
    go_wp2_with (first | (go_at_call 85; (with_reducible refine Calls.mono (KS.out _) ?_); rintro r w1 ⟨rfl, hb⟩; replace hB := hB.trans (hb.mono hB.size); replace za := za.carry hb; have zz := za; obtain ⟨x0, x1, x2, x3, x4, x5, x6, x7, x8, x9, xl⟩ := zz) | (go_at_call 44; (with_reducible refine Calls.mono (K1.out _) ?_); rintro r w1 ⟨rfl, hb⟩; replace hB := hB.trans (hb.mono hB.size); replace za := za.carry hb; have zz := za; obtain ⟨x0, x1, x2, x3, x4, x5, x6, x7, x8, x9, xl⟩ := zz) | (go_at_call 142; (with_reducible refine Calls.mono (KG.out _) ?_); rintro r w1 ⟨rfl, hb⟩; replace hB := hB.trans (hb.mono hB.size); replace za := za.carry hb; have zz := za; obtain ⟨x0, x1, x2, x3, x4, x5, x6, x7, x8, x9, xl⟩ := zz) | (go_at_call 143; (with_reducible refine Calls.mono (KP.out _) ?_); rintro r w1 ⟨rfl, hb⟩; replace hB := hB.trans (hb.mono hB.size); replace za := za.carry hb; have zz := za; obtain ⟨x0, x1, x2, x3, x4, x5, x6, x7, x8, x9, xl⟩ := zz))
    have hDx := hD.on hB
    obtain ⟨sza0, sza1, sza2, sza3, sza4, sza5, sza6, sza7, sza8⟩ := C9.since za
    refine wp_region_since (by kernel_rfl) (by kernel_rfl) ?_
    repeat (quiet_step (first | (go_at_call 145; with_reducible exact Calls.since_of (KD.out _ (hDx.on (Since.h _)))) | (go_at_call 146; with_reducible exact Calls.since_of (KF.out _)) | (go_at_call 147; with_reducible exact Calls.since_of (KA.out _)) | (go_at_call 144; with_reducible exact Calls.since_of (KL.out _))))
    refine wpQuiet_nil ?_
    intro w_ hw_
    obtain ⟨⟨w1, hb⟩, hw2⟩ := hw_
    have hw3 : w1 = w_ := hw2.symm
    clear hw2
    subst hw3
    clear sza0 sza1 sza2 sza3 sza4 sza5 sza6 sza7 sza8
    replace hB := hB.trans (hb.mono hB.size)
    have hz := hb.size
    replace za := C9.carry za hb
    have zz := za
    obtain ⟨x0, x1, x2, x3, x4, x5, x6, x7, x8, x9, xl⟩ := zz
    go_wp2
    all_goals go_ret
    all_goals exact ⟨rfl, hB⟩
end Go.Proofs.YtebheehjhnaklaaGreatDoor
namespace Go.Proofs.YtebheehjhnaklaaGreatDoor
open Go.RowKit
theorem widL_ge {l sep : List UInt8} {wd n : Nat} (hl : l.length ≤ 80) (hw : wd ≤ 30) (hn0 : 1 ≤ n) (hn1 : n ≤ 9) (hs : sep.length ≤ 1) : wd ≤ (widL l wd n sep).length := by
  rw [widL_eq]
  have h := tz_ok (wd := wd) (n := n) (size := l.length) (j := tz wd n l.length sep) (sep := sep) (l := l) rfl hl hw hn0 hn1 hs (Nat.le_refl _)
  omega
theorem widL_zero {l sep : List UInt8} {n : Nat} : widL l 0 n sep = joinL n sep l := by
  rw [widL_eq]
  have : tz 0 n l.length sep = 0 := by
    unfold tz
    have := @cnt_le n 0
    split <;> omega
  rw [this]
  rfl
/-- the two ways to say it -/
theorem whole_inside {a si : Int} {alt : Bool} {wi : Nat} {gr : Int} {t : List UInt8} {n : Int} (hT : TyOk t) (hw : wi ≤ 30) (hn : -999999999999 ≤ n ∧ n ≤ 999999999999) (h4 : a = 4) :
    wholeL 48 a si alt wi gr t n = headL si (decide (n < 0)) alt t ++ widL (digs (t == [88]) (tyBase t) n.natAbs) (wi - (headL si (decide (n < 0)) alt t).length) (tyGrp t) (mkL gr) := by
  subst h4
  have hd := digs_40 (up := (t == [88])) (b := tyBase t) (n := n.natAbs) hT.base.1 (by omega)
  have hge := widL_ge (l := digs (t == [88]) (tyBase t) n.natAbs) (sep := mkL gr) (wd := wi - (headL si (decide (n < 0)) alt t).length) (n := tyGrp t) (by omega) (by omega) (by have := hT.grp; omega) (by have := hT.grp; omega) (mkL_len gr)
  unfold wholeL
  rw [show zuN 48 4 wi (headL si (decide (n < 0)) alt t).length = wi - (headL si (decide (n < 0)) alt t).length from if_pos ⟨rfl, rfl⟩]
  generalize widL (digs (t == [88]) (tyBase t) n.natAbs) (wi - (headL si (decide (n < 0)) alt t).length) (tyGrp t) (mkL gr) = B at *
  generalize headL si (decide (n < 0)) alt t = H at *
  unfold padL
  rw [if_neg (by decide), if_neg (by decide), if_pos rfl, show wi - H.length - B.length = 0 by omega]
  rfl
theorem whole_pad {c : UInt8} {a si : Int} {alt : Bool} {wi : Nat} {gr : Int} {t : List UInt8} {n : Int} (h : ¬ (c = 48 ∧ a = 4)) :
    wholeL c a si alt wi gr t n = padL (headL si (decide (n < 0)) alt t) (joinL (tyGrp t) (mkL gr) (digs (t == [88]) (tyBase t) n.natAbs)) wi c a := by
  unfold wholeL
  rw [show zuN c a wi (headL si (decide (n < 0)) alt t).length = 0 from if_neg h, widL_zero]
set_option maxRecDepth 100000 in
set_option maxHeartbeats 8000000 in
theorem laidS_any (f : ByteArray) (al si : Int) (alt ze : Bool) (wi : Nat) (gr pr : Int) (t H D : List UInt8) (c : UInt8) (a : Int) (w : World) (hw : wi ≤ 30) (hT : TyOk t) (hH : H.length ≤ 3) (hD : D.length ≤ 40) (hg0 : 0 ≤ gr) (hg2 : gr ≤ 2) (ha : 1 ≤ a ∧ a ≤ 4)
    (kf : ∀ W, Calls Tryz.prog 188 #[.agg #[.string f, .int .i64 al, .int .i64 si, .bool alt, .bool ze, .int .i64 wi, .int .i64 gr, .int .i64 pr, .string ⟨t.toArray⟩]] W fun r w' => r = .returned (.string ⟨#[c]⟩) ∧ Below W.heap.size W w')
    (ka : ∀ W, Calls Tryz.prog 189 #[.agg #[.string f, .int .i64 al, .int .i64 si, .bool alt, .bool ze, .int .i64 wi, .int .i64 gr, .int .i64 pr, .string ⟨t.toArray⟩], .int .i64 0] W fun r w' => r = .returned (.int .i64 a) ∧ Below W.heap.size W w') :
    Calls Tryz.prog 182 #[.agg #[.string f, .int .i64 al, .int .i64 si, .bool alt, .bool ze, .int .i64 wi, .int .i64 gr, .int .i64 pr, .string ⟨t.toArray⟩], .string ⟨H.toArray⟩, .string ⟨D.toArray⟩, .string ⟨#[]⟩] w fun r w' => r = .returned (.string ⟨(if c = 48 ∧ a = 4 then H ++ widL D (wi - H.length) (tyGrp t) (mkL gr) else padL H (joinL (tyGrp t) (mkL gr) D) wi c a).toArray⟩) ∧ Below w.heap.size w w' := by
  have hgrp := hT.grp
  have km := fun W => mBn (markS_g gr hg0 hg2 W)
  have kg := fun W => mBn (groupSizeS_ok t hT W)
  have hml := mkL_len gr
  by_cases h : c = 48 ∧ a = 4
  · rw [if_pos h]
    obtain ⟨rfl, rfl⟩ := h
    have kw := fun W => mBn (widenedS_any ⟨D.toArray⟩ ((wi : Int) - H.length) (tyGrp t) ⟨(mkL gr).toArray⟩ W (by rw [szZ]; omega) (by omega) (by omega) (by omega) (by rw [szZ]; exact hml))
    rw [show (⟨D.toArray⟩ : ByteArray).data.toList = D from rfl, show (⟨(mkL gr).toArray⟩ : ByteArray).data.toList = mkL gr from rfl, show ((wi : Int) - H.length).toNat = wi - H.length by omega] at kw
    have hwl := widL_len (l := D) (sep := mkL gr) (wd := wi - H.length) (n := tyGrp t) hD (by omega) hml
    generalize widL D (wi - H.length) (tyGrp t) (mkL gr) = R at *
    generalize mkL gr = M at *
    generalize tyGrp t = g at *
    have hq : ¬ (9223372036854775807 < H.length + R.length) := by omega
    have w1 : IntKind.i64.wrap ((wi : Int) - H.length) = (wi : Int) - H.length := by rw [IntKind.wrap_i64]; omega
    have KF := Lib.hid kf; have KA := Lib.hid ka; have KM := Lib.hid km; have KG := Lib.hid kg; have KW := Lib.hid kw
    clear kf ka km kg kw hT
    have za := C9.new w (.string f) (.int .i64 al) (.int .i64 si) (.bool alt) (.bool ze) (.int .i64 wi) (.int .i64 gr) (.int .i64 pr) (.string ⟨t.toArray⟩) 38
    have hB : Below w.heap.size w (w.alloc (.cells #[.string f, .int .i64 al, .int .i64 si, .bool alt, .bool ze, .int .i64 wi, .int .i64 gr, .int .i64 pr, .string ⟨t.toArray⟩] 38)) := (Below.refl _ _).alloc (Nat.le_refl _) _
    have zz := za
    obtain ⟨x0, x1, x2, x3, x4, x5, x6, x7, x8, x9, xl⟩ := zz
    go_enter Tryz.func182, Tryz.ntmps182
    go_wp2_with (first | (go_at_call 134; (with_reducible refine Calls.mono (KM.out _) ?_); rintro r w1 ⟨rfl, hb⟩; replace hB := hB.trans (hb.mono hB.size); replace za := za.carry hb; have zz := za; obtain ⟨x0, x1, x2, x3, x4, x5, x6, x7, x8, x9, xl⟩ := zz) | (go_at_call 188; (with_reducible refine Calls.mono (KF.out _) ?_); rintro r w1 ⟨rfl, hb⟩; replace hB := hB.trans (hb.mono hB.size); replace za := za.carry hb; have zz := za; obtain ⟨x0, x1, x2, x3, x4, x5, x6, x7, x8, x9, xl⟩ := zz) | (go_at_call 189; (with_reducible refine Calls.mono (KA.out _) ?_); rintro r w1 ⟨rfl, hb⟩; replace hB := hB.trans (hb.mono hB.size); replace za := za.carry hb; have zz := za; obtain ⟨x0, x1, x2, x3, x4, x5, x6, x7, x8, x9, xl⟩ := zz) | (go_at_call 200; (with_reducible refine Calls.mono (KG.out _) ?_); rintro r w1 ⟨rfl, hb⟩; replace hB := hB.trans (hb.mono hB.size); replace za := za.carry hb; have zz := za; obtain ⟨x0, x1, x2, x3, x4, x5, x6, x7, x8, x9, xl⟩ := zz) | (go_at_call 241; (with_reducible refine Calls.mono (KW.out _) ?_); rintro r w1 ⟨rfl, hb⟩; replace hB := hB.trans (hb.mono hB.size); replace za := za.carry hb; have zz := za; obtain ⟨x0, x1, x2, x3, x4, x5, x6, x7, x8, x9, xl⟩ := zz))
    obtain ⟨sza0, sza1, sza2, sza3, sza4, sza5, sza6, sza7, sza8⟩ := C9.since za
    refine wp_region_since (by kernel_rfl) (by kernel_rfl) ?_
    repeat (quiet_step (first | (go_at_call 200; with_reducible exact Calls.since_of (KG.out _)) | (go_at_call 189; with_reducible exact Calls.since_of (KA.out _)) | (go_at_call 241; with_reducible exact Calls.since_of (KW.out _))))
    refine wpQuiet_nil ?_
    intro w_ hw_
    obtain ⟨⟨w1, hb⟩, hw2⟩ := hw_
    have hw3 : w1 = w_ := hw2.symm
    clear hw2
    subst hw3
    clear sza0 sza1 sza2 sza3 sza4 sza5 sza6 sza7 sza8
    replace hB := hB.trans (hb.mono hB.size)
    have hz := hb.size
    replace za := C9.carry za hb
    have zz := za
    obtain ⟨x0, x1, x2, x3, x4, x5, x6, x7, x8, x9, xl⟩ := zz
    go_wp2
    all_goals go_ret
    all_goals exact ⟨ret_str (by simp [cat_l]), hB⟩
  · rw [if_neg h]
    have kj := fun W => mBn (joinedS_any D (tyGrp t) ⟨(mkL gr).toArray⟩ W (by omega) (by omega) (by omega) (by rw [szZ]; exact hml))
    rw [show (⟨(mkL gr).toArray⟩ : ByteArray).data.toList = mkL gr from rfl] at kj
    have hjl : (joinL (tyGrp t) (mkL gr) D).length ≤ 200 := by
      unfold joinL
      split
      · omega
      · have := grp_length (tyGrp t) (mkL gr) D hml; omega
    have kp := fun W => paddedS_any H (joinL (tyGrp t) (mkL gr) D) wi c a W (by omega) (by omega) hw ha
    generalize padL H (joinL (tyGrp t) (mkL gr) D) wi c a = R at *
    generalize joinL (tyGrp t) (mkL gr) D = J at *
    have hq : ¬ (9223372036854775807 < J.length) := by omega
    have hq0 : ¬ (9223372036854775807 < J.length + 0) := by omega
    have ce : (⟨J.toArray⟩ : ByteArray) ++ ⟨#[]⟩ = ⟨J.toArray⟩ := by have := cat_l J []; rw [List.append_nil] at this; exact this
    generalize mkL gr = M at *
    generalize tyGrp t = g at *
    have KF := Lib.hid kf; have KA := Lib.hid ka; have KM := Lib.hid km; have KG := Lib.hid kg; have KJ := Lib.hid kj; have KP := Lib.hid kp
    clear kf ka km kg kj kp hT
    by_cases h4 : a = 4
    · subst h4
      have hc : ¬ c = 48 := fun e => h ⟨e, rfl⟩
      have hne : (([c] : List UInt8) == [48]) = false := by simpa using hc
      have hne2 : ¬ ([c] : List UInt8) = [48] := by simpa using hc
      have za := C9.new w (.string f) (.int .i64 al) (.int .i64 si) (.bool alt) (.bool ze) (.int .i64 wi) (.int .i64 gr) (.int .i64 pr) (.string ⟨t.toArray⟩) 38
      have hB : Below w.heap.size w (w.alloc (.cells #[.string f, .int .i64 al, .int .i64 si, .bool alt, .bool ze, .int .i64 wi, .int .i64 gr, .int .i64 pr, .string ⟨t.toArray⟩] 38)) := (Below.refl _ _).alloc (Nat.le_refl _) _
      have zz := za
      obtain ⟨x0, x1, x2, x3, x4, x5, x6, x7, x8, x9, xl⟩ := zz
      go_enter Tryz.func182, Tryz.ntmps182
      go_wp2_with (first | (go_at_call 134; (with_reducible refine Calls.mono (KM.out _) ?_); rintro r w1 ⟨rfl, hb⟩; replace hB := hB.trans (hb.mono hB.size); replace za := za.carry hb; have zz := za; obtain ⟨x0, x1, x2, x3, x4, x5, x6, x7, x8, x9, xl⟩ := zz) | (go_at_call 188; (with_reducible refine Calls.mono (KF.out _) ?_); rintro r w1 ⟨rfl, hb⟩; replace hB := hB.trans (hb.mono hB.size); replace za := za.carry hb; have zz := za; obtain ⟨x0, x1, x2, x3, x4, x5, x6, x7, x8, x9, xl⟩ := zz) | (go_at_call 189; (with_reducible refine Calls.mono (KA.out _) ?_); rintro r w1 ⟨rfl, hb⟩; replace hB := hB.trans (hb.mono hB.size); replace za := za.carry hb; have zz := za; obtain ⟨x0, x1, x2, x3, x4, x5, x6, x7, x8, x9, xl⟩ := zz) | (go_at_call 200; (with_reducible refine Calls.mono (KG.out _) ?_); rintro r w1 ⟨rfl, hb⟩; replace hB := hB.trans (hb.mono hB.size); replace za := za.carry hb; have zz := za; obtain ⟨x0, x1, x2, x3, x4, x5, x6, x7, x8, x9, xl⟩ := zz) | (go_at_call 242; (with_reducible refine Calls.mono (KJ.out _) ?_); rintro r w1 ⟨rfl, hb⟩; replace hB := hB.trans (hb.mono hB.size); replace za := za.carry hb; have zz := za; obtain ⟨x0, x1, x2, x3, x4, x5, x6, x7, x8, x9, xl⟩ := zz) | (go_at_call 187; (with_reducible refine Calls.mono (KP.out _) ?_); rintro r w1 ⟨rfl, hb⟩; replace hB := hB.trans (hb.mono hB.size); replace za := za.carry hb; have zz := za; obtain ⟨x0, x1, x2, x3, x4, x5, x6, x7, x8, x9, xl⟩ := zz))
      obtain ⟨sza0, sza1, sza2, sza3, sza4, sza5, sza6, sza7, sza8⟩ := C9.since za
      refine wp_region_since (by kernel_rfl) (by kernel_rfl) ?_
      repeat (quiet_step (first | (go_at_call 200; with_reducible exact Calls.since_of (KG.out _)) | (go_at_call 189; with_reducible exact Calls.since_of (KA.out _)) | (go_at_call 242; with_reducible exact Calls.since_of (KJ.out _)) | (go_at_call 187; with_reducible exact Calls.since_of (KP.out _))))
      refine wpQuiet_nil ?_
      intro w_ hw_
      obtain ⟨⟨w1, hb⟩, hw2⟩ := hw_
      have hw3 : w1 = w_ := hw2.symm
      clear hw2
      subst hw3
      clear sza0 sza1 sza2 sza3 sza4 sza5 sza6 sza7 sza8
      replace hB := hB.trans (hb.mono hB.size)
      have hz := hb.size
      replace za := C9.carry za hb
      have zz := za
      obtain ⟨x0, x1, x2, x3, x4, x5, x6, x7, x8, x9, xl⟩ := zz
      go_wp2
      all_goals go_ret
      all_goals exact ⟨ret_str (by simp), hB⟩
    · have e4 : (a == 4) = false := by simpa using h4
      have za := C9.new w (.string f) (.int .i64 al) (.int .i64 si) (.bool alt) (.bool ze) (.int .i64 wi) (.int .i64 gr) (.int .i64 pr) (.string ⟨t.toArray⟩) 38
      have hB : Below w.heap.size w (w.alloc (.cells #[.string f, .int .i64 al, .int .i64 si, .bool alt, .bool ze, .int .i64 wi, .int .i64 gr, .int .i64 pr, .string ⟨t.toArray⟩] 38)) := (Below.refl _ _).alloc (Nat.le_refl _) _
      have zz := za
      obtain ⟨x0, x1, x2, x3, x4, x5, x6, x7, x8, x9, xl⟩ := zz
      go_enter Tryz.func182, Tryz.ntmps182
      go_wp2_with (first | (go_at_call 134; (with_reducible refine Calls.mono (KM.out _) ?_); rintro r w1 ⟨rfl, hb⟩; replace hB := hB.trans (hb.mono hB.size); replace za := za.carry hb; have zz := za; obtain ⟨x0, x1, x2, x3, x4, x5, x6, x7, x8, x9, xl⟩ := zz) | (go_at_call 188; (with_reducible refine Calls.mono (KF.out _) ?_); rintro r w1 ⟨rfl, hb⟩; replace hB := hB.trans (hb.mono hB.size); replace za := za.carry hb; have zz := za; obtain ⟨x0, x1, x2, x3, x4, x5, x6, x7, x8, x9, xl⟩ := zz) | (go_at_call 189; (with_reducible refine Calls.mono (KA.out _) ?_); rintro r w1 ⟨rfl, hb⟩; replace hB := hB.trans (hb.mono hB.size); replace za := za.carry hb; have zz := za; obtain ⟨x0, x1, x2, x3, x4, x5, x6, x7, x8, x9, xl⟩ := zz) | (go_at_call 200; (with_reducible refine Calls.mono (KG.out _) ?_); rintro r w1 ⟨rfl, hb⟩; replace hB := hB.trans (hb.mono hB.size); replace za := za.carry hb; have zz := za; obtain ⟨x0, x1, x2, x3, x4, x5, x6, x7, x8, x9, xl⟩ := zz) | (go_at_call 242; (with_reducible refine Calls.mono (KJ.out _) ?_); rintro r w1 ⟨rfl, hb⟩; replace hB := hB.trans (hb.mono hB.size); replace za := za.carry hb; have zz := za; obtain ⟨x0, x1, x2, x3, x4, x5, x6, x7, x8, x9, xl⟩ := zz) | (go_at_call 187; (with_reducible refine Calls.mono (KP.out _) ?_); rintro r w1 ⟨rfl, hb⟩; replace hB := hB.trans (hb.mono hB.size); replace za := za.carry hb; have zz := za; obtain ⟨x0, x1, x2, x3, x4, x5, x6, x7, x8, x9, xl⟩ := zz))
      obtain ⟨sza0, sza1, sza2, sza3, sza4, sza5, sza6, sza7, sza8⟩ := C9.since za
      refine wp_region_since (by kernel_rfl) (by kernel_rfl) ?_
      repeat (quiet_step (first | (go_at_call 200; with_reducible exact Calls.since_of (KG.out _)) | (go_at_call 189; with_reducible exact Calls.since_of (KA.out _)) | (go_at_call 242; with_reducible exact Calls.since_of (KJ.out _)) | (go_at_call 187; with_reducible exact Calls.since_of (KP.out _))))
      refine wpQuiet_nil ?_
      intro w_ hw_
      obtain ⟨⟨w1, hb⟩, hw2⟩ := hw_
      have hw3 : w1 = w_ := hw2.symm
      clear hw2
      subst hw3
      clear sza0 sza1 sza2 sza3 sza4 sza5 sza6 sza7 sza8
      replace hB := hB.trans (hb.mono hB.size)
      have hz := hb.size
      replace za := C9.carry za hb
      have zz := za
      obtain ⟨x0, x1, x2, x3, x4, x5, x6, x7, x8, x9, xl⟩ := zz
      go_wp2
      all_goals go_ret
      all_goals exact ⟨ret_str (by simp), hB⟩
end Go.Proofs.YtebheehjhnaklaaGreatDoor
