import Derived.Test.YtkpdpohnbnpelaaGreatDoorZ3
namespace Go.Proofs.YtkpdpohnbnpelaaGreatDoor
open Go.RowKit
theorem upper_dch {k : Nat} (h : k < 16) : Lib.upperB (dch false k) = dch true k := by
  have h0 : ((List.range 16).all fun k => Lib.upperB (dch false k) == dch true k) = true := by decide +kernel
  exact eq_of_beq (List.all_eq_true.1 h0 k (List.mem_range.2 h))
theorem ascii_dch {k : Nat} (h : k < 16) : (dch false k).toNat < 128 := by
  have h0 : ((List.range 16).all fun k => decide ((dch false k).toNat < 128)) = true := by decide +kernel
  simpa using List.all_eq_true.1 h0 k (List.mem_range.2 h)
theorem digs_mem {b : Nat} (h2 : 2 ≤ b) (h16 : b ≤ 16) : ∀ (k n : Nat), n ≤ k → ∀ x ∈ digs false b n, ∃ d, d < 16 ∧ x = dch false d := by
  intro k
  induction k with
  | zero =>
    intro n hn x hx
    rw [digs_lt (by omega)] at hx
    exact ⟨n, by omega, by simpa using hx⟩
  | succ k ih =>
    intro n hn x hx
    by_cases h : n < b
    · rw [digs_lt h] at hx
      exact ⟨n, by omega, by simpa using hx⟩
    · have hd := div_lt_of h2 (show b ≤ n by omega)
      have hr := Nat.mod_lt n (show 0 < b by omega)
      rw [digs_ge h2 (by omega)] at hx
      rcases List.mem_append.1 hx with hx | hx
      · exact ih (n / b) (by omega) x hx
      · exact ⟨n % b, by omega, by simpa using hx⟩
theorem upper_digs {b : Nat} (h2 : 2 ≤ b) (h16 : b ≤ 16) : ∀ (k n : Nat), n ≤ k → Lib.toUpperA (digs false b n) = digs true b n := by
  intro k
  induction k with
  | zero =>
    intro n hn
    rw [digs_lt (by omega), digs_lt (by omega)]
    show [Lib.upperB (dch false n)] = _
    rw [upper_dch (by omega)]
  | succ k ih =>
    intro n hn
    by_cases h : n < b
    · rw [digs_lt h, digs_lt h]
      show [Lib.upperB (dch false n)] = _
      rw [upper_dch (by omega)]
    · have hd := div_lt_of h2 (show b ≤ n by omega)
      have hr := Nat.mod_lt n (show 0 < b by omega)
      have e1 : digs false b n = _ := digs_ge h2 (by omega)
      have e2 : digs true b n = _ := digs_ge h2 (by omega)
      have hlt : n % b < 16 := by omega
      rw [e1, e2, ← ih (n / b) (by omega), ← upper_dch hlt]
      simp [Lib.toUpperA]
theorem ToUpper_digs (b n : Nat) (h2 : 2 ≤ b) (h16 : b ≤ 16) (hn : n ≤ 999999999999) (w : World) :
    Calls Tryz.prog 62 #[.string ⟨(digs false b n).toArray⟩] w fun r w' => r = .returned (.string ⟨(digs true b n).toArray⟩) ∧ Below w.heap.size w w' := by
  have hd := digs_40 (up := false) h2 hn
  have h := Tryz.strings_ToUpper_ascii ⟨(digs false b n).toArray⟩ w (by show (digs false b n).length ≤ _; omega) (fun j x hx => by
    obtain ⟨d, hd, rfl⟩ := digs_mem h2 h16 n n (Nat.le_refl _) x (List.mem_of_getElem? hx)
    exact ascii_dch hd)
  rw [show (⟨(digs false b n).toArray⟩ : ByteArray).data.toList = digs false b n from rfl, upper_digs h2 h16 n n (Nat.le_refl _)] at h
  exact h
theorem mkL_len (k : Int) : (mkL k).length ≤ 1 := by
  unfold mkL
  split
  · simp
  · split <;> simp
theorem szZ (l : List UInt8) : (⟨l.toArray⟩ : ByteArray).size = l.length := rfl
set_option maxRecDepth 100000 in
set_option maxHeartbeats 8000000 in
theorem digitsOf_any (f : ByteArray) (al si : Int) (alt ze : Bool) (wi : Nat) (gr pr : Int) (t : List UInt8) (n : Int) (others : Nat) (c : UInt8) (a : Int) (w : World) (hw : wi ≤ 30) (hT : TyOk t) (hn : -999999999999 ≤ n ∧ n ≤ 999999999999) (hg0 : 0 ≤ gr) (hg2 : gr ≤ 2) (hD : DT w)
    (kf : ∀ W, Calls Tryz.prog 25 #[.agg #[.string f, .int .i64 al, .int .i64 si, .bool alt, .bool ze, .int .i64 wi, .int .i64 gr, .int .i64 pr, .string ⟨t.toArray⟩]] W fun r w' => r = .returned (.string ⟨#[c]⟩) ∧ Below W.heap.size W w')
    (ka : ∀ W, Calls Tryz.prog 26 #[.agg #[.string f, .int .i64 al, .int .i64 si, .bool alt, .bool ze, .int .i64 wi, .int .i64 gr, .int .i64 pr, .string ⟨t.toArray⟩], .int .i64 0] W fun r w' => r = .returned (.int .i64 a) ∧ Below W.heap.size W w') (ho : others ≤ 100) :
    Calls Tryz.prog 24 #[.agg #[.string f, .int .i64 al, .int .i64 si, .bool alt, .bool ze, .int .i64 wi, .int .i64 gr, .int .i64 pr, .string ⟨t.toArray⟩], .int .i64 n, .int .i64 others] w fun r w' => r = .returned (.string ⟨(widL (digs (t == [88]) (tyBase t) n.natAbs) (zuN c a wi others) (tyGrp t) (mkL gr)).toArray⟩) ∧ Below w.heap.size w w' := by
  have hbase := hT.base
  have hgrp := hT.grp
  have kb := fun W => mBn (baseOf_ok t hT W)
  have kg := fun W => mBn (groupOf_ok t hT W)
  have km := fun W => mBn (markAt_g gr hg0 hg2 W)
  have kz := fun W => zerosUpTo_any f al si alt ze wi gr pr ⟨t.toArray⟩ others c a W hw kf ka ho
  have kx := fun W => mBn (greater_abs n (by omega) W)
  have kd := fun W (h : DT W) => DigitsIn_any ((n.natAbs : Nat) : Int) ((tyBase t : Nat) : Int) W h
  rw [digW_yes (by omega) (by omega) (by omega)] at kd
  have ku := fun W => ToUpper_digs (tyBase t) n.natAbs hbase.1 hbase.2 (by omega) W
  have hdl : ∀ up, (digs up (tyBase t) n.natAbs).length ≤ 40 := fun up => digs_40 hbase.1 (by omega)
  have hzl := @zu_le c a wi others
  have kw := fun W => WidenDigits_any ⟨(digs (t == [88]) (tyBase t) n.natAbs).toArray⟩ (zuN c a wi others) (tyGrp t) ⟨(mkL gr).toArray⟩ W (by rw [szZ]; have := hdl (t == [88]); omega) (by rw [szZ]; have := mkL_len gr; omega)
  rw [widW_yes (by rw [szZ]; have := hdl (t == [88]); omega) (by omega) (by omega) (by omega) (by rw [szZ]; exact mkL_len gr)] at kw
  rw [show (⟨(mkL gr).toArray⟩ : ByteArray).data.toList = mkL gr from rfl, show (⟨(digs (t == [88]) (tyBase t) n.natAbs).toArray⟩ : ByteArray).data.toList = digs (t == [88]) (tyBase t) n.natAbs from rfl] at kw
  generalize widL (digs (t == [88]) (tyBase t) n.natAbs) (zuN c a wi others) (tyGrp t) (mkL gr) = R at *
  generalize zuN c a wi others = z at *
  generalize mkL gr = M at *
  clear hdl
  by_cases hx : t = [88]
  · subst hx
    rw [show (([88] : List UInt8) == [88]) = true from rfl] at kw
    generalize digs true (tyBase [88]) n.natAbs = D1 at *
    generalize digs false (tyBase [88]) n.natAbs = D0 at *
    generalize tyGrp [88] = g at *
    generalize tyBase [88] = b at *
    generalize hN : n.natAbs = N at *
    have KB := Lib.hid kb; have KG := Lib.hid kg; have KM := Lib.hid km; have KZ := Lib.hid kz; have KX := Lib.hid kx; have KD := Lib.hid kd; have KU := Lib.hid ku; have KW := Lib.hid kw
    clear kb kg km kz kx kd ku kw kf ka hT hN
    have za := C9.new w (.string f) (.int .i64 al) (.int .i64 si) (.bool alt) (.bool ze) (.int .i64 wi) (.int .i64 gr) (.int .i64 pr) (.string ⟨[88].toArray⟩) 26
    have hB : Below w.heap.size w (w.alloc (.cells #[.string f, .int .i64 al, .int .i64 si, .bool alt, .bool ze, .int .i64 wi, .int .i64 gr, .int .i64 pr, .string ⟨[88].toArray⟩] 26)) := (Below.refl _ _).alloc (Nat.le_refl _) _
    have zz := za
    obtain ⟨x0, x1, x2, x3, x4, x5, x6, x7, x8, x9, xl⟩ := zz
    go_enter Tryz.func24, Tryz.ntmps24
    go_wp2_with (first | (go_at_call 32; (with_reducible refine Calls.mono (KB.out _) ?_); rintro r w1 ⟨rfl, hb⟩; replace hB := hB.trans (hb.mono hB.size); replace za := za.carry hb; have zz := za; obtain ⟨x0, x1, x2, x3, x4, x5, x6, x7, x8, x9, xl⟩ := zz) | (go_at_call 59; (with_reducible refine Calls.mono (KX.out _) ?_); rintro r w1 ⟨rfl, hb⟩; replace hB := hB.trans (hb.mono hB.size); replace za := za.carry hb; have zz := za; obtain ⟨x0, x1, x2, x3, x4, x5, x6, x7, x8, x9, xl⟩ := zz) | (go_at_call 61; (with_reducible refine Calls.mono (KD.out _ (hD.on hB)) ?_); rintro r w1 ⟨rfl, hb⟩; replace hB := hB.trans (hb.mono hB.size); replace za := za.carry hb; have zz := za; obtain ⟨x0, x1, x2, x3, x4, x5, x6, x7, x8, x9, xl⟩ := zz) | (go_at_call 62; (with_reducible refine Calls.mono (KU.out _) ?_); rintro r w1 ⟨rfl, hb⟩; replace hB := hB.trans (hb.mono hB.size); replace za := za.carry hb; have zz := za; obtain ⟨x0, x1, x2, x3, x4, x5, x6, x7, x8, x9, xl⟩ := zz))
    obtain ⟨sza0, sza1, sza2, sza3, sza4, sza5, sza6, sza7, sza8⟩ := C9.since za
    refine wp_region_since (by kernel_rfl) (by kernel_rfl) ?_
    repeat (quiet_step (first | (go_at_call 36; with_reducible exact Calls.since_of (KG.out _)) | (go_at_call 37; with_reducible exact Calls.since_of (KM.out _)) | (go_at_call 64; with_reducible exact Calls.since_of (KZ.out _)) | (go_at_call 63; with_reducible exact Calls.since_of (KW.out _))))
    refine wpQuiet_nil ?_
    intro w_ hw_
    obtain ⟨⟨w1, hb⟩, hw2⟩ := hw_
    have hw3 : w1 = w_ := hw2.symm
    clear hw2
    subst hw3
    clear sza0 sza1 sza2 sza3 sza4 sza5 sza6 sza7 sza8
    replace hB := hB.trans (hb.mono hB.size)
    have hz := hb.size
    replace za := C9.carry za hb
    have zz := za
    obtain ⟨x0, x1, x2, x3, x4, x5, x6, x7, x8, x9, xl⟩ := zz
    go_wp2
    all_goals go_ret
    all_goals exact ⟨rfl, hB⟩
  · have hx1 : (t == [88]) = false := by simpa using hx
    rw [hx1] at kw
    generalize digs false (tyBase t) n.natAbs = D0 at *
    generalize tyGrp t = g at *
    generalize tyBase t = b at *
    generalize hN : n.natAbs = N at *
    have KB := Lib.hid kb; have KG := Lib.hid kg; have KM := Lib.hid km; have KZ := Lib.hid kz; have KX := Lib.hid kx; have KD := Lib.hid kd; have KW := Lib.hid kw
    clear kb kg km kz kx kd ku kw kf ka hT hN
    have za := C9.new w (.string f) (.int .i64 al) (.int .i64 si) (.bool alt) (.bool ze) (.int .i64 wi) (.int .i64 gr) (.int .i64 pr) (.string ⟨t.toArray⟩) 26
    have hB : Below w.heap.size w (w.alloc (.cells #[.string f, .int .i64 al, .int .i64 si, .bool alt, .bool ze, .int .i64 wi, .int .i64 gr, .int .i64 pr, .string ⟨t.toArray⟩] 26)) := (Below.refl _ _).alloc (Nat.le_refl _) _
    have zz := za
    obtain ⟨x0, x1, x2, x3, x4, x5, x6, x7, x8, x9, xl⟩ := zz
    go_enter Tryz.func24, Tryz.ntmps24
    go_wp2_with (first | (go_at_call 32; (with_reducible refine Calls.mono (KB.out _) ?_); rintro r w1 ⟨rfl, hb⟩; replace hB := hB.trans (hb.mono hB.size); replace za := za.carry hb; have zz := za; obtain ⟨x0, x1, x2, x3, x4, x5, x6, x7, x8, x9, xl⟩ := zz) | (go_at_call 59; (with_reducible refine Calls.mono (KX.out _) ?_); rintro r w1 ⟨rfl, hb⟩; replace hB := hB.trans (hb.mono hB.size); replace za := za.carry hb; have zz := za; obtain ⟨x0, x1, x2, x3, x4, x5, x6, x7, x8, x9, xl⟩ := zz) | (go_at_call 61; (with_reducible refine Calls.mono (KD.out _ (hD.on hB)) ?_); rintro r w1 ⟨rfl, hb⟩; replace hB := hB.trans (hb.mono hB.size); replace za := za.carry hb; have zz := za; obtain ⟨x0, x1, x2, x3, x4, x5, x6, x7, x8, x9, xl⟩ := zz))
    obtain ⟨sza0, sza1, sza2, sza3, sza4, sza5, sza6, sza7, sza8⟩ := C9.since za
    refine wp_region_since (by kernel_rfl) (by kernel_rfl) ?_
    repeat (quiet_step (first | (go_at_call 36; with_reducible exact Calls.since_of (KG.out _)) | (go_at_call 37; with_reducible exact Calls.since_of (KM.out _)) | (go_at_call 64; with_reducible exact Calls.since_of (KZ.out _)) | (go_at_call 63; with_reducible exact Calls.since_of (KW.out _))))
    refine wpQuiet_nil ?_
    intro w_ hw_
    obtain ⟨⟨w1, hb⟩, hw2⟩ := hw_
    have hw3 : w1 = w_ := hw2.symm
    clear hw2
    subst hw3
    clear sza0 sza1 sza2 sza3 sza4 sza5 sza6 sza7 sza8
    replace hB := hB.trans (hb.mono hB.size)
    have hz := hb.size
    replace za := C9.carry za hb
    have zz := za
    obtain ⟨x0, x1, x2, x3, x4, x5, x6, x7, x8, x9, xl⟩ := zz
    go_wp2
    all_goals go_ret
    all_goals exact ⟨rfl, hB⟩
end Go.Proofs.YtkpdpohnbnpelaaGreatDoor
