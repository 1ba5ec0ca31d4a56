import Derived.Test.YtkpdpohnbnpelaaDoorX1
import Derived.Test.YtkpdpohnbnpelaaDoorV8
namespace Go.Proofs.YtkpdpohnbnpelaaDoor
open Go.RowKit
def mkC (gr : Int) : UInt8 := if gr = 1 then 44 else 95
theorem mkL_one {gr : Int} (h0 : ¬ gr = 0) (h1 : 0 ≤ gr) (h2 : gr ≤ 2) : mkL gr = [mkC gr] := by
  have hk : gr = 1 ∨ gr = 2 := by omega
  rcases hk with rfl | rfl <;> rfl
def grpV (gr : Int) (t D : List UInt8) : Int := if gr = 0 then valW ⟨D.toArray⟩ (tyBase t) else if ungB D (tyGrp t) (mkC gr) then valW ⟨(wo (mkC gr) D).toArray⟩ (tyBase t) else -1
def resN (v : Int) (neg : Bool) : Int := if v < 0 then 0 else if neg then -v else v
def resB (v : Int) : Bool := !decide (v < 0)
theorem bnd {v : Int} {base : Int} {s : ByteArray} (h : valW s base = v) : v ≤ 999999999999 := by
  have hmax : ∀ (l : List UInt8) (n : Int), n ≤ 999999999999 → vRun base l n ≤ 999999999999 := by
    intro l
    induction l with
    | nil => intro n h; exact h
    | cons c l ih =>
      intro n h
      unfold vRun
      split
      · omega
      · split
        · omega
        · exact ih _ (by omega)
  rw [← h]
  unfold valW
  split
  · omega
  · split
    · omega
    · split
      · omega
      · exact hmax _ 0 (by omega)
theorem trim_len (s p : List UInt8) : (Lib.trimPrefix s p).length ≤ s.length := by
  unfold Lib.trimPrefix
  split
  · rw [List.length_drop]; omega
  · omega
theorem cutD_len (l : List UInt8) : (cutD l).length ≤ l.length := by
  cases l with
  | nil => exact Nat.le_refl _
  | cons c r =>
    show (if isSign c then r else c :: r).length ≤ _
    split <;> simp
theorem szX (l : List UInt8) : (⟨l.toArray⟩ : ByteArray).size = l.length := rfl
theorem mBw {fn : FuncId} {args : Array Value} {v : Value} {w : World} (h : Calls Tryd.prog fn args w fun r w' => r = .returned v ∧ w' = w) : Calls Tryd.prog fn args w fun r w' => r = .returned v ∧ Below w.heap.size w w' := h.mono (by rintro r w1 ⟨rfl, rfl⟩; exact ⟨rfl, Below.refl _ _⟩)
theorem resN_neg {v : Int} {neg : Bool} (h : v < 0) : resN v neg = 0 := if_pos h
theorem resB_neg {v : Int} (h : v < 0) : resB v = false := by unfold resB; rw [decide_eq_true h]; rfl
theorem resB_pos {v : Int} (h : 0 ≤ v) : resB v = true := by unfold resB; rw [decide_eq_false (by omega)]; rfl
theorem resN_min {v : Int} (h : 0 ≤ v) : resN v true = -v := by unfold resN; rw [if_neg (by omega), if_pos rfl]
theorem resN_pos {v : Int} (h : 0 ≤ v) : resN v false = v := by unfold resN; rw [if_neg (by omega), if_neg (by decide)]
set_option maxRecDepth 100000 in
set_option maxHeartbeats 8000000 in
theorem ReadWhole_none (f : ByteArray) (al si : Int) (alt ze : Bool) (wi gr pr : Int) (t l : List UInt8) (w : World) (hl : l.length ≤ 80) (hT : TyOk t) (hg : gr = 0)
    (ks : ∀ W, Calls Tryd.prog 49 #[.agg #[.string f, .int .i64 al, .int .i64 si, .bool alt, .bool ze, .int .i64 wi, .int .i64 gr, .int .i64 pr, .string ⟨t.toArray⟩], .int .i64 0] W fun r w' => r = .returned (.bool true) ∧ Below W.heap.size W w') :
    Calls Tryd.prog 21 #[.agg #[.string f, .int .i64 al, .int .i64 si, .bool alt, .bool ze, .int .i64 wi, .int .i64 gr, .int .i64 pr, .string ⟨t.toArray⟩], .string ⟨l.toArray⟩] w fun r w' => r = .returned (.tuple #[.int .i64 (resN (grpV gr t (Lib.trimPrefix (cutD l) (tyPre t))) (cutN l)), .bool (resB (grpV gr t (Lib.trimPrefix (cutD l) (tyPre t))))]) ∧ Below w.heap.size w w' := by
  subst hg
  have kb := fun W => mBn (baseOf_ok t hT W)
  have kp := fun W => mBn (prefixOf_ok t hT W)
  have kg := fun W => mBn (groupOf_ok t hT W)
  have kc := fun W => cutSign_any l hl W
  have hcl := cutD_len l
  have kt := fun W => mBw (Tryd.strings_TrimPrefix ⟨(cutD l).toArray⟩ ⟨(tyPre t).toArray⟩ W)
  rw [show (⟨(cutD l).toArray⟩ : ByteArray).data.toList = cutD l from rfl, show (⟨(tyPre t).toArray⟩ : ByteArray).data.toList = tyPre t from rfl] at kt
  have htl := trim_len (cutD l) (tyPre t)
  have hbase := hT.base
  have hgrp := hT.grp
  have hl1 : ¬ (80 : Int) < l.length := by omega
  have hl2 : (l.length : Int) ≤ 80 := by omega
  have ht1 : (t == [99]) = false := by rcases hT with rfl | rfl | rfl | rfl | rfl | rfl <;> decide
  have ht2 : ¬ t = [99] := by rcases hT with rfl | rfl | rfl | rfl | rfl | rfl <;> decide
  generalize Lib.trimPrefix (cutD l) (tyPre t) = D at *
  generalize tyPre t = P at *
  generalize cutD l = C at *
  generalize cutN l = neg at *
  have hv : grpV 0 t D = valW ⟨D.toArray⟩ (tyBase t) := if_pos rfl
  rw [hv]
  have kv := fun W => mBn (ValueIn_any ⟨D.toArray⟩ (tyBase t) (by rw [szX]; omega) W)
  generalize hV : valW ⟨D.toArray⟩ (tyBase t) = v at *
  have hvm := bnd hV
  generalize tyBase t = b at *
  clear hV hv kg hT hgrp
  have KS := Lib.hid ks; have KB := Lib.hid kb; have KP := Lib.hid kp; have KC := Lib.hid kc; have KT := Lib.hid kt; have KV := Lib.hid kv
  clear ks kb kp kc kt kv
  cases neg
  all_goals (
    have za := C9.new w (.string f) (.int .i64 al) (.int .i64 si) (.bool alt) (.bool ze) (.int .i64 wi) (.int .i64 0) (.int .i64 pr) (.string ⟨t.toArray⟩) 23
    have hB : Below w.heap.size w (w.alloc (.cells #[.string f, .int .i64 al, .int .i64 si, .bool alt, .bool ze, .int .i64 wi, .int .i64 0, .int .i64 pr, .string ⟨t.toArray⟩] 23)) := (Below.refl _ _).alloc (Nat.le_refl _) _
    have zz := za
    obtain ⟨x0, x1, x2, x3, x4, x5, x6, x7, x8, x9, xl⟩ := zz
    go_enter Tryd.func21, Tryd.ntmps21
    go_wp2_with (first | (go_at_call 49; (with_reducible refine Calls.mono (KS.out _) ?_); rintro r w1 ⟨rfl, hb⟩; replace hB := hB.trans (hb.mono hB.size); replace za := za.carry hb; have zz := za; obtain ⟨x0, x1, x2, x3, x4, x5, x6, x7, x8, x9, xl⟩ := zz) | (go_at_call 50; (with_reducible refine Calls.mono (KB.out _) ?_); rintro r w1 ⟨rfl, hb⟩; replace hB := hB.trans (hb.mono hB.size); replace za := za.carry hb; have zz := za; obtain ⟨x0, x1, x2, x3, x4, x5, x6, x7, x8, x9, xl⟩ := zz) | (go_at_call 51; (with_reducible refine Calls.mono (KC.out _) ?_); rintro r w1 ⟨rfl, hb⟩; replace hB := hB.trans (hb.mono hB.size); replace za := za.carry hb; have zz := za; obtain ⟨x0, x1, x2, x3, x4, x5, x6, x7, x8, x9, xl⟩ := zz) | (go_at_call 53; (with_reducible refine Calls.mono (KP.out _) ?_); rintro r w1 ⟨rfl, hb⟩; replace hB := hB.trans (hb.mono hB.size); replace za := za.carry hb; have zz := za; obtain ⟨x0, x1, x2, x3, x4, x5, x6, x7, x8, x9, xl⟩ := zz) | (go_at_call 52; (with_reducible refine Calls.mono (KT.out _) ?_); rintro r w1 ⟨rfl, hb⟩; replace hB := hB.trans (hb.mono hB.size); replace za := za.carry hb; have zz := za; obtain ⟨x0, x1, x2, x3, x4, x5, x6, x7, x8, x9, xl⟩ := zz) | (go_at_call 23; (with_reducible refine Calls.mono (KV.out _) ?_); rintro r w1 ⟨rfl, hb⟩; replace hB := hB.trans (hb.mono hB.size); replace za := za.carry hb; have zz := za; obtain ⟨x0, x1, x2, x3, x4, x5, x6, x7, x8, x9, xl⟩ := zz))
    all_goals go_ret2
    all_goals refine ⟨?_, hB⟩
    all_goals first | (rw [resN_neg (by assumption), resB_neg (by assumption)]; rfl) | (rw [resN_neg (by omega), resB_neg (by omega)]; rfl) | (rw [resB_pos (by omega), resN_min (by omega)]; rfl) | (rw [resB_pos (by omega), resN_pos (by omega)]; rfl))
set_option maxRecDepth 100000 in
set_option maxHeartbeats 8000000 in
theorem ReadWhole_some (f : ByteArray) (al si : Int) (alt ze : Bool) (wi gr pr : Int) (t l : List UInt8) (w : World) (hl : l.length ≤ 80) (hT : TyOk t) (hg : ¬ gr = 0) (hg0 : 0 ≤ gr) (hg2 : gr ≤ 2) (hM : HasMax w)
    (ks : ∀ W, Calls Tryd.prog 49 #[.agg #[.string f, .int .i64 al, .int .i64 si, .bool alt, .bool ze, .int .i64 wi, .int .i64 gr, .int .i64 pr, .string ⟨t.toArray⟩], .int .i64 0] W fun r w' => r = .returned (.bool true) ∧ Below W.heap.size W w') :
    Calls Tryd.prog 21 #[.agg #[.string f, .int .i64 al, .int .i64 si, .bool alt, .bool ze, .int .i64 wi, .int .i64 gr, .int .i64 pr, .string ⟨t.toArray⟩], .string ⟨l.toArray⟩] w fun r w' => r = .returned (.tuple #[.int .i64 (resN (grpV gr t (Lib.trimPrefix (cutD l) (tyPre t))) (cutN l)), .bool (resB (grpV gr t (Lib.trimPrefix (cutD l) (tyPre t))))]) ∧ Below w.heap.size w w' := by
  have kb := fun W => mBn (baseOf_ok t hT W)
  have kp := fun W => mBn (prefixOf_ok t hT W)
  have kg := fun W => mBn (groupOf_ok t hT W)
  have kc := fun W => cutSign_any l hl W
  have hcl := cutD_len l
  have kt := fun W => mBw (Tryd.strings_TrimPrefix ⟨(cutD l).toArray⟩ ⟨(tyPre t).toArray⟩ W)
  rw [show (⟨(cutD l).toArray⟩ : ByteArray).data.toList = cutD l from rfl, show (⟨(tyPre t).toArray⟩ : ByteArray).data.toList = tyPre t from rfl] at kt
  have htl := trim_len (cutD l) (tyPre t)
  have hbase := hT.base
  have hgrp := hT.grp
  have hl1 : ¬ (80 : Int) < l.length := by omega
  have hl2 : (l.length : Int) ≤ 80 := by omega
  have ht1 : (t == [99]) = false := by rcases hT with rfl | rfl | rfl | rfl | rfl | rfl <;> decide
  have ht2 : ¬ t = [99] := by rcases hT with rfl | rfl | rfl | rfl | rfl | rfl <;> decide
  generalize Lib.trimPrefix (cutD l) (tyPre t) = D at *
  generalize tyPre t = P at *
  generalize cutD l = C at *
  generalize cutN l = neg at *
  have hv : grpV gr t D = if ungB D (tyGrp t) (mkC gr) then valW ⟨(wo (mkC gr) D).toArray⟩ (tyBase t) else -1 := if_neg hg
  rw [hv]
  have hwl := wo_len (mkC gr) D
  have km := fun W => mBn (markAt_g gr (by omega) (by omega) W)
  rw [mkL_one hg (by omega) (by omega)] at km
  have ku : ∀ W, HasMax W → Calls Tryd.prog 17 #[.string ⟨D.toArray⟩, .int .i64 (tyGrp t), .string ⟨[mkC gr].toArray⟩] W fun r w' => r = .returned (.tuple #[.string (if ungB D (tyGrp t) (mkC gr) then ⟨(wo (mkC gr) D).toArray⟩ else ⟨#[]⟩), .bool (ungB D (tyGrp t) (mkC gr))]) ∧ Below W.heap.size W w' := fun W h => UngroupDigits_one ⟨D.toArray⟩ (tyGrp t) (mkC gr) W (by rw [szX]; omega) (by omega) (by omega) h
  have kv : ∀ W, Calls Tryd.prog 23 #[.string (if ungB D (tyGrp t) (mkC gr) then ⟨(wo (mkC gr) D).toArray⟩ else ⟨#[]⟩), .int .i64 (tyBase t)] W fun r w' => r = .returned (.int .i64 (if ungB D (tyGrp t) (mkC gr) then valW ⟨(wo (mkC gr) D).toArray⟩ (tyBase t) else -1)) ∧ Below W.heap.size W w' := by
    intro W
    cases ungB D (tyGrp t) (mkC gr)
    · exact mBn (ValueIn_any ⟨#[]⟩ (tyBase t) (by decide) W)
    · exact mBn (ValueIn_any ⟨(wo (mkC gr) D).toArray⟩ (tyBase t) (by rw [szX]; omega) W)
  have hvm : (if ungB D (tyGrp t) (mkC gr) then valW ⟨(wo (mkC gr) D).toArray⟩ (tyBase t) else -1) ≤ 999999999999 := by
    split
    · exact bnd rfl
    · omega
  generalize (if ungB D (tyGrp t) (mkC gr) then valW ⟨(wo (mkC gr) D).toArray⟩ (tyBase t) else -1) = v at *
  generalize (if ungB D (tyGrp t) (mkC gr) then (⟨(wo (mkC gr) D).toArray⟩ : ByteArray) else ⟨#[]⟩) = U at *
  generalize ungB D (tyGrp t) (mkC gr) = ub at *
  generalize [mkC gr] = M at *
  generalize tyGrp t = g at *
  generalize tyBase t = b at *
  have hg1 : (gr == 0) = false := by simpa using hg
  have hg2 : (gr != 0) = true := by simp [bne, hg1]
  clear hv hT
  have KS := Lib.hid ks; have KB := Lib.hid kb; have KP := Lib.hid kp; have KC := Lib.hid kc; have KT := Lib.hid kt; have KV := Lib.hid kv; have KG := Lib.hid kg; have KM := Lib.hid km; have KU := Lib.hid ku
  clear ks kb kp kc kt kv kg km ku
  cases neg
  all_goals (
    have za := C9.new w (.string f) (.int .i64 al) (.int .i64 si) (.bool alt) (.bool ze) (.int .i64 wi) (.int .i64 gr) (.int .i64 pr) (.string ⟨t.toArray⟩) 23
    have hB : Below w.heap.size w (w.alloc (.cells #[.string f, .int .i64 al, .int .i64 si, .bool alt, .bool ze, .int .i64 wi, .int .i64 gr, .int .i64 pr, .string ⟨t.toArray⟩] 23)) := (Below.refl _ _).alloc (Nat.le_refl _) _
    have zz := za
    obtain ⟨x0, x1, x2, x3, x4, x5, x6, x7, x8, x9, xl⟩ := zz
    go_enter Tryd.func21, Tryd.ntmps21
    go_wp2_with (first | (go_at_call 49; (with_reducible refine Calls.mono (KS.out _) ?_); rintro r w1 ⟨rfl, hb⟩; replace hB := hB.trans (hb.mono hB.size); replace za := za.carry hb; have zz := za; obtain ⟨x0, x1, x2, x3, x4, x5, x6, x7, x8, x9, xl⟩ := zz) | (go_at_call 50; (with_reducible refine Calls.mono (KB.out _) ?_); rintro r w1 ⟨rfl, hb⟩; replace hB := hB.trans (hb.mono hB.size); replace za := za.carry hb; have zz := za; obtain ⟨x0, x1, x2, x3, x4, x5, x6, x7, x8, x9, xl⟩ := zz) | (go_at_call 51; (with_reducible refine Calls.mono (KC.out _) ?_); rintro r w1 ⟨rfl, hb⟩; replace hB := hB.trans (hb.mono hB.size); replace za := za.carry hb; have zz := za; obtain ⟨x0, x1, x2, x3, x4, x5, x6, x7, x8, x9, xl⟩ := zz) | (go_at_call 53; (with_reducible refine Calls.mono (KP.out _) ?_); rintro r w1 ⟨rfl, hb⟩; replace hB := hB.trans (hb.mono hB.size); replace za := za.carry hb; have zz := za; obtain ⟨x0, x1, x2, x3, x4, x5, x6, x7, x8, x9, xl⟩ := zz) | (go_at_call 52; (with_reducible refine Calls.mono (KT.out _) ?_); rintro r w1 ⟨rfl, hb⟩; replace hB := hB.trans (hb.mono hB.size); replace za := za.carry hb; have zz := za; obtain ⟨x0, x1, x2, x3, x4, x5, x6, x7, x8, x9, xl⟩ := zz))
    have hMx := hM.on hB
    obtain ⟨sza0, sza1, sza2, sza3, sza4, sza5, sza6, sza7, sza8⟩ := C9.since za
    refine wp_region_since (by kernel_rfl) (by kernel_rfl) ?_
    repeat (quiet_step (first | (go_at_call 54; with_reducible exact Calls.since_of (KG.out _)) | (go_at_call 36; with_reducible exact Calls.since_of (KM.out _)) | (go_at_call 17; with_reducible exact Calls.since_of (KU.out _ (hMx.on (Since.h _))))))
    refine wpQuiet_nil ?_
    intro w_ hw_
    obtain ⟨⟨w1, hb⟩, hw2⟩ := hw_
    have hw3 : w1 = w_ := hw2.symm
    clear hw2
    subst hw3
    clear sza0 sza1 sza2 sza3 sza4 sza5 sza6 sza7 sza8
    replace hB := hB.trans (hb.mono hB.size)
    have hz := hb.size
    replace za := C9.carry za hb
    have zz := za
    obtain ⟨x0, x1, x2, x3, x4, x5, x6, x7, x8, x9, xl⟩ := zz
    go_wp2_with (first | (go_at_call 23; (with_reducible refine Calls.mono (KV.out _) ?_); rintro r w1 ⟨rfl, hb⟩; replace hB := hB.trans (hb.mono hB.size); replace za := za.carry hb; have zz := za; obtain ⟨x0, x1, x2, x3, x4, x5, x6, x7, x8, x9, xl⟩ := zz))
    all_goals go_ret2
    all_goals refine ⟨?_, hB⟩
    all_goals first | (rw [resN_neg (by assumption), resB_neg (by assumption)]; rfl) | (rw [resN_neg (by omega), resB_neg (by omega)]; rfl) | (rw [resB_pos (by omega), resN_min (by omega)]; rfl) | (rw [resB_pos (by omega), resN_pos (by omega)]; rfl))
end Go.Proofs.YtkpdpohnbnpelaaDoor
