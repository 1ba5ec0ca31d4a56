import Derived.Test.YtcbpocpkfmbaoaaGreatDoorX1
import Derived.Test.YtcbpocpkfmbaoaaGreatDoorV8
import Derived.Test.YtcbpocpkfmbaoaaGreatDoorZ3
namespace Go.Proofs.YtcbpocpkfmbaoaaGreatDoor
open Go.RowKit
def mkC (gr : Int) : UInt8 := if gr = 1 then 44 else 95
theorem mkL_one {gr : Int} (h0 : ¬ gr = 0) (h1 : 0 ≤ gr) (h2 : gr ≤ 2) : mkL gr = [mkC gr] := by
  have hk : gr = 1 ∨ gr = 2 := by omega
  rcases hk with rfl | rfl <;> rfl
def grpV (gr : Int) (t D : List UInt8) : Int := if gr = 0 then valW ⟨D.toArray⟩ (tyBase t) else if ungB D (tyGrp t) (mkC gr) then valW ⟨(wo (mkC gr) D).toArray⟩ (tyBase t) else -1
def resN (v : Int) (neg : Bool) : Int := if v < 0 then 0 else if neg then -v else v
def resB (v : Int) : Bool := !decide (v < 0)
theorem bnd {v : Int} {base : Int} {s : ByteArray} (h : valW s base = v) : v ≤ 999999999999 := by
  have hmax : ∀ (l : List UInt8) (n : Int), n ≤ 999999999999 → vRun base l n ≤ 999999999999 := by
    intro l
    induction l with
    | nil => intro n h; exact h
    | cons c l ih =>
      intro n h
      unfold vRun
      split
      · omega
      · split
        · omega
        · exact ih _ (by omega)
  rw [← h]
  unfold valW
  split
  · omega
  · split
    · omega
    · split
      · omega
      · exact hmax _ 0 (by omega)
theorem trim_len (s p : List UInt8) : (Lib.trimPrefix s p).length ≤ s.length := by
  unfold Lib.trimPrefix
  split
  · rw [List.length_drop]; omega
  · omega
theorem cutD_len (l : List UInt8) : (cutD l).length ≤ l.length := by
  cases l with
  | nil => exact Nat.le_refl _
  | cons c r =>
    show (if isSign c then r else c :: r).length ≤ _
    split <;> simp
theorem szX (l : List UInt8) : (⟨l.toArray⟩ : ByteArray).size = l.length := rfl
theorem mBw {fn : FuncId} {args : Array Value} {v : Value} {w : World} (h : Calls Tryz.prog fn args w fun r w' => r = .returned v ∧ w' = w) : Calls Tryz.prog fn args w fun r w' => r = .returned v ∧ Below w.heap.size w w' := h.mono (by rintro r w1 ⟨rfl, rfl⟩; exact ⟨rfl, Below.refl _ _⟩)
theorem resN_neg {v : Int} {neg : Bool} (h : v < 0) : resN v neg = 0 := if_pos h
theorem resB_neg {v : Int} (h : v < 0) : resB v = false := by unfold resB; rw [decide_eq_true h]; rfl
theorem resB_pos {v : Int} (h : 0 ≤ v) : resB v = true := by unfold resB; rw [decide_eq_false (by omega)]; rfl
theorem resN_min {v : Int} (h : 0 ≤ v) : resN v true = -v := by unfold resN; rw [if_neg (by omega), if_pos rfl]
theorem resN_pos {v : Int} (h : 0 ≤ v) : resN v false = v := by unfold resN; rw [if_neg (by omega), if_neg (by decide)]
set_option maxRecDepth 100000 in
set_option maxHeartbeats 8000000 in
theorem ReadWhole_none (f : ByteArray) (al si : Int) (alt ze : Bool) (wi gr pr : Int) (t l : List UInt8) (w : World) (hl : l.length ≤ 80) (hT : TyOk t) (hg : gr = 0)
    (ks : ∀ W, Calls Tryz.prog 20 #[.agg #[.string f, .int .i64 al, .int .i64 si, .bool alt, .bool ze, .int .i64 wi, .int .i64 gr, .int .i64 pr, .string ⟨t.toArray⟩], .int .i64 0] W fun r w' => r = .returned (.bool true) ∧ Below W.heap.size W w') :
    Calls Tryz.prog 9 #[.agg #[.string f, .int .i64 al, .int .i64 si, .bool alt, .bool ze, .int .i64 wi, .int .i64 gr, .int .i64 pr, .string ⟨t.toArray⟩], .string ⟨l.toArray⟩] w fun r w' => r = .returned (.tuple #[.int .i64 (resN (grpV gr t (Lib.trimPrefix (cutD l) (tyPre t))) (cutN l)), .bool (resB (grpV gr t (Lib.trimPrefix (cutD l) (tyPre t))))]) ∧ Below w.heap.size w w' := by
  subst hg
  have kb := fun W => mBn (baseOf_ok t hT W)
  have kp := fun W => mBn (prefixOf_ok t hT W)
  have kg := fun W => mBn (groupOf_ok t hT W)
  have kc := fun W => cutSign_any l hl W
  have hcl := cutD_len l
  have kt := fun W => mBw (Tryz.strings_TrimPrefix ⟨(cutD l).toArray⟩ ⟨(tyPre t).toArray⟩ W)
  rw [show (⟨(cutD l).toArray⟩ : ByteArray).data.toList = cutD l from rfl, show (⟨(tyPre t).toArray⟩ : ByteArray).data.toList = tyPre t from rfl] at kt
  have htl := trim_len (cutD l) (tyPre t)
  have hbase := hT.base
  have hgrp := hT.grp
  have hl1 : ¬ (80 : Int) < l.length := by omega
  have hl2 : (l.length : Int) ≤ 80 := by omega
  have ht1 : (t == [99]) = false := by rcases hT with rfl | rfl | rfl | rfl | rfl | rfl <;> decide
  have ht2 : ¬ t = [99] := by rcases hT with rfl | rfl | rfl | rfl | rfl | rfl <;> decide
  generalize Lib.trimPrefix (cutD l) (tyPre t) = D at *
  generalize tyPre t = P at *
  generalize cutD l = C at *
  generalize cutN l = neg at *
  have hv : grpV 0 t D = valW ⟨D.toArray⟩ (tyBase t) := if_pos rfl
  rw [hv]
  have kv := fun W => mBn (ValueIn_any ⟨D.toArray⟩ (tyBase t) (by rw [szX]; omega) W)
  generalize hV : valW ⟨D.toArray⟩ (tyBase t) = v at *
  have hvm := bnd hV
  generalize tyBase t = b at *
  clear hV hv kg hT hgrp
  have KS := Lib.hid ks; have KB := Lib.hid kb; have KP := Lib.hid kp; have KC := Lib.hid kc; have KT := Lib.hid kt; have KV := Lib.hid kv
  clear ks kb kp kc kt kv
  cases neg
  all_goals (
    have za := C9.new w (.string f) (.int .i64 al) (.int .i64 si) (.bool alt) (.bool ze) (.int .i64 wi) (.int .i64 0) (.int .i64 pr) (.string ⟨t.toArray⟩) 24
    have hB : Below w.heap.size w (w.alloc (.cells #[.string f, .int .i64 al, .int .i64 si, .bool alt, .bool ze, .int .i64 wi, .int .i64 0, .int .i64 pr, .string ⟨t.toArray⟩] 24)) := (Below.refl _ _).alloc (Nat.le_refl _) _
    have zz := za
    obtain ⟨x0, x1, x2, x3, x4, x5, x6, x7, x8, x9, xl⟩ := zz
    go_enter Tryz.func9, Tryz.ntmps9
    go_wp2_with (first | (go_at_call 20; (with_reducible refine Calls.mono (KS.out _) ?_); rintro r w1 ⟨rfl, hb⟩; replace hB := hB.trans (hb.mono hB.size); replace za := za.carry hb; have zz := za; obtain ⟨x0, x1, x2, x3, x4, x5, x6, x7, x8, x9, xl⟩ := zz) | (go_at_call 29; (with_reducible refine Calls.mono (KB.out _) ?_); rintro r w1 ⟨rfl, hb⟩; replace hB := hB.trans (hb.mono hB.size); replace za := za.carry hb; have zz := za; obtain ⟨x0, x1, x2, x3, x4, x5, x6, x7, x8, x9, xl⟩ := zz) | (go_at_call 30; (with_reducible refine Calls.mono (KC.out _) ?_); rintro r w1 ⟨rfl, hb⟩; replace hB := hB.trans (hb.mono hB.size); replace za := za.carry hb; have zz := za; obtain ⟨x0, x1, x2, x3, x4, x5, x6, x7, x8, x9, xl⟩ := zz) | (go_at_call 24; (with_reducible refine Calls.mono (KP.out _) ?_); rintro r w1 ⟨rfl, hb⟩; replace hB := hB.trans (hb.mono hB.size); replace za := za.carry hb; have zz := za; obtain ⟨x0, x1, x2, x3, x4, x5, x6, x7, x8, x9, xl⟩ := zz) | (go_at_call 31; (with_reducible refine Calls.mono (KT.out _) ?_); rintro r w1 ⟨rfl, hb⟩; replace hB := hB.trans (hb.mono hB.size); replace za := za.carry hb; have zz := za; obtain ⟨x0, x1, x2, x3, x4, x5, x6, x7, x8, x9, xl⟩ := zz) | (go_at_call 35; (with_reducible refine Calls.mono (KV.out _) ?_); rintro r w1 ⟨rfl, hb⟩; replace hB := hB.trans (hb.mono hB.size); replace za := za.carry hb; have zz := za; obtain ⟨x0, x1, x2, x3, x4, x5, x6, x7, x8, x9, xl⟩ := zz))
    all_goals go_ret2
    all_goals refine ⟨?_, hB⟩
    all_goals first | (rw [resN_neg (by assumption), resB_neg (by assumption)]; rfl) | (rw [resN_neg (by omega), resB_neg (by omega)]; rfl) | (rw [resB_pos (by omega), resN_min (by omega)]; rfl) | (rw [resB_pos (by omega), resN_pos (by omega)]; rfl))
set_option maxRecDepth 100000 in
set_option maxHeartbeats 8000000 in
theorem ReadWhole_some (f : ByteArray) (al si : Int) (alt ze : Bool) (wi gr pr : Int) (t l : List UInt8) (w : World) (hl : l.length ≤ 80) (hT : TyOk t) (hg : ¬ gr = 0) (hg0 : 0 ≤ gr) (hg2 : gr ≤ 2) (hM : HasMax w)
    (ks : ∀ W, Calls Tryz.prog 20 #[.agg #[.string f, .int .i64 al, .int .i64 si, .bool alt, .bool ze, .int .i64 wi, .int .i64 gr, .int .i64 pr, .string ⟨t.toArray⟩], .int .i64 0] W fun r w' => r = .returned (.bool true) ∧ Below W.heap.size W w') :
    Calls Tryz.prog 9 #[.agg #[.string f, .int .i64 al, .int .i64 si, .bool alt, .bool ze, .int .i64 wi, .int .i64 gr, .int .i64 pr, .string ⟨t.toArray⟩], .string ⟨l.toArray⟩] w fun r w' => r = .returned (.tuple #[.int .i64 (resN (grpV gr t (Lib.trimPrefix (cutD l) (tyPre t))) (cutN l)), .bool (resB (grpV gr t (Lib.trimPrefix (cutD l) (tyPre t))))]) ∧ Below w.heap.size w w' := by
  have kb := fun W => mBn (baseOf_ok t hT W)
  have kp := fun W => mBn (prefixOf_ok t hT W)
  have kg := fun W => mBn (groupOf_ok t hT W)
  have kc := fun W => cutSign_any l hl W
  have hcl := cutD_len l
  have kt := fun W => mBw (Tryz.strings_TrimPrefix ⟨(cutD l).toArray⟩ ⟨(tyPre t).toArray⟩ W)
  rw [show (⟨(cutD l).toArray⟩ : ByteArray).data.toList = cutD l from rfl, show (⟨(tyPre t).toArray⟩ : ByteArray).data.toList = tyPre t from rfl] at kt
  have htl := trim_len (cutD l) (tyPre t)
  have hbase := hT.base
  have hgrp := hT.grp
  have hl1 : ¬ (80 : Int) < l.length := by omega
  have hl2 : (l.length : Int) ≤ 80 := by omega
  have ht1 : (t == [99]) = false := by rcases hT with rfl | rfl | rfl | rfl | rfl | rfl <;> decide
  have ht2 : ¬ t = [99] := by rcases hT with rfl | rfl | rfl | rfl | rfl | rfl <;> decide
  generalize Lib.trimPrefix (cutD l) (tyPre t) = D at *
  generalize tyPre t = P at *
  generalize cutD l = C at *
  generalize cutN l = neg at *
  have hv : grpV gr t D = if ungB D (tyGrp t) (mkC gr) then valW ⟨(wo (mkC gr) D).toArray⟩ (tyBase t) else -1 := if_neg hg
  rw [hv]
  have hwl := wo_len (mkC gr) D
  have km := fun W => mBn (markAt_g gr (by omega) (by omega) W)
  rw [mkL_one hg (by omega) (by omega)] at km
  have ku : ∀ W, HasMax W → Calls Tryz.prog 32 #[.string ⟨D.toArray⟩, .int .i64 (tyGrp t), .string ⟨[mkC gr].toArray⟩] W fun r w' => r = .returned (.tuple #[.string (if ungB D (tyGrp t) (mkC gr) then ⟨(wo (mkC gr) D).toArray⟩ else ⟨#[]⟩), .bool (ungB D (tyGrp t) (mkC gr))]) ∧ Below W.heap.size W w' := fun W h => UngroupDigits_one ⟨D.toArray⟩ (tyGrp t) (mkC gr) W (by rw [szX]; omega) (by omega) (by omega) h
  have kv : ∀ W, Calls Tryz.prog 35 #[.string (if ungB D (tyGrp t) (mkC gr) then ⟨(wo (mkC gr) D).toArray⟩ else ⟨#[]⟩), .int .i64 (tyBase t)] W fun r w' => r = .returned (.int .i64 (if ungB D (tyGrp t) (mkC gr) then valW ⟨(wo (mkC gr) D).toArray⟩ (tyBase t) else -1)) ∧ Below W.heap.size W w' := by
    intro W
    cases ungB D (tyGrp t) (mkC gr)
    · exact mBn (ValueIn_any ⟨#[]⟩ (tyBase t) (by decide) W)
    · exact mBn (ValueIn_any ⟨(wo (mkC gr) D).toArray⟩ (tyBase t) (by rw [szX]; omega) W)
  have hvm : (if ungB D (tyGrp t) (mkC gr) then valW ⟨(wo (mkC gr) D).toArray⟩ (tyBase t) else -1) ≤ 999999999999 := by
    split
    · exact bnd rfl
    · omega
  generalize (if ungB D (tyGrp t) (mkC gr) then valW ⟨(wo (mkC gr) D).toArray⟩ (tyBase t) else -1) = v at *
  generalize (if ungB D (tyGrp t) (mkC gr) then (⟨(wo (mkC gr) D).toArray⟩ : ByteArray) else ⟨#[]⟩) = U at *
  generalize ungB D (tyGrp t) (mkC gr) = ub at *
  generalize [mkC gr] = M at *
  generalize tyGrp t = g at *
  generalize tyBase t = b at *
  have hg1 : (gr == 0) = false := by simpa using hg
  have hg2 : (gr != 0) = true := by simp [bne, hg1]
  clear hv hT
  have KS := Lib.hid ks; have KB := Lib.hid kb; have KP := Lib.hid kp; have KC := Lib.hid kc; have KT := Lib.hid kt; have KV := Lib.hid kv; have KG := Lib.hid kg; have KM := Lib.hid km; have KU := Lib.hid ku
  clear ks kb kp kc kt kv kg km ku
  cases neg
  all_goals (
    have za := C9.new w (.string f) (.int .i64 al) (.int .i64 si) (.bool alt) (.bool ze) (.int .i64 wi) (.int .i64 gr) (.int .i64 pr) (.string ⟨t.toArray⟩) 24
    have hB : Below w.heap.size w (w.alloc (.cells #[.string f, .int .i64 al, .int .i64 si, .bool alt, .bool ze, .int .i64 wi, .int .i64 gr, .int .i64 pr, .string ⟨t.toArray⟩] 24)) := (Below.refl _ _).alloc (Nat.le_refl _) _
    have zz := za
    obtain ⟨x0, x1, x2, x3, x4, x5, x6, x7, x8, x9, xl⟩ := zz
    go_enter Tryz.func9, Tryz.ntmps9
    go_wp2_with (first | (go_at_call 20; (with_reducible refine Calls.mono (KS.out _) ?_); rintro r w1 ⟨rfl, hb⟩; replace hB := hB.trans (hb.mono hB.size); replace za := za.carry hb; have zz := za; obtain ⟨x0, x1, x2, x3, x4, x5, x6, x7, x8, x9, xl⟩ := zz) | (go_at_call 29; (with_reducible refine Calls.mono (KB.out _) ?_); rintro r w1 ⟨rfl, hb⟩; replace hB := hB.trans (hb.mono hB.size); replace za := za.carry hb; have zz := za; obtain ⟨x0, x1, x2, x3, x4, x5, x6, x7, x8, x9, xl⟩ := zz) | (go_at_call 30; (with_reducible refine Calls.mono (KC.out _) ?_); rintro r w1 ⟨rfl, hb⟩; replace hB := hB.trans (hb.mono hB.size); replace za := za.carry hb; have zz := za; obtain ⟨x0, x1, x2, x3, x4, x5, x6, x7, x8, x9, xl⟩ := zz) | (go_at_call 24; (with_reducible refine Calls.mono (KP.out _) ?_); rintro r w1 ⟨rfl, hb⟩; replace hB := hB.trans (hb.mono hB.size); replace za := za.carry hb; have zz := za; obtain ⟨x0, x1, x2, x3, x4, x5, x6, x7, x8, x9, xl⟩ := zz) | (go_at_call 31; (with_reducible refine Calls.mono (KT.out _) ?_); rintro r w1 ⟨rfl, hb⟩; replace hB := hB.trans (hb.mono hB.size); replace za := za.carry hb; have zz := za; obtain ⟨x0, x1, x2, x3, x4, x5, x6, x7, x8, x9, xl⟩ := zz))
    have hMx := hM.on hB
    obtain ⟨sza0, sza1, sza2, sza3, sza4, sza5, sza6, sza7, sza8⟩ := C9.since za
    refine wp_region_since (by kernel_rfl) (by kernel_rfl) ?_
    repeat (quiet_step (first | (go_at_call 33; with_reducible exact Calls.since_of (KG.out _)) | (go_at_call 34; with_reducible exact Calls.since_of (KM.out _)) | (go_at_call 32; with_reducible exact Calls.since_of (KU.out _ (hMx.on (Since.h _))))))
    refine wpQuiet_nil ?_
    intro w_ hw_
    obtain ⟨⟨w1, hb⟩, hw2⟩ := hw_
    have hw3 : w1 = w_ := hw2.symm
    clear hw2
    subst hw3
    clear sza0 sza1 sza2 sza3 sza4 sza5 sza6 sza7 sza8
    replace hB := hB.trans (hb.mono hB.size)
    have hz := hb.size
    replace za := C9.carry za hb
    have zz := za
    obtain ⟨x0, x1, x2, x3, x4, x5, x6, x7, x8, x9, xl⟩ := zz
    go_wp2_with (first | (go_at_call 35; (with_reducible refine Calls.mono (KV.out _) ?_); rintro r w1 ⟨rfl, hb⟩; replace hB := hB.trans (hb.mono hB.size); replace za := za.carry hb; have zz := za; obtain ⟨x0, x1, x2, x3, x4, x5, x6, x7, x8, x9, xl⟩ := zz))
    all_goals go_ret2
    all_goals refine ⟨?_, hB⟩
    all_goals first | (rw [resN_neg (by assumption), resB_neg (by assumption)]; rfl) | (rw [resN_neg (by omega), resB_neg (by omega)]; rfl) | (rw [resB_pos (by omega), resN_min (by omega)]; rfl) | (rw [resB_pos (by omega), resN_pos (by omega)]; rfl))
end Go.Proofs.YtcbpocpkfmbaoaaGreatDoor
namespace Go.Proofs.YtcbpocpkfmbaoaaGreatDoor
open Go.RowKit
/-- what the model leaves of a prefix -/
def preD (P D : List UInt8) : List UInt8 := if P ≠ [] ∧ P.length < D.length ∧ D.take P.length = P then D.drop P.length else D
theorem tyPre_len {t : List UInt8} (h : TyOk t) : tyPre t = [] ∨ (tyPre t).length = 2 := by rcases h with rfl | rfl | rfl | rfl | rfl | rfl <;> decide
theorem pre_cases {P D : List UInt8} (hP : P = [] ∨ P.length = 2) :
    (P = [] ∧ preD P D = D) ∨ (P.isEmpty = false ∧ P.length = 2 ∧ D.length ≤ 2 ∧ preD P D = D) ∨
    (P.isEmpty = false ∧ P.length = 2 ∧ 2 < D.length ∧ (∃ Q : List UInt8, D.take 2 = Q ∧ (Q == P) = false) ∧ preD P D = D) ∨
    (P.isEmpty = false ∧ P.length = 2 ∧ 2 < D.length ∧ D.take 2 = P ∧ preD P D = D.drop 2) := by
  rcases hP with rfl | hP
  · exact .inl ⟨rfl, by unfold preD; rw [if_neg (by simp)]⟩
  · right
    have hne : P ≠ [] := fun e => by rw [e] at hP; simp at hP
    have he : P.isEmpty = false := by cases P; exact absurd rfl hne; rfl
    by_cases h2 : 2 < D.length
    · right
      by_cases ht : D.take 2 = P
      · exact .inr ⟨he, hP, h2, ht, by unfold preD; rw [if_pos ⟨hne, by omega, by rw [hP]; exact ht⟩, hP]⟩
      · exact .inl ⟨he, hP, h2, ⟨_, rfl, by simpa using ht⟩, by unfold preD; rw [if_neg (by rw [hP]; exact fun h => ht h.2.2)]⟩
    · exact .inl ⟨he, hP, by omega, by unfold preD; rw [if_neg (by omega)]⟩
/-- a prefix alone has no digits -/
theorem bare_pre {t : List UInt8} (h : TyOk t) (gr : Int) (h0 : 0 ≤ gr) (h2 : gr ≤ 2) (hP : (tyPre t).length = 2) : grpV gr t (tyPre t) = -1 ∧ grpV gr t [] = -1 := by
  have hg : gr = 0 ∨ gr = 1 ∨ gr = 2 := by omega
  rcases h with rfl | rfl | rfl | rfl | rfl | rfl
  · simp [tyPre] at hP
  · simp [tyPre] at hP
  all_goals (rcases hg with rfl | rfl | rfl <;> decide +kernel)
theorem pre_same {t : List UInt8} (h : TyOk t) (gr : Int) (h0 : 0 ≤ gr) (h2 : gr ≤ 2) (D : List UInt8) : grpV gr t (preD (tyPre t) D) = grpV gr t (Lib.trimPrefix D (tyPre t)) := by
  have hp := @List.isPrefixOf_iff_prefix UInt8 _ _ (tyPre t) D
  rcases pre_cases (D := D) (tyPre_len h) with ⟨e, e2⟩ | ⟨_, hl, hd, e2⟩ | ⟨_, hl, hd, ⟨Q, hQ, hne⟩, e2⟩ | ⟨_, hl, hd, ht, e2⟩
  · rw [e2, e]
    rfl
  · rw [e2]
    unfold Lib.trimPrefix Lib.hasPrefix
    by_cases hpre : (tyPre t).isPrefixOf D = true
    · rw [if_pos hpre]
      obtain ⟨r, hr⟩ := hp.1 hpre
      have hr0 : r = [] := by
        rw [← hr, List.length_append] at hd
        exact List.length_eq_zero_iff.1 (by omega)
      rw [hr0, List.append_nil] at hr
      rw [← hr, List.drop_length]
      have := bare_pre h gr h0 h2 hl
      rw [this.1, this.2]
    · rw [if_neg hpre]
  · rw [e2]
    unfold Lib.trimPrefix Lib.hasPrefix
    rw [if_neg]
    intro hpre
    obtain ⟨r, hr⟩ := hp.1 hpre
    have : Q = tyPre t := by rw [← hQ, ← hr, ← hl, List.take_left]
    rw [this] at hne
    simp at hne
  · rw [e2]
    unfold Lib.trimPrefix Lib.hasPrefix
    have hpre : (tyPre t).isPrefixOf D = true := hp.2 ⟨D.drop 2, by
      have := List.take_append_drop 2 D
      rw [ht] at this
      exact this⟩
    rw [if_pos hpre, hl]
end Go.Proofs.YtcbpocpkfmbaoaaGreatDoor
