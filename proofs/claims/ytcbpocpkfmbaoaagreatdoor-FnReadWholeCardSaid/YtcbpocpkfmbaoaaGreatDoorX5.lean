import Derived.Test.YtcbpocpkfmbaoaaGreatDoorX3
namespace Go.Proofs.YtcbpocpkfmbaoaaGreatDoor
open Go.RowKit
set_option maxRecDepth 100000 in
set_option maxHeartbeats 16000000 in
theorem readWholeS_45 (l t : List UInt8) (gr : Int) (w : World) (hl : l.length ≤ 80) (hT : TyOk t) (h0 : 0 ≤ gr) (h2 : gr ≤ 2) (r0 : List UInt8) (hc0 : l = 45 :: r0) :
    Calls Tryz.prog 41 #[.string ⟨l.toArray⟩, .string ⟨t.toArray⟩, .string ⟨(mkL gr).toArray⟩] w fun r w' => r = .returned (.tuple #[.int .i64 (resN (grpV gr t (preD (tyPre t) (cutD l))) (cutN l)), .bool (resB (grpV gr t (preD (tyPre t) (cutD l))))]) ∧ Below w.heap.size w w' := by
  subst hc0
  rw [show cutD (45 :: r0) = r0 from rfl, show cutN (45 :: r0) = true from rfl]
  have hy := ext_rest 45 r0
  have hl3 : (1 : Int) ≤ r0.length + 1 := by omega
  have hlr : r0.length ≤ 80 := by simp at hl; omega
  have hx0 : (⟨(45 :: r0).toArray⟩ : ByteArray)[0]'(by show 0 < r0.length + 1; omega) = 45 := rfl
  have kb := fun W => mBn (baseOfS_ok t hT W)
  have kp := fun W => mBn (prefixOfS_ok t hT W)
  have kg := fun W => mBn (groupSizeS_ok t hT W)
  have hbase := hT.base
  have hgrp := hT.grp
  have hpc := pre_cases (D := r0) (tyPre_len hT)
  have hdl : (preD (tyPre t) (r0)).length ≤ 80 := by
    have : (preD (tyPre t) (r0)).length ≤ (r0).length := by
      unfold preD
      split
      · rw [List.length_drop]; omega
      · exact Nat.le_refl _
    (try simp only [List.length_cons] at *)
    (try simp only [List.length_nil] at *)
    omega
  generalize hP : tyPre t = P at *
  generalize hD2 : preD P (r0) = D2 at *
  clear hD2 hP
  have hB := Below.refl w.heap.size w
  by_cases hg : gr = 0
  · subst hg
    have hv : grpV 0 t D2 = valW ⟨D2.toArray⟩ (tyBase t) := if_pos rfl
    rw [hv]
    have kv := fun W => mBn (valueInS_any ⟨D2.toArray⟩ (tyBase t) (by rw [szX]; omega) (by omega) W)
    generalize hV : valW ⟨D2.toArray⟩ (tyBase t) = v at *
    have hvm := bnd hV
    generalize tyBase t = b at *
    clear hV hv kg hT hgrp
    rw [show mkL 0 = [] from rfl]
    have KB := Lib.hid kb; have KP := Lib.hid kp; have KV := Lib.hid kv
    clear kb kp kv
    rcases hpc with ⟨rfl, rfl⟩ | ⟨hPe, hPl, hdd, rfl⟩ | ⟨hPe, hPl, hdd, ⟨Q, hQ, hQP⟩, rfl⟩ | ⟨hPe, hPl, hdd, hQ, e2z⟩
    · go_enter Tryz.func41, Tryz.ntmps41
      go_wp2_with (first | (go_at_call 60; (with_reducible refine Calls.mono (KP.out _) ?_); rintro r w1 ⟨rfl, hb⟩; replace hB := hB.trans (hb.mono hB.size)) | (go_at_call 63; (with_reducible refine Calls.mono (KB.out _) ?_); rintro r w1 ⟨rfl, hb⟩; replace hB := hB.trans (hb.mono hB.size)) | (go_at_call 79; (with_reducible refine Calls.mono (KV.out _) ?_); rintro r w1 ⟨rfl, hb⟩; replace hB := hB.trans (hb.mono hB.size)))
      all_goals go_ret2
      all_goals first | (rw [resN_neg (by omega), resB_neg (by omega)]; exact ⟨rfl, hB⟩) | (rw [resB_pos (by omega), resN_min (by omega)]; exact ⟨rfl, hB⟩) | (rw [resB_pos (by omega), resN_pos (by omega)]; exact ⟨rfl, hB⟩)
    · have hz1 : ¬ ((P.length : Nat) : Int) < ((D2).length : Int) := by omega
      have hz2 : ¬ (2 : Int) < ((D2).length : Int) := by omega
      (try simp only [List.length_cons] at hz1 hz2)
      go_enter Tryz.func41, Tryz.ntmps41
      go_wp2_with (first | (go_at_call 60; (with_reducible refine Calls.mono (KP.out _) ?_); rintro r w1 ⟨rfl, hb⟩; replace hB := hB.trans (hb.mono hB.size)) | (go_at_call 63; (with_reducible refine Calls.mono (KB.out _) ?_); rintro r w1 ⟨rfl, hb⟩; replace hB := hB.trans (hb.mono hB.size)) | (go_at_call 79; (with_reducible refine Calls.mono (KV.out _) ?_); rintro r w1 ⟨rfl, hb⟩; replace hB := hB.trans (hb.mono hB.size)))
      all_goals go_ret2
      all_goals first | (rw [resN_neg (by omega), resB_neg (by omega)]; exact ⟨rfl, hB⟩) | (rw [resB_pos (by omega), resN_min (by omega)]; exact ⟨rfl, hB⟩) | (rw [resB_pos (by omega), resN_pos (by omega)]; exact ⟨rfl, hB⟩)
    · have hz1 : ((P.length : Nat) : Int) < ((D2).length : Int) := by omega
      have hz2 : (2 : Int) < ((D2).length : Int) := by omega
      have hz3 : (2 : Int) ≤ ((D2).length : Int) := by omega
      have hz4 := ext_take 2 (D2)
      rw [hQ] at hz4
      have hz5 := ext_drop 2 (D2)
      (try simp only [List.length_cons] at hz1 hz2 hz3 hz5)
      go_enter Tryz.func41, Tryz.ntmps41
      go_wp2_with (first | (go_at_call 60; (with_reducible refine Calls.mono (KP.out _) ?_); rintro r w1 ⟨rfl, hb⟩; replace hB := hB.trans (hb.mono hB.size)) | (go_at_call 63; (with_reducible refine Calls.mono (KB.out _) ?_); rintro r w1 ⟨rfl, hb⟩; replace hB := hB.trans (hb.mono hB.size)) | (go_at_call 79; (with_reducible refine Calls.mono (KV.out _) ?_); rintro r w1 ⟨rfl, hb⟩; replace hB := hB.trans (hb.mono hB.size)))
      all_goals go_ret2
      all_goals first | (rw [resN_neg (by omega), resB_neg (by omega)]; exact ⟨rfl, hB⟩) | (rw [resB_pos (by omega), resN_min (by omega)]; exact ⟨rfl, hB⟩) | (rw [resB_pos (by omega), resN_pos (by omega)]; exact ⟨rfl, hB⟩)
    · have hz1 : ((P.length : Nat) : Int) < ((r0).length : Int) := by omega
      have hz2 : (2 : Int) < ((r0).length : Int) := by omega
      have hz3 : (2 : Int) ≤ ((r0).length : Int) := by omega
      have hz4 := ext_take 2 (r0)
      rw [hQ] at hz4
      have hz5 := ext_drop 2 (r0)
      rw [← e2z] at hz5
      (try simp only [List.length_cons] at hz1 hz2 hz3 hz5)
      clear e2z
      go_enter Tryz.func41, Tryz.ntmps41
      go_wp2_with (first | (go_at_call 60; (with_reducible refine Calls.mono (KP.out _) ?_); rintro r w1 ⟨rfl, hb⟩; replace hB := hB.trans (hb.mono hB.size)) | (go_at_call 63; (with_reducible refine Calls.mono (KB.out _) ?_); rintro r w1 ⟨rfl, hb⟩; replace hB := hB.trans (hb.mono hB.size)) | (go_at_call 79; (with_reducible refine Calls.mono (KV.out _) ?_); rintro r w1 ⟨rfl, hb⟩; replace hB := hB.trans (hb.mono hB.size)))
      all_goals go_ret2
      all_goals first | (rw [resN_neg (by omega), resB_neg (by omega)]; exact ⟨rfl, hB⟩) | (rw [resB_pos (by omega), resN_min (by omega)]; exact ⟨rfl, hB⟩) | (rw [resB_pos (by omega), resN_pos (by omega)]; exact ⟨rfl, hB⟩)
  · have hv : grpV gr t D2 = if ungB D2 (tyGrp t) (mkC gr) then valW ⟨(wo (mkC gr) D2).toArray⟩ (tyBase t) else -1 := if_neg hg
    rw [hv, mkL_one hg h0 h2]
    have hwl := wo_len (mkC gr) D2
    have kw : ∀ W, Calls Tryz.prog 76 #[.string ⟨D2.toArray⟩, .int .u8 (((⟨[mkC gr].toArray⟩ : ByteArray)[0]'(by show 0 < 1; omega)).toNat : Int)] W fun r w' => r = .returned (.string ⟨(wo (mkC gr) D2).toArray⟩) ∧ Below W.heap.size W w' := fun W => mBn (withoutS_any ⟨D2.toArray⟩ (mkC gr) W (by rw [szX]; omega))
    have kr := fun W => mBn (groupedS_any ⟨(wo (mkC gr) D2).toArray⟩ (tyGrp t) ⟨[mkC gr].toArray⟩ W (by rw [szX]; omega) (by omega) (by omega) (by show 1 ≤ 1; omega))
    rw [show (⟨(wo (mkC gr) D2).toArray⟩ : ByteArray).data.toList = wo (mkC gr) D2 from rfl, show (⟨[mkC gr].toArray⟩ : ByteArray).data.toList = [mkC gr] from rfl] at kr
    cases hu : ungB D2 (tyGrp t) (mkC gr)
    · rw [if_neg (by decide)]
      have hne : (grp (tyGrp t) [mkC gr] (wo (mkC gr) D2) == D2) = false := hu
      generalize grp (tyGrp t) [mkC gr] (wo (mkC gr) D2) = G at *
      generalize wo (mkC gr) D2 = O at *
      generalize mkC gr = c at *
      generalize tyGrp t = g at *
      generalize tyBase t = b at *
      clear hv hT hu
      have KB := Lib.hid kb; have KP := Lib.hid kp; have KW := Lib.hid kw; have KR := Lib.hid kr; have KG := Lib.hid kg
      clear kb kp kw kr kg
      rcases hpc with ⟨rfl, rfl⟩ | ⟨hPe, hPl, hdd, rfl⟩ | ⟨hPe, hPl, hdd, ⟨Q, hQ, hQP⟩, rfl⟩ | ⟨hPe, hPl, hdd, hQ, e2z⟩
      · go_enter Tryz.func41, Tryz.ntmps41
        go_wp2_with (first | (go_at_call 60; (with_reducible refine Calls.mono (KP.out _) ?_); rintro r w1 ⟨rfl, hb⟩; replace hB := hB.trans (hb.mono hB.size)) | (go_at_call 63; (with_reducible refine Calls.mono (KB.out _) ?_); rintro r w1 ⟨rfl, hb⟩; replace hB := hB.trans (hb.mono hB.size)) | (go_at_call 78; (with_reducible refine Calls.mono (KG.out _) ?_); rintro r w1 ⟨rfl, hb⟩; replace hB := hB.trans (hb.mono hB.size)) | (go_at_call 76; (with_reducible refine Calls.mono (KW.out _) ?_); rintro r w1 ⟨rfl, hb⟩; replace hB := hB.trans (hb.mono hB.size)) | (go_at_call 77; (with_reducible refine Calls.mono (KR.out _) ?_); rintro r w1 ⟨rfl, hb⟩; replace hB := hB.trans (hb.mono hB.size)))
        all_goals go_ret2
        all_goals first | (rw [resN_neg (by omega), resB_neg (by omega)]; exact ⟨rfl, hB⟩) | (rw [resB_pos (by omega), resN_min (by omega)]; exact ⟨rfl, hB⟩) | (rw [resB_pos (by omega), resN_pos (by omega)]; exact ⟨rfl, hB⟩)
      · have hz1 : ¬ ((P.length : Nat) : Int) < ((D2).length : Int) := by omega
        have hz2 : ¬ (2 : Int) < ((D2).length : Int) := by omega
        (try simp only [List.length_cons] at hz1 hz2)
        go_enter Tryz.func41, Tryz.ntmps41
        go_wp2_with (first | (go_at_call 60; (with_reducible refine Calls.mono (KP.out _) ?_); rintro r w1 ⟨rfl, hb⟩; replace hB := hB.trans (hb.mono hB.size)) | (go_at_call 63; (with_reducible refine Calls.mono (KB.out _) ?_); rintro r w1 ⟨rfl, hb⟩; replace hB := hB.trans (hb.mono hB.size)) | (go_at_call 78; (with_reducible refine Calls.mono (KG.out _) ?_); rintro r w1 ⟨rfl, hb⟩; replace hB := hB.trans (hb.mono hB.size)) | (go_at_call 76; (with_reducible refine Calls.mono (KW.out _) ?_); rintro r w1 ⟨rfl, hb⟩; replace hB := hB.trans (hb.mono hB.size)) | (go_at_call 77; (with_reducible refine Calls.mono (KR.out _) ?_); rintro r w1 ⟨rfl, hb⟩; replace hB := hB.trans (hb.mono hB.size)))
        all_goals go_ret2
        all_goals first | (rw [resN_neg (by omega), resB_neg (by omega)]; exact ⟨rfl, hB⟩) | (rw [resB_pos (by omega), resN_min (by omega)]; exact ⟨rfl, hB⟩) | (rw [resB_pos (by omega), resN_pos (by omega)]; exact ⟨rfl, hB⟩)
      · have hz1 : ((P.length : Nat) : Int) < ((D2).length : Int) := by omega
        have hz2 : (2 : Int) < ((D2).length : Int) := by omega
        have hz3 : (2 : Int) ≤ ((D2).length : Int) := by omega
        have hz4 := ext_take 2 (D2)
        rw [hQ] at hz4
        have hz5 := ext_drop 2 (D2)
        (try simp only [List.length_cons] at hz1 hz2 hz3 hz5)
        go_enter Tryz.func41, Tryz.ntmps41
        go_wp2_with (first | (go_at_call 60; (with_reducible refine Calls.mono (KP.out _) ?_); rintro r w1 ⟨rfl, hb⟩; replace hB := hB.trans (hb.mono hB.size)) | (go_at_call 63; (with_reducible refine Calls.mono (KB.out _) ?_); rintro r w1 ⟨rfl, hb⟩; replace hB := hB.trans (hb.mono hB.size)) | (go_at_call 78; (with_reducible refine Calls.mono (KG.out _) ?_); rintro r w1 ⟨rfl, hb⟩; replace hB := hB.trans (hb.mono hB.size)) | (go_at_call 76; (with_reducible refine Calls.mono (KW.out _) ?_); rintro r w1 ⟨rfl, hb⟩; replace hB := hB.trans (hb.mono hB.size)) | (go_at_call 77; (with_reducible refine Calls.mono (KR.out _) ?_); rintro r w1 ⟨rfl, hb⟩; replace hB := hB.trans (hb.mono hB.size)))
        all_goals go_ret2
        all_goals first | (rw [resN_neg (by omega), resB_neg (by omega)]; exact ⟨rfl, hB⟩) | (rw [resB_pos (by omega), resN_min (by omega)]; exact ⟨rfl, hB⟩) | (rw [resB_pos (by omega), resN_pos (by omega)]; exact ⟨rfl, hB⟩)
      · have hz1 : ((P.length : Nat) : Int) < ((r0).length : Int) := by omega
        have hz2 : (2 : Int) < ((r0).length : Int) := by omega
        have hz3 : (2 : Int) ≤ ((r0).length : Int) := by omega
        have hz4 := ext_take 2 (r0)
        rw [hQ] at hz4
        have hz5 := ext_drop 2 (r0)
        rw [← e2z] at hz5
        (try simp only [List.length_cons] at hz1 hz2 hz3 hz5)
        clear e2z
        go_enter Tryz.func41, Tryz.ntmps41
        go_wp2_with (first | (go_at_call 60; (with_reducible refine Calls.mono (KP.out _) ?_); rintro r w1 ⟨rfl, hb⟩; replace hB := hB.trans (hb.mono hB.size)) | (go_at_call 63; (with_reducible refine Calls.mono (KB.out _) ?_); rintro r w1 ⟨rfl, hb⟩; replace hB := hB.trans (hb.mono hB.size)) | (go_at_call 78; (with_reducible refine Calls.mono (KG.out _) ?_); rintro r w1 ⟨rfl, hb⟩; replace hB := hB.trans (hb.mono hB.size)) | (go_at_call 76; (with_reducible refine Calls.mono (KW.out _) ?_); rintro r w1 ⟨rfl, hb⟩; replace hB := hB.trans (hb.mono hB.size)) | (go_at_call 77; (with_reducible refine Calls.mono (KR.out _) ?_); rintro r w1 ⟨rfl, hb⟩; replace hB := hB.trans (hb.mono hB.size)))
        all_goals go_ret2
        all_goals first | (rw [resN_neg (by omega), resB_neg (by omega)]; exact ⟨rfl, hB⟩) | (rw [resB_pos (by omega), resN_min (by omega)]; exact ⟨rfl, hB⟩) | (rw [resB_pos (by omega), resN_pos (by omega)]; exact ⟨rfl, hB⟩)
    · rw [if_pos rfl]
      have heq : grp (tyGrp t) [mkC gr] (wo (mkC gr) D2) = D2 := by simpa [ungB] using hu
      rw [heq] at kr
      have kv := fun W => mBn (valueInS_any ⟨(wo (mkC gr) D2).toArray⟩ (tyBase t) (by rw [szX]; omega) (by omega) W)
      generalize hV : valW ⟨(wo (mkC gr) D2).toArray⟩ (tyBase t) = v at *
      have hvm := bnd hV
      generalize wo (mkC gr) D2 = O at *
      generalize mkC gr = c at *
      generalize tyGrp t = g at *
      generalize tyBase t = b at *
      clear hV hv hT hu heq
      have KB := Lib.hid kb; have KP := Lib.hid kp; have KW := Lib.hid kw; have KR := Lib.hid kr; have KG := Lib.hid kg; have KV := Lib.hid kv
      clear kb kp kw kr kg kv
      rcases hpc with ⟨rfl, rfl⟩ | ⟨hPe, hPl, hdd, rfl⟩ | ⟨hPe, hPl, hdd, ⟨Q, hQ, hQP⟩, rfl⟩ | ⟨hPe, hPl, hdd, hQ, e2z⟩
      · go_enter Tryz.func41, Tryz.ntmps41
        go_wp2_with (first | (go_at_call 60; (with_reducible refine Calls.mono (KP.out _) ?_); rintro r w1 ⟨rfl, hb⟩; replace hB := hB.trans (hb.mono hB.size)) | (go_at_call 63; (with_reducible refine Calls.mono (KB.out _) ?_); rintro r w1 ⟨rfl, hb⟩; replace hB := hB.trans (hb.mono hB.size)) | (go_at_call 78; (with_reducible refine Calls.mono (KG.out _) ?_); rintro r w1 ⟨rfl, hb⟩; replace hB := hB.trans (hb.mono hB.size)) | (go_at_call 76; (with_reducible refine Calls.mono (KW.out _) ?_); rintro r w1 ⟨rfl, hb⟩; replace hB := hB.trans (hb.mono hB.size)) | (go_at_call 77; (with_reducible refine Calls.mono (KR.out _) ?_); rintro r w1 ⟨rfl, hb⟩; replace hB := hB.trans (hb.mono hB.size)) | (go_at_call 79; (with_reducible refine Calls.mono (KV.out _) ?_); rintro r w1 ⟨rfl, hb⟩; replace hB := hB.trans (hb.mono hB.size)))
        all_goals go_ret2
        all_goals first | (rw [resN_neg (by omega), resB_neg (by omega)]; exact ⟨rfl, hB⟩) | (rw [resB_pos (by omega), resN_min (by omega)]; exact ⟨rfl, hB⟩) | (rw [resB_pos (by omega), resN_pos (by omega)]; exact ⟨rfl, hB⟩)
      · have hz1 : ¬ ((P.length : Nat) : Int) < ((D2).length : Int) := by omega
        have hz2 : ¬ (2 : Int) < ((D2).length : Int) := by omega
        (try simp only [List.length_cons] at hz1 hz2)
        go_enter Tryz.func41, Tryz.ntmps41
        go_wp2_with (first | (go_at_call 60; (with_reducible refine Calls.mono (KP.out _) ?_); rintro r w1 ⟨rfl, hb⟩; replace hB := hB.trans (hb.mono hB.size)) | (go_at_call 63; (with_reducible refine Calls.mono (KB.out _) ?_); rintro r w1 ⟨rfl, hb⟩; replace hB := hB.trans (hb.mono hB.size)) | (go_at_call 78; (with_reducible refine Calls.mono (KG.out _) ?_); rintro r w1 ⟨rfl, hb⟩; replace hB := hB.trans (hb.mono hB.size)) | (go_at_call 76; (with_reducible refine Calls.mono (KW.out _) ?_); rintro r w1 ⟨rfl, hb⟩; replace hB := hB.trans (hb.mono hB.size)) | (go_at_call 77; (with_reducible refine Calls.mono (KR.out _) ?_); rintro r w1 ⟨rfl, hb⟩; replace hB := hB.trans (hb.mono hB.size)) | (go_at_call 79; (with_reducible refine Calls.mono (KV.out _) ?_); rintro r w1 ⟨rfl, hb⟩; replace hB := hB.trans (hb.mono hB.size)))
        all_goals go_ret2
        all_goals first | (rw [resN_neg (by omega), resB_neg (by omega)]; exact ⟨rfl, hB⟩) | (rw [resB_pos (by omega), resN_min (by omega)]; exact ⟨rfl, hB⟩) | (rw [resB_pos (by omega), resN_pos (by omega)]; exact ⟨rfl, hB⟩)
      · have hz1 : ((P.length : Nat) : Int) < ((D2).length : Int) := by omega
        have hz2 : (2 : Int) < ((D2).length : Int) := by omega
        have hz3 : (2 : Int) ≤ ((D2).length : Int) := by omega
        have hz4 := ext_take 2 (D2)
        rw [hQ] at hz4
        have hz5 := ext_drop 2 (D2)
        (try simp only [List.length_cons] at hz1 hz2 hz3 hz5)
        go_enter Tryz.func41, Tryz.ntmps41
        go_wp2_with (first | (go_at_call 60; (with_reducible refine Calls.mono (KP.out _) ?_); rintro r w1 ⟨rfl, hb⟩; replace hB := hB.trans (hb.mono hB.size)) | (go_at_call 63; (with_reducible refine Calls.mono (KB.out _) ?_); rintro r w1 ⟨rfl, hb⟩; replace hB := hB.trans (hb.mono hB.size)) | (go_at_call 78; (with_reducible refine Calls.mono (KG.out _) ?_); rintro r w1 ⟨rfl, hb⟩; replace hB := hB.trans (hb.mono hB.size)) | (go_at_call 76; (with_reducible refine Calls.mono (KW.out _) ?_); rintro r w1 ⟨rfl, hb⟩; replace hB := hB.trans (hb.mono hB.size)) | (go_at_call 77; (with_reducible refine Calls.mono (KR.out _) ?_); rintro r w1 ⟨rfl, hb⟩; replace hB := hB.trans (hb.mono hB.size)) | (go_at_call 79; (with_reducible refine Calls.mono (KV.out _) ?_); rintro r w1 ⟨rfl, hb⟩; replace hB := hB.trans (hb.mono hB.size)))
        all_goals go_ret2
        all_goals first | (rw [resN_neg (by omega), resB_neg (by omega)]; exact ⟨rfl, hB⟩) | (rw [resB_pos (by omega), resN_min (by omega)]; exact ⟨rfl, hB⟩) | (rw [resB_pos (by omega), resN_pos (by omega)]; exact ⟨rfl, hB⟩)
      · have hz1 : ((P.length : Nat) : Int) < ((r0).length : Int) := by omega
        have hz2 : (2 : Int) < ((r0).length : Int) := by omega
        have hz3 : (2 : Int) ≤ ((r0).length : Int) := by omega
        have hz4 := ext_take 2 (r0)
        rw [hQ] at hz4
        have hz5 := ext_drop 2 (r0)
        rw [← e2z] at hz5
        (try simp only [List.length_cons] at hz1 hz2 hz3 hz5)
        clear e2z
        go_enter Tryz.func41, Tryz.ntmps41
        go_wp2_with (first | (go_at_call 60; (with_reducible refine Calls.mono (KP.out _) ?_); rintro r w1 ⟨rfl, hb⟩; replace hB := hB.trans (hb.mono hB.size)) | (go_at_call 63; (with_reducible refine Calls.mono (KB.out _) ?_); rintro r w1 ⟨rfl, hb⟩; replace hB := hB.trans (hb.mono hB.size)) | (go_at_call 78; (with_reducible refine Calls.mono (KG.out _) ?_); rintro r w1 ⟨rfl, hb⟩; replace hB := hB.trans (hb.mono hB.size)) | (go_at_call 76; (with_reducible refine Calls.mono (KW.out _) ?_); rintro r w1 ⟨rfl, hb⟩; replace hB := hB.trans (hb.mono hB.size)) | (go_at_call 77; (with_reducible refine Calls.mono (KR.out _) ?_); rintro r w1 ⟨rfl, hb⟩; replace hB := hB.trans (hb.mono hB.size)) | (go_at_call 79; (with_reducible refine Calls.mono (KV.out _) ?_); rintro r w1 ⟨rfl, hb⟩; replace hB := hB.trans (hb.mono hB.size)))
        all_goals go_ret2
        all_goals first | (rw [resN_neg (by omega), resB_neg (by omega)]; exact ⟨rfl, hB⟩) | (rw [resB_pos (by omega), resN_min (by omega)]; exact ⟨rfl, hB⟩) | (rw [resB_pos (by omega), resN_pos (by omega)]; exact ⟨rfl, hB⟩)
set_option maxRecDepth 100000 in
set_option maxHeartbeats 16000000 in
theorem readWholeS_43 (l t : List UInt8) (gr : Int) (w : World) (hl : l.length ≤ 80) (hT : TyOk t) (h0 : 0 ≤ gr) (h2 : gr ≤ 2) (r0 : List UInt8) (hc0 : l = 43 :: r0) :
    Calls Tryz.prog 41 #[.string ⟨l.toArray⟩, .string ⟨t.toArray⟩, .string ⟨(mkL gr).toArray⟩] w fun r w' => r = .returned (.tuple #[.int .i64 (resN (grpV gr t (preD (tyPre t) (cutD l))) (cutN l)), .bool (resB (grpV gr t (preD (tyPre t) (cutD l))))]) ∧ Below w.heap.size w w' := by
  subst hc0
  rw [show cutD (43 :: r0) = r0 from rfl, show cutN (43 :: r0) = false from rfl]
  have hy := ext_rest 43 r0
  have hl3 : (1 : Int) ≤ r0.length + 1 := by omega
  have hlr : r0.length ≤ 80 := by simp at hl; omega
  have hx0 : (⟨(43 :: r0).toArray⟩ : ByteArray)[0]'(by show 0 < r0.length + 1; omega) = 43 := rfl
  have kb := fun W => mBn (baseOfS_ok t hT W)
  have kp := fun W => mBn (prefixOfS_ok t hT W)
  have kg := fun W => mBn (groupSizeS_ok t hT W)
  have hbase := hT.base
  have hgrp := hT.grp
  have hpc := pre_cases (D := r0) (tyPre_len hT)
  have hdl : (preD (tyPre t) (r0)).length ≤ 80 := by
    have : (preD (tyPre t) (r0)).length ≤ (r0).length := by
      unfold preD
      split
      · rw [List.length_drop]; omega
      · exact Nat.le_refl _
    (try simp only [List.length_cons] at *)
    (try simp only [List.length_nil] at *)
    omega
  generalize hP : tyPre t = P at *
  generalize hD2 : preD P (r0) = D2 at *
  clear hD2 hP
  have hB := Below.refl w.heap.size w
  by_cases hg : gr = 0
  · subst hg
    have hv : grpV 0 t D2 = valW ⟨D2.toArray⟩ (tyBase t) := if_pos rfl
    rw [hv]
    have kv := fun W => mBn (valueInS_any ⟨D2.toArray⟩ (tyBase t) (by rw [szX]; omega) (by omega) W)
    generalize hV : valW ⟨D2.toArray⟩ (tyBase t) = v at *
    have hvm := bnd hV
    generalize tyBase t = b at *
    clear hV hv kg hT hgrp
    rw [show mkL 0 = [] from rfl]
    have KB := Lib.hid kb; have KP := Lib.hid kp; have KV := Lib.hid kv
    clear kb kp kv
    rcases hpc with ⟨rfl, rfl⟩ | ⟨hPe, hPl, hdd, rfl⟩ | ⟨hPe, hPl, hdd, ⟨Q, hQ, hQP⟩, rfl⟩ | ⟨hPe, hPl, hdd, hQ, e2z⟩
    · go_enter Tryz.func41, Tryz.ntmps41
      go_wp2_with (first | (go_at_call 60; (with_reducible refine Calls.mono (KP.out _) ?_); rintro r w1 ⟨rfl, hb⟩; replace hB := hB.trans (hb.mono hB.size)) | (go_at_call 63; (with_reducible refine Calls.mono (KB.out _) ?_); rintro r w1 ⟨rfl, hb⟩; replace hB := hB.trans (hb.mono hB.size)) | (go_at_call 79; (with_reducible refine Calls.mono (KV.out _) ?_); rintro r w1 ⟨rfl, hb⟩; replace hB := hB.trans (hb.mono hB.size)))
      all_goals go_ret2
      all_goals first | (rw [resN_neg (by omega), resB_neg (by omega)]; exact ⟨rfl, hB⟩) | (rw [resB_pos (by omega), resN_min (by omega)]; exact ⟨rfl, hB⟩) | (rw [resB_pos (by omega), resN_pos (by omega)]; exact ⟨rfl, hB⟩)
    · have hz1 : ¬ ((P.length : Nat) : Int) < ((D2).length : Int) := by omega
      have hz2 : ¬ (2 : Int) < ((D2).length : Int) := by omega
      (try simp only [List.length_cons] at hz1 hz2)
      go_enter Tryz.func41, Tryz.ntmps41
      go_wp2_with (first | (go_at_call 60; (with_reducible refine Calls.mono (KP.out _) ?_); rintro r w1 ⟨rfl, hb⟩; replace hB := hB.trans (hb.mono hB.size)) | (go_at_call 63; (with_reducible refine Calls.mono (KB.out _) ?_); rintro r w1 ⟨rfl, hb⟩; replace hB := hB.trans (hb.mono hB.size)) | (go_at_call 79; (with_reducible refine Calls.mono (KV.out _) ?_); rintro r w1 ⟨rfl, hb⟩; replace hB := hB.trans (hb.mono hB.size)))
      all_goals go_ret2
      all_goals first | (rw [resN_neg (by omega), resB_neg (by omega)]; exact ⟨rfl, hB⟩) | (rw [resB_pos (by omega), resN_min (by omega)]; exact ⟨rfl, hB⟩) | (rw [resB_pos (by omega), resN_pos (by omega)]; exact ⟨rfl, hB⟩)
    · have hz1 : ((P.length : Nat) : Int) < ((D2).length : Int) := by omega
      have hz2 : (2 : Int) < ((D2).length : Int) := by omega
      have hz3 : (2 : Int) ≤ ((D2).length : Int) := by omega
      have hz4 := ext_take 2 (D2)
      rw [hQ] at hz4
      have hz5 := ext_drop 2 (D2)
      (try simp only [List.length_cons] at hz1 hz2 hz3 hz5)
      go_enter Tryz.func41, Tryz.ntmps41
      go_wp2_with (first | (go_at_call 60; (with_reducible refine Calls.mono (KP.out _) ?_); rintro r w1 ⟨rfl, hb⟩; replace hB := hB.trans (hb.mono hB.size)) | (go_at_call 63; (with_reducible refine Calls.mono (KB.out _) ?_); rintro r w1 ⟨rfl, hb⟩; replace hB := hB.trans (hb.mono hB.size)) | (go_at_call 79; (with_reducible refine Calls.mono (KV.out _) ?_); rintro r w1 ⟨rfl, hb⟩; replace hB := hB.trans (hb.mono hB.size)))
      all_goals go_ret2
      all_goals first | (rw [resN_neg (by omega), resB_neg (by omega)]; exact ⟨rfl, hB⟩) | (rw [resB_pos (by omega), resN_min (by omega)]; exact ⟨rfl, hB⟩) | (rw [resB_pos (by omega), resN_pos (by omega)]; exact ⟨rfl, hB⟩)
    · have hz1 : ((P.length : Nat) : Int) < ((r0).length : Int) := by omega
      have hz2 : (2 : Int) < ((r0).length : Int) := by omega
      have hz3 : (2 : Int) ≤ ((r0).length : Int) := by omega
      have hz4 := ext_take 2 (r0)
      rw [hQ] at hz4
      have hz5 := ext_drop 2 (r0)
      rw [← e2z] at hz5
      (try simp only [List.length_cons] at hz1 hz2 hz3 hz5)
      clear e2z
      go_enter Tryz.func41, Tryz.ntmps41
      go_wp2_with (first | (go_at_call 60; (with_reducible refine Calls.mono (KP.out _) ?_); rintro r w1 ⟨rfl, hb⟩; replace hB := hB.trans (hb.mono hB.size)) | (go_at_call 63; (with_reducible refine Calls.mono (KB.out _) ?_); rintro r w1 ⟨rfl, hb⟩; replace hB := hB.trans (hb.mono hB.size)) | (go_at_call 79; (with_reducible refine Calls.mono (KV.out _) ?_); rintro r w1 ⟨rfl, hb⟩; replace hB := hB.trans (hb.mono hB.size)))
      all_goals go_ret2
      all_goals first | (rw [resN_neg (by omega), resB_neg (by omega)]; exact ⟨rfl, hB⟩) | (rw [resB_pos (by omega), resN_min (by omega)]; exact ⟨rfl, hB⟩) | (rw [resB_pos (by omega), resN_pos (by omega)]; exact ⟨rfl, hB⟩)
  · have hv : grpV gr t D2 = if ungB D2 (tyGrp t) (mkC gr) then valW ⟨(wo (mkC gr) D2).toArray⟩ (tyBase t) else -1 := if_neg hg
    rw [hv, mkL_one hg h0 h2]
    have hwl := wo_len (mkC gr) D2
    have kw : ∀ W, Calls Tryz.prog 76 #[.string ⟨D2.toArray⟩, .int .u8 (((⟨[mkC gr].toArray⟩ : ByteArray)[0]'(by show 0 < 1; omega)).toNat : Int)] W fun r w' => r = .returned (.string ⟨(wo (mkC gr) D2).toArray⟩) ∧ Below W.heap.size W w' := fun W => mBn (withoutS_any ⟨D2.toArray⟩ (mkC gr) W (by rw [szX]; omega))
    have kr := fun W => mBn (groupedS_any ⟨(wo (mkC gr) D2).toArray⟩ (tyGrp t) ⟨[mkC gr].toArray⟩ W (by rw [szX]; omega) (by omega) (by omega) (by show 1 ≤ 1; omega))
    rw [show (⟨(wo (mkC gr) D2).toArray⟩ : ByteArray).data.toList = wo (mkC gr) D2 from rfl, show (⟨[mkC gr].toArray⟩ : ByteArray).data.toList = [mkC gr] from rfl] at kr
    cases hu : ungB D2 (tyGrp t) (mkC gr)
    · rw [if_neg (by decide)]
      have hne : (grp (tyGrp t) [mkC gr] (wo (mkC gr) D2) == D2) = false := hu
      generalize grp (tyGrp t) [mkC gr] (wo (mkC gr) D2) = G at *
      generalize wo (mkC gr) D2 = O at *
      generalize mkC gr = c at *
      generalize tyGrp t = g at *
      generalize tyBase t = b at *
      clear hv hT hu
      have KB := Lib.hid kb; have KP := Lib.hid kp; have KW := Lib.hid kw; have KR := Lib.hid kr; have KG := Lib.hid kg
      clear kb kp kw kr kg
      rcases hpc with ⟨rfl, rfl⟩ | ⟨hPe, hPl, hdd, rfl⟩ | ⟨hPe, hPl, hdd, ⟨Q, hQ, hQP⟩, rfl⟩ | ⟨hPe, hPl, hdd, hQ, e2z⟩
      · go_enter Tryz.func41, Tryz.ntmps41
        go_wp2_with (first | (go_at_call 60; (with_reducible refine Calls.mono (KP.out _) ?_); rintro r w1 ⟨rfl, hb⟩; replace hB := hB.trans (hb.mono hB.size)) | (go_at_call 63; (with_reducible refine Calls.mono (KB.out _) ?_); rintro r w1 ⟨rfl, hb⟩; replace hB := hB.trans (hb.mono hB.size)) | (go_at_call 78; (with_reducible refine Calls.mono (KG.out _) ?_); rintro r w1 ⟨rfl, hb⟩; replace hB := hB.trans (hb.mono hB.size)) | (go_at_call 76; (with_reducible refine Calls.mono (KW.out _) ?_); rintro r w1 ⟨rfl, hb⟩; replace hB := hB.trans (hb.mono hB.size)) | (go_at_call 77; (with_reducible refine Calls.mono (KR.out _) ?_); rintro r w1 ⟨rfl, hb⟩; replace hB := hB.trans (hb.mono hB.size)))
        all_goals go_ret2
        all_goals first | (rw [resN_neg (by omega), resB_neg (by omega)]; exact ⟨rfl, hB⟩) | (rw [resB_pos (by omega), resN_min (by omega)]; exact ⟨rfl, hB⟩) | (rw [resB_pos (by omega), resN_pos (by omega)]; exact ⟨rfl, hB⟩)
      · have hz1 : ¬ ((P.length : Nat) : Int) < ((D2).length : Int) := by omega
        have hz2 : ¬ (2 : Int) < ((D2).length : Int) := by omega
        (try simp only [List.length_cons] at hz1 hz2)
        go_enter Tryz.func41, Tryz.ntmps41
        go_wp2_with (first | (go_at_call 60; (with_reducible refine Calls.mono (KP.out _) ?_); rintro r w1 ⟨rfl, hb⟩; replace hB := hB.trans (hb.mono hB.size)) | (go_at_call 63; (with_reducible refine Calls.mono (KB.out _) ?_); rintro r w1 ⟨rfl, hb⟩; replace hB := hB.trans (hb.mono hB.size)) | (go_at_call 78; (with_reducible refine Calls.mono (KG.out _) ?_); rintro r w1 ⟨rfl, hb⟩; replace hB := hB.trans (hb.mono hB.size)) | (go_at_call 76; (with_reducible refine Calls.mono (KW.out _) ?_); rintro r w1 ⟨rfl, hb⟩; replace hB := hB.trans (hb.mono hB.size)) | (go_at_call 77; (with_reducible refine Calls.mono (KR.out _) ?_); rintro r w1 ⟨rfl, hb⟩; replace hB := hB.trans (hb.mono hB.size)))
        all_goals go_ret2
        all_goals first | (rw [resN_neg (by omega), resB_neg (by omega)]; exact ⟨rfl, hB⟩) | (rw [resB_pos (by omega), resN_min (by omega)]; exact ⟨rfl, hB⟩) | (rw [resB_pos (by omega), resN_pos (by omega)]; exact ⟨rfl, hB⟩)
      · have hz1 : ((P.length : Nat) : Int) < ((D2).length : Int) := by omega
        have hz2 : (2 : Int) < ((D2).length : Int) := by omega
        have hz3 : (2 : Int) ≤ ((D2).length : Int) := by omega
        have hz4 := ext_take 2 (D2)
        rw [hQ] at hz4
        have hz5 := ext_drop 2 (D2)
        (try simp only [List.length_cons] at hz1 hz2 hz3 hz5)
        go_enter Tryz.func41, Tryz.ntmps41
        go_wp2_with (first | (go_at_call 60; (with_reducible refine Calls.mono (KP.out _) ?_); rintro r w1 ⟨rfl, hb⟩; replace hB := hB.trans (hb.mono hB.size)) | (go_at_call 63; (with_reducible refine Calls.mono (KB.out _) ?_); rintro r w1 ⟨rfl, hb⟩; replace hB := hB.trans (hb.mono hB.size)) | (go_at_call 78; (with_reducible refine Calls.mono (KG.out _) ?_); rintro r w1 ⟨rfl, hb⟩; replace hB := hB.trans (hb.mono hB.size)) | (go_at_call 76; (with_reducible refine Calls.mono (KW.out _) ?_); rintro r w1 ⟨rfl, hb⟩; replace hB := hB.trans (hb.mono hB.size)) | (go_at_call 77; (with_reducible refine Calls.mono (KR.out _) ?_); rintro r w1 ⟨rfl, hb⟩; replace hB := hB.trans (hb.mono hB.size)))
        all_goals go_ret2
        all_goals first | (rw [resN_neg (by omega), resB_neg (by omega)]; exact ⟨rfl, hB⟩) | (rw [resB_pos (by omega), resN_min (by omega)]; exact ⟨rfl, hB⟩) | (rw [resB_pos (by omega), resN_pos (by omega)]; exact ⟨rfl, hB⟩)
      · have hz1 : ((P.length : Nat) : Int) < ((r0).length : Int) := by omega
        have hz2 : (2 : Int) < ((r0).length : Int) := by omega
        have hz3 : (2 : Int) ≤ ((r0).length : Int) := by omega
        have hz4 := ext_take 2 (r0)
        rw [hQ] at hz4
        have hz5 := ext_drop 2 (r0)
        rw [← e2z] at hz5
        (try simp only [List.length_cons] at hz1 hz2 hz3 hz5)
        clear e2z
        go_enter Tryz.func41, Tryz.ntmps41
        go_wp2_with (first | (go_at_call 60; (with_reducible refine Calls.mono (KP.out _) ?_); rintro r w1 ⟨rfl, hb⟩; replace hB := hB.trans (hb.mono hB.size)) | (go_at_call 63; (with_reducible refine Calls.mono (KB.out _) ?_); rintro r w1 ⟨rfl, hb⟩; replace hB := hB.trans (hb.mono hB.size)) | (go_at_call 78; (with_reducible refine Calls.mono (KG.out _) ?_); rintro r w1 ⟨rfl, hb⟩; replace hB := hB.trans (hb.mono hB.size)) | (go_at_call 76; (with_reducible refine Calls.mono (KW.out _) ?_); rintro r w1 ⟨rfl, hb⟩; replace hB := hB.trans (hb.mono hB.size)) | (go_at_call 77; (with_reducible refine Calls.mono (KR.out _) ?_); rintro r w1 ⟨rfl, hb⟩; replace hB := hB.trans (hb.mono hB.size)))
        all_goals go_ret2
        all_goals first | (rw [resN_neg (by omega), resB_neg (by omega)]; exact ⟨rfl, hB⟩) | (rw [resB_pos (by omega), resN_min (by omega)]; exact ⟨rfl, hB⟩) | (rw [resB_pos (by omega), resN_pos (by omega)]; exact ⟨rfl, hB⟩)
    · rw [if_pos rfl]
      have heq : grp (tyGrp t) [mkC gr] (wo (mkC gr) D2) = D2 := by simpa [ungB] using hu
      rw [heq] at kr
      have kv := fun W => mBn (valueInS_any ⟨(wo (mkC gr) D2).toArray⟩ (tyBase t) (by rw [szX]; omega) (by omega) W)
      generalize hV : valW ⟨(wo (mkC gr) D2).toArray⟩ (tyBase t) = v at *
      have hvm := bnd hV
      generalize wo (mkC gr) D2 = O at *
      generalize mkC gr = c at *
      generalize tyGrp t = g at *
      generalize tyBase t = b at *
      clear hV hv hT hu heq
      have KB := Lib.hid kb; have KP := Lib.hid kp; have KW := Lib.hid kw; have KR := Lib.hid kr; have KG := Lib.hid kg; have KV := Lib.hid kv
      clear kb kp kw kr kg kv
      rcases hpc with ⟨rfl, rfl⟩ | ⟨hPe, hPl, hdd, rfl⟩ | ⟨hPe, hPl, hdd, ⟨Q, hQ, hQP⟩, rfl⟩ | ⟨hPe, hPl, hdd, hQ, e2z⟩
      · go_enter Tryz.func41, Tryz.ntmps41
        go_wp2_with (first | (go_at_call 60; (with_reducible refine Calls.mono (KP.out _) ?_); rintro r w1 ⟨rfl, hb⟩; replace hB := hB.trans (hb.mono hB.size)) | (go_at_call 63; (with_reducible refine Calls.mono (KB.out _) ?_); rintro r w1 ⟨rfl, hb⟩; replace hB := hB.trans (hb.mono hB.size)) | (go_at_call 78; (with_reducible refine Calls.mono (KG.out _) ?_); rintro r w1 ⟨rfl, hb⟩; replace hB := hB.trans (hb.mono hB.size)) | (go_at_call 76; (with_reducible refine Calls.mono (KW.out _) ?_); rintro r w1 ⟨rfl, hb⟩; replace hB := hB.trans (hb.mono hB.size)) | (go_at_call 77; (with_reducible refine Calls.mono (KR.out _) ?_); rintro r w1 ⟨rfl, hb⟩; replace hB := hB.trans (hb.mono hB.size)) | (go_at_call 79; (with_reducible refine Calls.mono (KV.out _) ?_); rintro r w1 ⟨rfl, hb⟩; replace hB := hB.trans (hb.mono hB.size)))
        all_goals go_ret2
        all_goals first | (rw [resN_neg (by omega), resB_neg (by omega)]; exact ⟨rfl, hB⟩) | (rw [resB_pos (by omega), resN_min (by omega)]; exact ⟨rfl, hB⟩) | (rw [resB_pos (by omega), resN_pos (by omega)]; exact ⟨rfl, hB⟩)
      · have hz1 : ¬ ((P.length : Nat) : Int) < ((D2).length : Int) := by omega
        have hz2 : ¬ (2 : Int) < ((D2).length : Int) := by omega
        (try simp only [List.length_cons] at hz1 hz2)
        go_enter Tryz.func41, Tryz.ntmps41
        go_wp2_with (first | (go_at_call 60; (with_reducible refine Calls.mono (KP.out _) ?_); rintro r w1 ⟨rfl, hb⟩; replace hB := hB.trans (hb.mono hB.size)) | (go_at_call 63; (with_reducible refine Calls.mono (KB.out _) ?_); rintro r w1 ⟨rfl, hb⟩; replace hB := hB.trans (hb.mono hB.size)) | (go_at_call 78; (with_reducible refine Calls.mono (KG.out _) ?_); rintro r w1 ⟨rfl, hb⟩; replace hB := hB.trans (hb.mono hB.size)) | (go_at_call 76; (with_reducible refine Calls.mono (KW.out _) ?_); rintro r w1 ⟨rfl, hb⟩; replace hB := hB.trans (hb.mono hB.size)) | (go_at_call 77; (with_reducible refine Calls.mono (KR.out _) ?_); rintro r w1 ⟨rfl, hb⟩; replace hB := hB.trans (hb.mono hB.size)) | (go_at_call 79; (with_reducible refine Calls.mono (KV.out _) ?_); rintro r w1 ⟨rfl, hb⟩; replace hB := hB.trans (hb.mono hB.size)))
        all_goals go_ret2
        all_goals first | (rw [resN_neg (by omega), resB_neg (by omega)]; exact ⟨rfl, hB⟩) | (rw [resB_pos (by omega), resN_min (by omega)]; exact ⟨rfl, hB⟩) | (rw [resB_pos (by omega), resN_pos (by omega)]; exact ⟨rfl, hB⟩)
      · have hz1 : ((P.length : Nat) : Int) < ((D2).length : Int) := by omega
        have hz2 : (2 : Int) < ((D2).length : Int) := by omega
        have hz3 : (2 : Int) ≤ ((D2).length : Int) := by omega
        have hz4 := ext_take 2 (D2)
        rw [hQ] at hz4
        have hz5 := ext_drop 2 (D2)
        (try simp only [List.length_cons] at hz1 hz2 hz3 hz5)
        go_enter Tryz.func41, Tryz.ntmps41
        go_wp2_with (first | (go_at_call 60; (with_reducible refine Calls.mono (KP.out _) ?_); rintro r w1 ⟨rfl, hb⟩; replace hB := hB.trans (hb.mono hB.size)) | (go_at_call 63; (with_reducible refine Calls.mono (KB.out _) ?_); rintro r w1 ⟨rfl, hb⟩; replace hB := hB.trans (hb.mono hB.size)) | (go_at_call 78; (with_reducible refine Calls.mono (KG.out _) ?_); rintro r w1 ⟨rfl, hb⟩; replace hB := hB.trans (hb.mono hB.size)) | (go_at_call 76; (with_reducible refine Calls.mono (KW.out _) ?_); rintro r w1 ⟨rfl, hb⟩; replace hB := hB.trans (hb.mono hB.size)) | (go_at_call 77; (with_reducible refine Calls.mono (KR.out _) ?_); rintro r w1 ⟨rfl, hb⟩; replace hB := hB.trans (hb.mono hB.size)) | (go_at_call 79; (with_reducible refine Calls.mono (KV.out _) ?_); rintro r w1 ⟨rfl, hb⟩; replace hB := hB.trans (hb.mono hB.size)))
        all_goals go_ret2
        all_goals first | (rw [resN_neg (by omega), resB_neg (by omega)]; exact ⟨rfl, hB⟩) | (rw [resB_pos (by omega), resN_min (by omega)]; exact ⟨rfl, hB⟩) | (rw [resB_pos (by omega), resN_pos (by omega)]; exact ⟨rfl, hB⟩)
      · have hz1 : ((P.length : Nat) : Int) < ((r0).length : Int) := by omega
        have hz2 : (2 : Int) < ((r0).length : Int) := by omega
        have hz3 : (2 : Int) ≤ ((r0).length : Int) := by omega
        have hz4 := ext_take 2 (r0)
        rw [hQ] at hz4
        have hz5 := ext_drop 2 (r0)
        rw [← e2z] at hz5
        (try simp only [List.length_cons] at hz1 hz2 hz3 hz5)
        clear e2z
        go_enter Tryz.func41, Tryz.ntmps41
        go_wp2_with (first | (go_at_call 60; (with_reducible refine Calls.mono (KP.out _) ?_); rintro r w1 ⟨rfl, hb⟩; replace hB := hB.trans (hb.mono hB.size)) | (go_at_call 63; (with_reducible refine Calls.mono (KB.out _) ?_); rintro r w1 ⟨rfl, hb⟩; replace hB := hB.trans (hb.mono hB.size)) | (go_at_call 78; (with_reducible refine Calls.mono (KG.out _) ?_); rintro r w1 ⟨rfl, hb⟩; replace hB := hB.trans (hb.mono hB.size)) | (go_at_call 76; (with_reducible refine Calls.mono (KW.out _) ?_); rintro r w1 ⟨rfl, hb⟩; replace hB := hB.trans (hb.mono hB.size)) | (go_at_call 77; (with_reducible refine Calls.mono (KR.out _) ?_); rintro r w1 ⟨rfl, hb⟩; replace hB := hB.trans (hb.mono hB.size)) | (go_at_call 79; (with_reducible refine Calls.mono (KV.out _) ?_); rintro r w1 ⟨rfl, hb⟩; replace hB := hB.trans (hb.mono hB.size)))
        all_goals go_ret2
        all_goals first | (rw [resN_neg (by omega), resB_neg (by omega)]; exact ⟨rfl, hB⟩) | (rw [resB_pos (by omega), resN_min (by omega)]; exact ⟨rfl, hB⟩) | (rw [resB_pos (by omega), resN_pos (by omega)]; exact ⟨rfl, hB⟩)
end Go.Proofs.YtcbpocpkfmbaoaaGreatDoor
namespace Go.Proofs.YtcbpocpkfmbaoaaGreatDoor
open Go.RowKit
set_option maxRecDepth 100000 in
set_option maxHeartbeats 16000000 in
theorem readWholeS_32 (l t : List UInt8) (gr : Int) (w : World) (hl : l.length ≤ 80) (hT : TyOk t) (h0 : 0 ≤ gr) (h2 : gr ≤ 2) (r0 : List UInt8) (hc0 : l = 32 :: r0) :
    Calls Tryz.prog 41 #[.string ⟨l.toArray⟩, .string ⟨t.toArray⟩, .string ⟨(mkL gr).toArray⟩] w fun r w' => r = .returned (.tuple #[.int .i64 (resN (grpV gr t (preD (tyPre t) (cutD l))) (cutN l)), .bool (resB (grpV gr t (preD (tyPre t) (cutD l))))]) ∧ Below w.heap.size w w' := by
  subst hc0
  rw [show cutD (32 :: r0) = r0 from rfl, show cutN (32 :: r0) = false from rfl]
  have hy := ext_rest 32 r0
  have hl3 : (1 : Int) ≤ r0.length + 1 := by omega
  have hlr : r0.length ≤ 80 := by simp at hl; omega
  have hx0 : (⟨(32 :: r0).toArray⟩ : ByteArray)[0]'(by show 0 < r0.length + 1; omega) = 32 := rfl
  have kb := fun W => mBn (baseOfS_ok t hT W)
  have kp := fun W => mBn (prefixOfS_ok t hT W)
  have kg := fun W => mBn (groupSizeS_ok t hT W)
  have hbase := hT.base
  have hgrp := hT.grp
  have hpc := pre_cases (D := r0) (tyPre_len hT)
  have hdl : (preD (tyPre t) (r0)).length ≤ 80 := by
    have : (preD (tyPre t) (r0)).length ≤ (r0).length := by
      unfold preD
      split
      · rw [List.length_drop]; omega
      · exact Nat.le_refl _
    (try simp only [List.length_cons] at *)
    (try simp only [List.length_nil] at *)
    omega
  generalize hP : tyPre t = P at *
  generalize hD2 : preD P (r0) = D2 at *
  clear hD2 hP
  have hB := Below.refl w.heap.size w
  by_cases hg : gr = 0
  · subst hg
    have hv : grpV 0 t D2 = valW ⟨D2.toArray⟩ (tyBase t) := if_pos rfl
    rw [hv]
    have kv := fun W => mBn (valueInS_any ⟨D2.toArray⟩ (tyBase t) (by rw [szX]; omega) (by omega) W)
    generalize hV : valW ⟨D2.toArray⟩ (tyBase t) = v at *
    have hvm := bnd hV
    generalize tyBase t = b at *
    clear hV hv kg hT hgrp
    rw [show mkL 0 = [] from rfl]
    have KB := Lib.hid kb; have KP := Lib.hid kp; have KV := Lib.hid kv
    clear kb kp kv
    rcases hpc with ⟨rfl, rfl⟩ | ⟨hPe, hPl, hdd, rfl⟩ | ⟨hPe, hPl, hdd, ⟨Q, hQ, hQP⟩, rfl⟩ | ⟨hPe, hPl, hdd, hQ, e2z⟩
    · go_enter Tryz.func41, Tryz.ntmps41
      go_wp2_with (first | (go_at_call 60; (with_reducible refine Calls.mono (KP.out _) ?_); rintro r w1 ⟨rfl, hb⟩; replace hB := hB.trans (hb.mono hB.size)) | (go_at_call 63; (with_reducible refine Calls.mono (KB.out _) ?_); rintro r w1 ⟨rfl, hb⟩; replace hB := hB.trans (hb.mono hB.size)) | (go_at_call 79; (with_reducible refine Calls.mono (KV.out _) ?_); rintro r w1 ⟨rfl, hb⟩; replace hB := hB.trans (hb.mono hB.size)))
      all_goals go_ret2
      all_goals first | (rw [resN_neg (by omega), resB_neg (by omega)]; exact ⟨rfl, hB⟩) | (rw [resB_pos (by omega), resN_min (by omega)]; exact ⟨rfl, hB⟩) | (rw [resB_pos (by omega), resN_pos (by omega)]; exact ⟨rfl, hB⟩)
    · have hz1 : ¬ ((P.length : Nat) : Int) < ((D2).length : Int) := by omega
      have hz2 : ¬ (2 : Int) < ((D2).length : Int) := by omega
      (try simp only [List.length_cons] at hz1 hz2)
      go_enter Tryz.func41, Tryz.ntmps41
      go_wp2_with (first | (go_at_call 60; (with_reducible refine Calls.mono (KP.out _) ?_); rintro r w1 ⟨rfl, hb⟩; replace hB := hB.trans (hb.mono hB.size)) | (go_at_call 63; (with_reducible refine Calls.mono (KB.out _) ?_); rintro r w1 ⟨rfl, hb⟩; replace hB := hB.trans (hb.mono hB.size)) | (go_at_call 79; (with_reducible refine Calls.mono (KV.out _) ?_); rintro r w1 ⟨rfl, hb⟩; replace hB := hB.trans (hb.mono hB.size)))
      all_goals go_ret2
      all_goals first | (rw [resN_neg (by omega), resB_neg (by omega)]; exact ⟨rfl, hB⟩) | (rw [resB_pos (by omega), resN_min (by omega)]; exact ⟨rfl, hB⟩) | (rw [resB_pos (by omega), resN_pos (by omega)]; exact ⟨rfl, hB⟩)
    · have hz1 : ((P.length : Nat) : Int) < ((D2).length : Int) := by omega
      have hz2 : (2 : Int) < ((D2).length : Int) := by omega
      have hz3 : (2 : Int) ≤ ((D2).length : Int) := by omega
      have hz4 := ext_take 2 (D2)
      rw [hQ] at hz4
      have hz5 := ext_drop 2 (D2)
      (try simp only [List.length_cons] at hz1 hz2 hz3 hz5)
      go_enter Tryz.func41, Tryz.ntmps41
      go_wp2_with (first | (go_at_call 60; (with_reducible refine Calls.mono (KP.out _) ?_); rintro r w1 ⟨rfl, hb⟩; replace hB := hB.trans (hb.mono hB.size)) | (go_at_call 63; (with_reducible refine Calls.mono (KB.out _) ?_); rintro r w1 ⟨rfl, hb⟩; replace hB := hB.trans (hb.mono hB.size)) | (go_at_call 79; (with_reducible refine Calls.mono (KV.out _) ?_); rintro r w1 ⟨rfl, hb⟩; replace hB := hB.trans (hb.mono hB.size)))
      all_goals go_ret2
      all_goals first | (rw [resN_neg (by omega), resB_neg (by omega)]; exact ⟨rfl, hB⟩) | (rw [resB_pos (by omega), resN_min (by omega)]; exact ⟨rfl, hB⟩) | (rw [resB_pos (by omega), resN_pos (by omega)]; exact ⟨rfl, hB⟩)
    · have hz1 : ((P.length : Nat) : Int) < ((r0).length : Int) := by omega
      have hz2 : (2 : Int) < ((r0).length : Int) := by omega
      have hz3 : (2 : Int) ≤ ((r0).length : Int) := by omega
      have hz4 := ext_take 2 (r0)
      rw [hQ] at hz4
      have hz5 := ext_drop 2 (r0)
      rw [← e2z] at hz5
      (try simp only [List.length_cons] at hz1 hz2 hz3 hz5)
      clear e2z
      go_enter Tryz.func41, Tryz.ntmps41
      go_wp2_with (first | (go_at_call 60; (with_reducible refine Calls.mono (KP.out _) ?_); rintro r w1 ⟨rfl, hb⟩; replace hB := hB.trans (hb.mono hB.size)) | (go_at_call 63; (with_reducible refine Calls.mono (KB.out _) ?_); rintro r w1 ⟨rfl, hb⟩; replace hB := hB.trans (hb.mono hB.size)) | (go_at_call 79; (with_reducible refine Calls.mono (KV.out _) ?_); rintro r w1 ⟨rfl, hb⟩; replace hB := hB.trans (hb.mono hB.size)))
      all_goals go_ret2
      all_goals first | (rw [resN_neg (by omega), resB_neg (by omega)]; exact ⟨rfl, hB⟩) | (rw [resB_pos (by omega), resN_min (by omega)]; exact ⟨rfl, hB⟩) | (rw [resB_pos (by omega), resN_pos (by omega)]; exact ⟨rfl, hB⟩)
  · have hv : grpV gr t D2 = if ungB D2 (tyGrp t) (mkC gr) then valW ⟨(wo (mkC gr) D2).toArray⟩ (tyBase t) else -1 := if_neg hg
    rw [hv, mkL_one hg h0 h2]
    have hwl := wo_len (mkC gr) D2
    have kw : ∀ W, Calls Tryz.prog 76 #[.string ⟨D2.toArray⟩, .int .u8 (((⟨[mkC gr].toArray⟩ : ByteArray)[0]'(by show 0 < 1; omega)).toNat : Int)] W fun r w' => r = .returned (.string ⟨(wo (mkC gr) D2).toArray⟩) ∧ Below W.heap.size W w' := fun W => mBn (withoutS_any ⟨D2.toArray⟩ (mkC gr) W (by rw [szX]; omega))
    have kr := fun W => mBn (groupedS_any ⟨(wo (mkC gr) D2).toArray⟩ (tyGrp t) ⟨[mkC gr].toArray⟩ W (by rw [szX]; omega) (by omega) (by omega) (by show 1 ≤ 1; omega))
    rw [show (⟨(wo (mkC gr) D2).toArray⟩ : ByteArray).data.toList = wo (mkC gr) D2 from rfl, show (⟨[mkC gr].toArray⟩ : ByteArray).data.toList = [mkC gr] from rfl] at kr
    cases hu : ungB D2 (tyGrp t) (mkC gr)
    · rw [if_neg (by decide)]
      have hne : (grp (tyGrp t) [mkC gr] (wo (mkC gr) D2) == D2) = false := hu
      generalize grp (tyGrp t) [mkC gr] (wo (mkC gr) D2) = G at *
      generalize wo (mkC gr) D2 = O at *
      generalize mkC gr = c at *
      generalize tyGrp t = g at *
      generalize tyBase t = b at *
      clear hv hT hu
      have KB := Lib.hid kb; have KP := Lib.hid kp; have KW := Lib.hid kw; have KR := Lib.hid kr; have KG := Lib.hid kg
      clear kb kp kw kr kg
      rcases hpc with ⟨rfl, rfl⟩ | ⟨hPe, hPl, hdd, rfl⟩ | ⟨hPe, hPl, hdd, ⟨Q, hQ, hQP⟩, rfl⟩ | ⟨hPe, hPl, hdd, hQ, e2z⟩
      · go_enter Tryz.func41, Tryz.ntmps41
        go_wp2_with (first | (go_at_call 60; (with_reducible refine Calls.mono (KP.out _) ?_); rintro r w1 ⟨rfl, hb⟩; replace hB := hB.trans (hb.mono hB.size)) | (go_at_call 63; (with_reducible refine Calls.mono (KB.out _) ?_); rintro r w1 ⟨rfl, hb⟩; replace hB := hB.trans (hb.mono hB.size)) | (go_at_call 78; (with_reducible refine Calls.mono (KG.out _) ?_); rintro r w1 ⟨rfl, hb⟩; replace hB := hB.trans (hb.mono hB.size)) | (go_at_call 76; (with_reducible refine Calls.mono (KW.out _) ?_); rintro r w1 ⟨rfl, hb⟩; replace hB := hB.trans (hb.mono hB.size)) | (go_at_call 77; (with_reducible refine Calls.mono (KR.out _) ?_); rintro r w1 ⟨rfl, hb⟩; replace hB := hB.trans (hb.mono hB.size)))
        all_goals go_ret2
        all_goals first | (rw [resN_neg (by omega), resB_neg (by omega)]; exact ⟨rfl, hB⟩) | (rw [resB_pos (by omega), resN_min (by omega)]; exact ⟨rfl, hB⟩) | (rw [resB_pos (by omega), resN_pos (by omega)]; exact ⟨rfl, hB⟩)
      · have hz1 : ¬ ((P.length : Nat) : Int) < ((D2).length : Int) := by omega
        have hz2 : ¬ (2 : Int) < ((D2).length : Int) := by omega
        (try simp only [List.length_cons] at hz1 hz2)
        go_enter Tryz.func41, Tryz.ntmps41
        go_wp2_with (first | (go_at_call 60; (with_reducible refine Calls.mono (KP.out _) ?_); rintro r w1 ⟨rfl, hb⟩; replace hB := hB.trans (hb.mono hB.size)) | (go_at_call 63; (with_reducible refine Calls.mono (KB.out _) ?_); rintro r w1 ⟨rfl, hb⟩; replace hB := hB.trans (hb.mono hB.size)) | (go_at_call 78; (with_reducible refine Calls.mono (KG.out _) ?_); rintro r w1 ⟨rfl, hb⟩; replace hB := hB.trans (hb.mono hB.size)) | (go_at_call 76; (with_reducible refine Calls.mono (KW.out _) ?_); rintro r w1 ⟨rfl, hb⟩; replace hB := hB.trans (hb.mono hB.size)) | (go_at_call 77; (with_reducible refine Calls.mono (KR.out _) ?_); rintro r w1 ⟨rfl, hb⟩; replace hB := hB.trans (hb.mono hB.size)))
        all_goals go_ret2
        all_goals first | (rw [resN_neg (by omega), resB_neg (by omega)]; exact ⟨rfl, hB⟩) | (rw [resB_pos (by omega), resN_min (by omega)]; exact ⟨rfl, hB⟩) | (rw [resB_pos (by omega), resN_pos (by omega)]; exact ⟨rfl, hB⟩)
      · have hz1 : ((P.length : Nat) : Int) < ((D2).length : Int) := by omega
        have hz2 : (2 : Int) < ((D2).length : Int) := by omega
        have hz3 : (2 : Int) ≤ ((D2).length : Int) := by omega
        have hz4 := ext_take 2 (D2)
        rw [hQ] at hz4
        have hz5 := ext_drop 2 (D2)
        (try simp only [List.length_cons] at hz1 hz2 hz3 hz5)
        go_enter Tryz.func41, Tryz.ntmps41
        go_wp2_with (first | (go_at_call 60; (with_reducible refine Calls.mono (KP.out _) ?_); rintro r w1 ⟨rfl, hb⟩; replace hB := hB.trans (hb.mono hB.size)) | (go_at_call 63; (with_reducible refine Calls.mono (KB.out _) ?_); rintro r w1 ⟨rfl, hb⟩; replace hB := hB.trans (hb.mono hB.size)) | (go_at_call 78; (with_reducible refine Calls.mono (KG.out _) ?_); rintro r w1 ⟨rfl, hb⟩; replace hB := hB.trans (hb.mono hB.size)) | (go_at_call 76; (with_reducible refine Calls.mono (KW.out _) ?_); rintro r w1 ⟨rfl, hb⟩; replace hB := hB.trans (hb.mono hB.size)) | (go_at_call 77; (with_reducible refine Calls.mono (KR.out _) ?_); rintro r w1 ⟨rfl, hb⟩; replace hB := hB.trans (hb.mono hB.size)))
        all_goals go_ret2
        all_goals first | (rw [resN_neg (by omega), resB_neg (by omega)]; exact ⟨rfl, hB⟩) | (rw [resB_pos (by omega), resN_min (by omega)]; exact ⟨rfl, hB⟩) | (rw [resB_pos (by omega), resN_pos (by omega)]; exact ⟨rfl, hB⟩)
      · have hz1 : ((P.length : Nat) : Int) < ((r0).length : Int) := by omega
        have hz2 : (2 : Int) < ((r0).length : Int) := by omega
        have hz3 : (2 : Int) ≤ ((r0).length : Int) := by omega
        have hz4 := ext_take 2 (r0)
        rw [hQ] at hz4
        have hz5 := ext_drop 2 (r0)
        rw [← e2z] at hz5
        (try simp only [List.length_cons] at hz1 hz2 hz3 hz5)
        clear e2z
        go_enter Tryz.func41, Tryz.ntmps41
        go_wp2_with (first | (go_at_call 60; (with_reducible refine Calls.mono (KP.out _) ?_); rintro r w1 ⟨rfl, hb⟩; replace hB := hB.trans (hb.mono hB.size)) | (go_at_call 63; (with_reducible refine Calls.mono (KB.out _) ?_); rintro r w1 ⟨rfl, hb⟩; replace hB := hB.trans (hb.mono hB.size)) | (go_at_call 78; (with_reducible refine Calls.mono (KG.out _) ?_); rintro r w1 ⟨rfl, hb⟩; replace hB := hB.trans (hb.mono hB.size)) | (go_at_call 76; (with_reducible refine Calls.mono (KW.out _) ?_); rintro r w1 ⟨rfl, hb⟩; replace hB := hB.trans (hb.mono hB.size)) | (go_at_call 77; (with_reducible refine Calls.mono (KR.out _) ?_); rintro r w1 ⟨rfl, hb⟩; replace hB := hB.trans (hb.mono hB.size)))
        all_goals go_ret2
        all_goals first | (rw [resN_neg (by omega), resB_neg (by omega)]; exact ⟨rfl, hB⟩) | (rw [resB_pos (by omega), resN_min (by omega)]; exact ⟨rfl, hB⟩) | (rw [resB_pos (by omega), resN_pos (by omega)]; exact ⟨rfl, hB⟩)
    · rw [if_pos rfl]
      have heq : grp (tyGrp t) [mkC gr] (wo (mkC gr) D2) = D2 := by simpa [ungB] using hu
      rw [heq] at kr
      have kv := fun W => mBn (valueInS_any ⟨(wo (mkC gr) D2).toArray⟩ (tyBase t) (by rw [szX]; omega) (by omega) W)
      generalize hV : valW ⟨(wo (mkC gr) D2).toArray⟩ (tyBase t) = v at *
      have hvm := bnd hV
      generalize wo (mkC gr) D2 = O at *
      generalize mkC gr = c at *
      generalize tyGrp t = g at *
      generalize tyBase t = b at *
      clear hV hv hT hu heq
      have KB := Lib.hid kb; have KP := Lib.hid kp; have KW := Lib.hid kw; have KR := Lib.hid kr; have KG := Lib.hid kg; have KV := Lib.hid kv
      clear kb kp kw kr kg kv
      rcases hpc with ⟨rfl, rfl⟩ | ⟨hPe, hPl, hdd, rfl⟩ | ⟨hPe, hPl, hdd, ⟨Q, hQ, hQP⟩, rfl⟩ | ⟨hPe, hPl, hdd, hQ, e2z⟩
      · go_enter Tryz.func41, Tryz.ntmps41
        go_wp2_with (first | (go_at_call 60; (with_reducible refine Calls.mono (KP.out _) ?_); rintro r w1 ⟨rfl, hb⟩; replace hB := hB.trans (hb.mono hB.size)) | (go_at_call 63; (with_reducible refine Calls.mono (KB.out _) ?_); rintro r w1 ⟨rfl, hb⟩; replace hB := hB.trans (hb.mono hB.size)) | (go_at_call 78; (with_reducible refine Calls.mono (KG.out _) ?_); rintro r w1 ⟨rfl, hb⟩; replace hB := hB.trans (hb.mono hB.size)) | (go_at_call 76; (with_reducible refine Calls.mono (KW.out _) ?_); rintro r w1 ⟨rfl, hb⟩; replace hB := hB.trans (hb.mono hB.size)) | (go_at_call 77; (with_reducible refine Calls.mono (KR.out _) ?_); rintro r w1 ⟨rfl, hb⟩; replace hB := hB.trans (hb.mono hB.size)) | (go_at_call 79; (with_reducible refine Calls.mono (KV.out _) ?_); rintro r w1 ⟨rfl, hb⟩; replace hB := hB.trans (hb.mono hB.size)))
        all_goals go_ret2
        all_goals first | (rw [resN_neg (by omega), resB_neg (by omega)]; exact ⟨rfl, hB⟩) | (rw [resB_pos (by omega), resN_min (by omega)]; exact ⟨rfl, hB⟩) | (rw [resB_pos (by omega), resN_pos (by omega)]; exact ⟨rfl, hB⟩)
      · have hz1 : ¬ ((P.length : Nat) : Int) < ((D2).length : Int) := by omega
        have hz2 : ¬ (2 : Int) < ((D2).length : Int) := by omega
        (try simp only [List.length_cons] at hz1 hz2)
        go_enter Tryz.func41, Tryz.ntmps41
        go_wp2_with (first | (go_at_call 60; (with_reducible refine Calls.mono (KP.out _) ?_); rintro r w1 ⟨rfl, hb⟩; replace hB := hB.trans (hb.mono hB.size)) | (go_at_call 63; (with_reducible refine Calls.mono (KB.out _) ?_); rintro r w1 ⟨rfl, hb⟩; replace hB := hB.trans (hb.mono hB.size)) | (go_at_call 78; (with_reducible refine Calls.mono (KG.out _) ?_); rintro r w1 ⟨rfl, hb⟩; replace hB := hB.trans (hb.mono hB.size)) | (go_at_call 76; (with_reducible refine Calls.mono (KW.out _) ?_); rintro r w1 ⟨rfl, hb⟩; replace hB := hB.trans (hb.mono hB.size)) | (go_at_call 77; (with_reducible refine Calls.mono (KR.out _) ?_); rintro r w1 ⟨rfl, hb⟩; replace hB := hB.trans (hb.mono hB.size)) | (go_at_call 79; (with_reducible refine Calls.mono (KV.out _) ?_); rintro r w1 ⟨rfl, hb⟩; replace hB := hB.trans (hb.mono hB.size)))
        all_goals go_ret2
        all_goals first | (rw [resN_neg (by omega), resB_neg (by omega)]; exact ⟨rfl, hB⟩) | (rw [resB_pos (by omega), resN_min (by omega)]; exact ⟨rfl, hB⟩) | (rw [resB_pos (by omega), resN_pos (by omega)]; exact ⟨rfl, hB⟩)
      · have hz1 : ((P.length : Nat) : Int) < ((D2).length : Int) := by omega
        have hz2 : (2 : Int) < ((D2).length : Int) := by omega
        have hz3 : (2 : Int) ≤ ((D2).length : Int) := by omega
        have hz4 := ext_take 2 (D2)
        rw [hQ] at hz4
        have hz5 := ext_drop 2 (D2)
        (try simp only [List.length_cons] at hz1 hz2 hz3 hz5)
        go_enter Tryz.func41, Tryz.ntmps41
        go_wp2_with (first | (go_at_call 60; (with_reducible refine Calls.mono (KP.out _) ?_); rintro r w1 ⟨rfl, hb⟩; replace hB := hB.trans (hb.mono hB.size)) | (go_at_call 63; (with_reducible refine Calls.mono (KB.out _) ?_); rintro r w1 ⟨rfl, hb⟩; replace hB := hB.trans (hb.mono hB.size)) | (go_at_call 78; (with_reducible refine Calls.mono (KG.out _) ?_); rintro r w1 ⟨rfl, hb⟩; replace hB := hB.trans (hb.mono hB.size)) | (go_at_call 76; (with_reducible refine Calls.mono (KW.out _) ?_); rintro r w1 ⟨rfl, hb⟩; replace hB := hB.trans (hb.mono hB.size)) | (go_at_call 77; (with_reducible refine Calls.mono (KR.out _) ?_); rintro r w1 ⟨rfl, hb⟩; replace hB := hB.trans (hb.mono hB.size)) | (go_at_call 79; (with_reducible refine Calls.mono (KV.out _) ?_); rintro r w1 ⟨rfl, hb⟩; replace hB := hB.trans (hb.mono hB.size)))
        all_goals go_ret2
        all_goals first | (rw [resN_neg (by omega), resB_neg (by omega)]; exact ⟨rfl, hB⟩) | (rw [resB_pos (by omega), resN_min (by omega)]; exact ⟨rfl, hB⟩) | (rw [resB_pos (by omega), resN_pos (by omega)]; exact ⟨rfl, hB⟩)
      · have hz1 : ((P.length : Nat) : Int) < ((r0).length : Int) := by omega
        have hz2 : (2 : Int) < ((r0).length : Int) := by omega
        have hz3 : (2 : Int) ≤ ((r0).length : Int) := by omega
        have hz4 := ext_take 2 (r0)
        rw [hQ] at hz4
        have hz5 := ext_drop 2 (r0)
        rw [← e2z] at hz5
        (try simp only [List.length_cons] at hz1 hz2 hz3 hz5)
        clear e2z
        go_enter Tryz.func41, Tryz.ntmps41
        go_wp2_with (first | (go_at_call 60; (with_reducible refine Calls.mono (KP.out _) ?_); rintro r w1 ⟨rfl, hb⟩; replace hB := hB.trans (hb.mono hB.size)) | (go_at_call 63; (with_reducible refine Calls.mono (KB.out _) ?_); rintro r w1 ⟨rfl, hb⟩; replace hB := hB.trans (hb.mono hB.size)) | (go_at_call 78; (with_reducible refine Calls.mono (KG.out _) ?_); rintro r w1 ⟨rfl, hb⟩; replace hB := hB.trans (hb.mono hB.size)) | (go_at_call 76; (with_reducible refine Calls.mono (KW.out _) ?_); rintro r w1 ⟨rfl, hb⟩; replace hB := hB.trans (hb.mono hB.size)) | (go_at_call 77; (with_reducible refine Calls.mono (KR.out _) ?_); rintro r w1 ⟨rfl, hb⟩; replace hB := hB.trans (hb.mono hB.size)) | (go_at_call 79; (with_reducible refine Calls.mono (KV.out _) ?_); rintro r w1 ⟨rfl, hb⟩; replace hB := hB.trans (hb.mono hB.size)))
        all_goals go_ret2
        all_goals first | (rw [resN_neg (by omega), resB_neg (by omega)]; exact ⟨rfl, hB⟩) | (rw [resB_pos (by omega), resN_min (by omega)]; exact ⟨rfl, hB⟩) | (rw [resB_pos (by omega), resN_pos (by omega)]; exact ⟨rfl, hB⟩)
set_option maxRecDepth 100000 in
set_option maxHeartbeats 16000000 in
theorem readWholeS_plain (l t : List UInt8) (gr : Int) (w : World) (hl : l.length ≤ 80) (hT : TyOk t) (h0 : 0 ≤ gr) (h2 : gr ≤ 2) (c0 : UInt8) (r0 : List UInt8) (hc0 : l = c0 :: r0) (hs : isSign c0 = false) :
    Calls Tryz.prog 41 #[.string ⟨l.toArray⟩, .string ⟨t.toArray⟩, .string ⟨(mkL gr).toArray⟩] w fun r w' => r = .returned (.tuple #[.int .i64 (resN (grpV gr t (preD (tyPre t) (cutD l))) (cutN l)), .bool (resB (grpV gr t (preD (tyPre t) (cutD l))))]) ∧ Below w.heap.size w w' := by
  subst hc0
  rw [show cutD (c0 :: r0) = c0 :: r0 by simp [cutD, hs], cutN_no hs]
  rw [isSign_eq] at hs
  simp only [Bool.or_eq_false_iff, beq_eq_false_iff_ne] at hs
  have n1 : ((c0.toNat : Int) == 45) = false := by simp; exact fun e => hs.1 (UInt8.toNat_inj.1 (by show c0.toNat = 45; omega))
  have n2 : ((c0.toNat : Int) == 43) = false := by simp; exact fun e => hs.2.1 (UInt8.toNat_inj.1 (by show c0.toNat = 43; omega))
  have n3 : ((c0.toNat : Int) == 32) = false := by simp; exact fun e => hs.2.2 (UInt8.toNat_inj.1 (by show c0.toNat = 32; omega))
  have m1 : ¬ ((c0.toNat : Int) = 45) := by simpa using n1
  have m2 : ¬ ((c0.toNat : Int) = 43) := by simpa using n2
  have m3 : ¬ ((c0.toNat : Int) = 32) := by simpa using n3
  have hx0 : (⟨(c0 :: r0).toArray⟩ : ByteArray)[0]'(by show 0 < r0.length + 1; omega) = c0 := rfl
  clear hs
  have kb := fun W => mBn (baseOfS_ok t hT W)
  have kp := fun W => mBn (prefixOfS_ok t hT W)
  have kg := fun W => mBn (groupSizeS_ok t hT W)
  have hbase := hT.base
  have hgrp := hT.grp
  have hpc := pre_cases (D := c0 :: r0) (tyPre_len hT)
  have hdl : (preD (tyPre t) (c0 :: r0)).length ≤ 80 := by
    have : (preD (tyPre t) (c0 :: r0)).length ≤ (c0 :: r0).length := by
      unfold preD
      split
      · rw [List.length_drop]; omega
      · exact Nat.le_refl _
    (try simp only [List.length_cons] at *)
    (try simp only [List.length_nil] at *)
    omega
  generalize hP : tyPre t = P at *
  generalize hD2 : preD P (c0 :: r0) = D2 at *
  clear hD2 hP
  have hB := Below.refl w.heap.size w
  by_cases hg : gr = 0
  · subst hg
    have hv : grpV 0 t D2 = valW ⟨D2.toArray⟩ (tyBase t) := if_pos rfl
    rw [hv]
    have kv := fun W => mBn (valueInS_any ⟨D2.toArray⟩ (tyBase t) (by rw [szX]; omega) (by omega) W)
    generalize hV : valW ⟨D2.toArray⟩ (tyBase t) = v at *
    have hvm := bnd hV
    generalize tyBase t = b at *
    clear hV hv kg hT hgrp
    rw [show mkL 0 = [] from rfl]
    have KB := Lib.hid kb; have KP := Lib.hid kp; have KV := Lib.hid kv
    clear kb kp kv
    rcases hpc with ⟨rfl, rfl⟩ | ⟨hPe, hPl, hdd, rfl⟩ | ⟨hPe, hPl, hdd, ⟨Q, hQ, hQP⟩, rfl⟩ | ⟨hPe, hPl, hdd, hQ, e2z⟩
    · go_enter Tryz.func41, Tryz.ntmps41
      go_wp2_with (first | (go_at_call 60; (with_reducible refine Calls.mono (KP.out _) ?_); rintro r w1 ⟨rfl, hb⟩; replace hB := hB.trans (hb.mono hB.size)) | (go_at_call 63; (with_reducible refine Calls.mono (KB.out _) ?_); rintro r w1 ⟨rfl, hb⟩; replace hB := hB.trans (hb.mono hB.size)) | (go_at_call 79; (with_reducible refine Calls.mono (KV.out _) ?_); rintro r w1 ⟨rfl, hb⟩; replace hB := hB.trans (hb.mono hB.size)))
      all_goals go_ret2
      all_goals first | (rw [resN_neg (by omega), resB_neg (by omega)]; exact ⟨rfl, hB⟩) | (rw [resB_pos (by omega), resN_min (by omega)]; exact ⟨rfl, hB⟩) | (rw [resB_pos (by omega), resN_pos (by omega)]; exact ⟨rfl, hB⟩)
    · have hz1 : ¬ ((P.length : Nat) : Int) < ((c0 :: r0).length : Int) := by omega
      have hz2 : ¬ (2 : Int) < ((c0 :: r0).length : Int) := by omega
      (try simp only [List.length_cons] at hz1 hz2)
      go_enter Tryz.func41, Tryz.ntmps41
      go_wp2_with (first | (go_at_call 60; (with_reducible refine Calls.mono (KP.out _) ?_); rintro r w1 ⟨rfl, hb⟩; replace hB := hB.trans (hb.mono hB.size)) | (go_at_call 63; (with_reducible refine Calls.mono (KB.out _) ?_); rintro r w1 ⟨rfl, hb⟩; replace hB := hB.trans (hb.mono hB.size)) | (go_at_call 79; (with_reducible refine Calls.mono (KV.out _) ?_); rintro r w1 ⟨rfl, hb⟩; replace hB := hB.trans (hb.mono hB.size)))
      all_goals go_ret2
      all_goals first | (rw [resN_neg (by omega), resB_neg (by omega)]; exact ⟨rfl, hB⟩) | (rw [resB_pos (by omega), resN_min (by omega)]; exact ⟨rfl, hB⟩) | (rw [resB_pos (by omega), resN_pos (by omega)]; exact ⟨rfl, hB⟩)
    · have hz1 : ((P.length : Nat) : Int) < ((c0 :: r0).length : Int) := by omega
      have hz2 : (2 : Int) < ((c0 :: r0).length : Int) := by omega
      have hz3 : (2 : Int) ≤ ((c0 :: r0).length : Int) := by omega
      have hz4 := ext_take 2 (c0 :: r0)
      rw [hQ] at hz4
      have hz5 := ext_drop 2 (c0 :: r0)
      (try simp only [List.length_cons] at hz1 hz2 hz3 hz5)
      go_enter Tryz.func41, Tryz.ntmps41
      go_wp2_with (first | (go_at_call 60; (with_reducible refine Calls.mono (KP.out _) ?_); rintro r w1 ⟨rfl, hb⟩; replace hB := hB.trans (hb.mono hB.size)) | (go_at_call 63; (with_reducible refine Calls.mono (KB.out _) ?_); rintro r w1 ⟨rfl, hb⟩; replace hB := hB.trans (hb.mono hB.size)) | (go_at_call 79; (with_reducible refine Calls.mono (KV.out _) ?_); rintro r w1 ⟨rfl, hb⟩; replace hB := hB.trans (hb.mono hB.size)))
      all_goals go_ret2
      all_goals first | (rw [resN_neg (by omega), resB_neg (by omega)]; exact ⟨rfl, hB⟩) | (rw [resB_pos (by omega), resN_min (by omega)]; exact ⟨rfl, hB⟩) | (rw [resB_pos (by omega), resN_pos (by omega)]; exact ⟨rfl, hB⟩)
    · have hz1 : ((P.length : Nat) : Int) < ((c0 :: r0).length : Int) := by omega
      have hz2 : (2 : Int) < ((c0 :: r0).length : Int) := by omega
      have hz3 : (2 : Int) ≤ ((c0 :: r0).length : Int) := by omega
      have hz4 := ext_take 2 (c0 :: r0)
      rw [hQ] at hz4
      have hz5 := ext_drop 2 (c0 :: r0)
      rw [← e2z] at hz5
      (try simp only [List.length_cons] at hz1 hz2 hz3 hz5)
      clear e2z
      go_enter Tryz.func41, Tryz.ntmps41
      go_wp2_with (first | (go_at_call 60; (with_reducible refine Calls.mono (KP.out _) ?_); rintro r w1 ⟨rfl, hb⟩; replace hB := hB.trans (hb.mono hB.size)) | (go_at_call 63; (with_reducible refine Calls.mono (KB.out _) ?_); rintro r w1 ⟨rfl, hb⟩; replace hB := hB.trans (hb.mono hB.size)) | (go_at_call 79; (with_reducible refine Calls.mono (KV.out _) ?_); rintro r w1 ⟨rfl, hb⟩; replace hB := hB.trans (hb.mono hB.size)))
      all_goals go_ret2
      all_goals first | (rw [resN_neg (by omega), resB_neg (by omega)]; exact ⟨rfl, hB⟩) | (rw [resB_pos (by omega), resN_min (by omega)]; exact ⟨rfl, hB⟩) | (rw [resB_pos (by omega), resN_pos (by omega)]; exact ⟨rfl, hB⟩)
  · have hv : grpV gr t D2 = if ungB D2 (tyGrp t) (mkC gr) then valW ⟨(wo (mkC gr) D2).toArray⟩ (tyBase t) else -1 := if_neg hg
    rw [hv, mkL_one hg h0 h2]
    have hwl := wo_len (mkC gr) D2
    have kw : ∀ W, Calls Tryz.prog 76 #[.string ⟨D2.toArray⟩, .int .u8 (((⟨[mkC gr].toArray⟩ : ByteArray)[0]'(by show 0 < 1; omega)).toNat : Int)] W fun r w' => r = .returned (.string ⟨(wo (mkC gr) D2).toArray⟩) ∧ Below W.heap.size W w' := fun W => mBn (withoutS_any ⟨D2.toArray⟩ (mkC gr) W (by rw [szX]; omega))
    have kr := fun W => mBn (groupedS_any ⟨(wo (mkC gr) D2).toArray⟩ (tyGrp t) ⟨[mkC gr].toArray⟩ W (by rw [szX]; omega) (by omega) (by omega) (by show 1 ≤ 1; omega))
    rw [show (⟨(wo (mkC gr) D2).toArray⟩ : ByteArray).data.toList = wo (mkC gr) D2 from rfl, show (⟨[mkC gr].toArray⟩ : ByteArray).data.toList = [mkC gr] from rfl] at kr
    cases hu : ungB D2 (tyGrp t) (mkC gr)
    · rw [if_neg (by decide)]
      have hne : (grp (tyGrp t) [mkC gr] (wo (mkC gr) D2) == D2) = false := hu
      generalize grp (tyGrp t) [mkC gr] (wo (mkC gr) D2) = G at *
      generalize wo (mkC gr) D2 = O at *
      generalize mkC gr = c at *
      generalize tyGrp t = g at *
      generalize tyBase t = b at *
      clear hv hT hu
      have KB := Lib.hid kb; have KP := Lib.hid kp; have KW := Lib.hid kw; have KR := Lib.hid kr; have KG := Lib.hid kg
      clear kb kp kw kr kg
      rcases hpc with ⟨rfl, rfl⟩ | ⟨hPe, hPl, hdd, rfl⟩ | ⟨hPe, hPl, hdd, ⟨Q, hQ, hQP⟩, rfl⟩ | ⟨hPe, hPl, hdd, hQ, e2z⟩
      · go_enter Tryz.func41, Tryz.ntmps41
        go_wp2_with (first | (go_at_call 60; (with_reducible refine Calls.mono (KP.out _) ?_); rintro r w1 ⟨rfl, hb⟩; replace hB := hB.trans (hb.mono hB.size)) | (go_at_call 63; (with_reducible refine Calls.mono (KB.out _) ?_); rintro r w1 ⟨rfl, hb⟩; replace hB := hB.trans (hb.mono hB.size)) | (go_at_call 78; (with_reducible refine Calls.mono (KG.out _) ?_); rintro r w1 ⟨rfl, hb⟩; replace hB := hB.trans (hb.mono hB.size)) | (go_at_call 76; (with_reducible refine Calls.mono (KW.out _) ?_); rintro r w1 ⟨rfl, hb⟩; replace hB := hB.trans (hb.mono hB.size)) | (go_at_call 77; (with_reducible refine Calls.mono (KR.out _) ?_); rintro r w1 ⟨rfl, hb⟩; replace hB := hB.trans (hb.mono hB.size)))
        all_goals go_ret2
        all_goals first | (rw [resN_neg (by omega), resB_neg (by omega)]; exact ⟨rfl, hB⟩) | (rw [resB_pos (by omega), resN_min (by omega)]; exact ⟨rfl, hB⟩) | (rw [resB_pos (by omega), resN_pos (by omega)]; exact ⟨rfl, hB⟩)
      · have hz1 : ¬ ((P.length : Nat) : Int) < ((c0 :: r0).length : Int) := by omega
        have hz2 : ¬ (2 : Int) < ((c0 :: r0).length : Int) := by omega
        (try simp only [List.length_cons] at hz1 hz2)
        go_enter Tryz.func41, Tryz.ntmps41
        go_wp2_with (first | (go_at_call 60; (with_reducible refine Calls.mono (KP.out _) ?_); rintro r w1 ⟨rfl, hb⟩; replace hB := hB.trans (hb.mono hB.size)) | (go_at_call 63; (with_reducible refine Calls.mono (KB.out _) ?_); rintro r w1 ⟨rfl, hb⟩; replace hB := hB.trans (hb.mono hB.size)) | (go_at_call 78; (with_reducible refine Calls.mono (KG.out _) ?_); rintro r w1 ⟨rfl, hb⟩; replace hB := hB.trans (hb.mono hB.size)) | (go_at_call 76; (with_reducible refine Calls.mono (KW.out _) ?_); rintro r w1 ⟨rfl, hb⟩; replace hB := hB.trans (hb.mono hB.size)) | (go_at_call 77; (with_reducible refine Calls.mono (KR.out _) ?_); rintro r w1 ⟨rfl, hb⟩; replace hB := hB.trans (hb.mono hB.size)))
        all_goals go_ret2
        all_goals first | (rw [resN_neg (by omega), resB_neg (by omega)]; exact ⟨rfl, hB⟩) | (rw [resB_pos (by omega), resN_min (by omega)]; exact ⟨rfl, hB⟩) | (rw [resB_pos (by omega), resN_pos (by omega)]; exact ⟨rfl, hB⟩)
      · have hz1 : ((P.length : Nat) : Int) < ((c0 :: r0).length : Int) := by omega
        have hz2 : (2 : Int) < ((c0 :: r0).length : Int) := by omega
        have hz3 : (2 : Int) ≤ ((c0 :: r0).length : Int) := by omega
        have hz4 := ext_take 2 (c0 :: r0)
        rw [hQ] at hz4
        have hz5 := ext_drop 2 (c0 :: r0)
        (try simp only [List.length_cons] at hz1 hz2 hz3 hz5)
        go_enter Tryz.func41, Tryz.ntmps41
        go_wp2_with (first | (go_at_call 60; (with_reducible refine Calls.mono (KP.out _) ?_); rintro r w1 ⟨rfl, hb⟩; replace hB := hB.trans (hb.mono hB.size)) | (go_at_call 63; (with_reducible refine Calls.mono (KB.out _) ?_); rintro r w1 ⟨rfl, hb⟩; replace hB := hB.trans (hb.mono hB.size)) | (go_at_call 78; (with_reducible refine Calls.mono (KG.out _) ?_); rintro r w1 ⟨rfl, hb⟩; replace hB := hB.trans (hb.mono hB.size)) | (go_at_call 76; (with_reducible refine Calls.mono (KW.out _) ?_); rintro r w1 ⟨rfl, hb⟩; replace hB := hB.trans (hb.mono hB.size)) | (go_at_call 77; (with_reducible refine Calls.mono (KR.out _) ?_); rintro r w1 ⟨rfl, hb⟩; replace hB := hB.trans (hb.mono hB.size)))
        all_goals go_ret2
        all_goals first | (rw [resN_neg (by omega), resB_neg (by omega)]; exact ⟨rfl, hB⟩) | (rw [resB_pos (by omega), resN_min (by omega)]; exact ⟨rfl, hB⟩) | (rw [resB_pos (by omega), resN_pos (by omega)]; exact ⟨rfl, hB⟩)
      · have hz1 : ((P.length : Nat) : Int) < ((c0 :: r0).length : Int) := by omega
        have hz2 : (2 : Int) < ((c0 :: r0).length : Int) := by omega
        have hz3 : (2 : Int) ≤ ((c0 :: r0).length : Int) := by omega
        have hz4 := ext_take 2 (c0 :: r0)
        rw [hQ] at hz4
        have hz5 := ext_drop 2 (c0 :: r0)
        rw [← e2z] at hz5
        (try simp only [List.length_cons] at hz1 hz2 hz3 hz5)
        clear e2z
        go_enter Tryz.func41, Tryz.ntmps41
        go_wp2_with (first | (go_at_call 60; (with_reducible refine Calls.mono (KP.out _) ?_); rintro r w1 ⟨rfl, hb⟩; replace hB := hB.trans (hb.mono hB.size)) | (go_at_call 63; (with_reducible refine Calls.mono (KB.out _) ?_); rintro r w1 ⟨rfl, hb⟩; replace hB := hB.trans (hb.mono hB.size)) | (go_at_call 78; (with_reducible refine Calls.mono (KG.out _) ?_); rintro r w1 ⟨rfl, hb⟩; replace hB := hB.trans (hb.mono hB.size)) | (go_at_call 76; (with_reducible refine Calls.mono (KW.out _) ?_); rintro r w1 ⟨rfl, hb⟩; replace hB := hB.trans (hb.mono hB.size)) | (go_at_call 77; (with_reducible refine Calls.mono (KR.out _) ?_); rintro r w1 ⟨rfl, hb⟩; replace hB := hB.trans (hb.mono hB.size)))
        all_goals go_ret2
        all_goals first | (rw [resN_neg (by omega), resB_neg (by omega)]; exact ⟨rfl, hB⟩) | (rw [resB_pos (by omega), resN_min (by omega)]; exact ⟨rfl, hB⟩) | (rw [resB_pos (by omega), resN_pos (by omega)]; exact ⟨rfl, hB⟩)
    · rw [if_pos rfl]
      have heq : grp (tyGrp t) [mkC gr] (wo (mkC gr) D2) = D2 := by simpa [ungB] using hu
      rw [heq] at kr
      have kv := fun W => mBn (valueInS_any ⟨(wo (mkC gr) D2).toArray⟩ (tyBase t) (by rw [szX]; omega) (by omega) W)
      generalize hV : valW ⟨(wo (mkC gr) D2).toArray⟩ (tyBase t) = v at *
      have hvm := bnd hV
      generalize wo (mkC gr) D2 = O at *
      generalize mkC gr = c at *
      generalize tyGrp t = g at *
      generalize tyBase t = b at *
      clear hV hv hT hu heq
      have KB := Lib.hid kb; have KP := Lib.hid kp; have KW := Lib.hid kw; have KR := Lib.hid kr; have KG := Lib.hid kg; have KV := Lib.hid kv
      clear kb kp kw kr kg kv
      rcases hpc with ⟨rfl, rfl⟩ | ⟨hPe, hPl, hdd, rfl⟩ | ⟨hPe, hPl, hdd, ⟨Q, hQ, hQP⟩, rfl⟩ | ⟨hPe, hPl, hdd, hQ, e2z⟩
      · go_enter Tryz.func41, Tryz.ntmps41
        go_wp2_with (first | (go_at_call 60; (with_reducible refine Calls.mono (KP.out _) ?_); rintro r w1 ⟨rfl, hb⟩; replace hB := hB.trans (hb.mono hB.size)) | (go_at_call 63; (with_reducible refine Calls.mono (KB.out _) ?_); rintro r w1 ⟨rfl, hb⟩; replace hB := hB.trans (hb.mono hB.size)) | (go_at_call 78; (with_reducible refine Calls.mono (KG.out _) ?_); rintro r w1 ⟨rfl, hb⟩; replace hB := hB.trans (hb.mono hB.size)) | (go_at_call 76; (with_reducible refine Calls.mono (KW.out _) ?_); rintro r w1 ⟨rfl, hb⟩; replace hB := hB.trans (hb.mono hB.size)) | (go_at_call 77; (with_reducible refine Calls.mono (KR.out _) ?_); rintro r w1 ⟨rfl, hb⟩; replace hB := hB.trans (hb.mono hB.size)) | (go_at_call 79; (with_reducible refine Calls.mono (KV.out _) ?_); rintro r w1 ⟨rfl, hb⟩; replace hB := hB.trans (hb.mono hB.size)))
        all_goals go_ret2
        all_goals first | (rw [resN_neg (by omega), resB_neg (by omega)]; exact ⟨rfl, hB⟩) | (rw [resB_pos (by omega), resN_min (by omega)]; exact ⟨rfl, hB⟩) | (rw [resB_pos (by omega), resN_pos (by omega)]; exact ⟨rfl, hB⟩)
      · have hz1 : ¬ ((P.length : Nat) : Int) < ((c0 :: r0).length : Int) := by omega
        have hz2 : ¬ (2 : Int) < ((c0 :: r0).length : Int) := by omega
        (try simp only [List.length_cons] at hz1 hz2)
        go_enter Tryz.func41, Tryz.ntmps41
        go_wp2_with (first | (go_at_call 60; (with_reducible refine Calls.mono (KP.out _) ?_); rintro r w1 ⟨rfl, hb⟩; replace hB := hB.trans (hb.mono hB.size)) | (go_at_call 63; (with_reducible refine Calls.mono (KB.out _) ?_); rintro r w1 ⟨rfl, hb⟩; replace hB := hB.trans (hb.mono hB.size)) | (go_at_call 78; (with_reducible refine Calls.mono (KG.out _) ?_); rintro r w1 ⟨rfl, hb⟩; replace hB := hB.trans (hb.mono hB.size)) | (go_at_call 76; (with_reducible refine Calls.mono (KW.out _) ?_); rintro r w1 ⟨rfl, hb⟩; replace hB := hB.trans (hb.mono hB.size)) | (go_at_call 77; (with_reducible refine Calls.mono (KR.out _) ?_); rintro r w1 ⟨rfl, hb⟩; replace hB := hB.trans (hb.mono hB.size)) | (go_at_call 79; (with_reducible refine Calls.mono (KV.out _) ?_); rintro r w1 ⟨rfl, hb⟩; replace hB := hB.trans (hb.mono hB.size)))
        all_goals go_ret2
        all_goals first | (rw [resN_neg (by omega), resB_neg (by omega)]; exact ⟨rfl, hB⟩) | (rw [resB_pos (by omega), resN_min (by omega)]; exact ⟨rfl, hB⟩) | (rw [resB_pos (by omega), resN_pos (by omega)]; exact ⟨rfl, hB⟩)
      · have hz1 : ((P.length : Nat) : Int) < ((c0 :: r0).length : Int) := by omega
        have hz2 : (2 : Int) < ((c0 :: r0).length : Int) := by omega
        have hz3 : (2 : Int) ≤ ((c0 :: r0).length : Int) := by omega
        have hz4 := ext_take 2 (c0 :: r0)
        rw [hQ] at hz4
        have hz5 := ext_drop 2 (c0 :: r0)
        (try simp only [List.length_cons] at hz1 hz2 hz3 hz5)
        go_enter Tryz.func41, Tryz.ntmps41
        go_wp2_with (first | (go_at_call 60; (with_reducible refine Calls.mono (KP.out _) ?_); rintro r w1 ⟨rfl, hb⟩; replace hB := hB.trans (hb.mono hB.size)) | (go_at_call 63; (with_reducible refine Calls.mono (KB.out _) ?_); rintro r w1 ⟨rfl, hb⟩; replace hB := hB.trans (hb.mono hB.size)) | (go_at_call 78; (with_reducible refine Calls.mono (KG.out _) ?_); rintro r w1 ⟨rfl, hb⟩; replace hB := hB.trans (hb.mono hB.size)) | (go_at_call 76; (with_reducible refine Calls.mono (KW.out _) ?_); rintro r w1 ⟨rfl, hb⟩; replace hB := hB.trans (hb.mono hB.size)) | (go_at_call 77; (with_reducible refine Calls.mono (KR.out _) ?_); rintro r w1 ⟨rfl, hb⟩; replace hB := hB.trans (hb.mono hB.size)) | (go_at_call 79; (with_reducible refine Calls.mono (KV.out _) ?_); rintro r w1 ⟨rfl, hb⟩; replace hB := hB.trans (hb.mono hB.size)))
        all_goals go_ret2
        all_goals first | (rw [resN_neg (by omega), resB_neg (by omega)]; exact ⟨rfl, hB⟩) | (rw [resB_pos (by omega), resN_min (by omega)]; exact ⟨rfl, hB⟩) | (rw [resB_pos (by omega), resN_pos (by omega)]; exact ⟨rfl, hB⟩)
      · have hz1 : ((P.length : Nat) : Int) < ((c0 :: r0).length : Int) := by omega
        have hz2 : (2 : Int) < ((c0 :: r0).length : Int) := by omega
        have hz3 : (2 : Int) ≤ ((c0 :: r0).length : Int) := by omega
        have hz4 := ext_take 2 (c0 :: r0)
        rw [hQ] at hz4
        have hz5 := ext_drop 2 (c0 :: r0)
        rw [← e2z] at hz5
        (try simp only [List.length_cons] at hz1 hz2 hz3 hz5)
        clear e2z
        go_enter Tryz.func41, Tryz.ntmps41
        go_wp2_with (first | (go_at_call 60; (with_reducible refine Calls.mono (KP.out _) ?_); rintro r w1 ⟨rfl, hb⟩; replace hB := hB.trans (hb.mono hB.size)) | (go_at_call 63; (with_reducible refine Calls.mono (KB.out _) ?_); rintro r w1 ⟨rfl, hb⟩; replace hB := hB.trans (hb.mono hB.size)) | (go_at_call 78; (with_reducible refine Calls.mono (KG.out _) ?_); rintro r w1 ⟨rfl, hb⟩; replace hB := hB.trans (hb.mono hB.size)) | (go_at_call 76; (with_reducible refine Calls.mono (KW.out _) ?_); rintro r w1 ⟨rfl, hb⟩; replace hB := hB.trans (hb.mono hB.size)) | (go_at_call 77; (with_reducible refine Calls.mono (KR.out _) ?_); rintro r w1 ⟨rfl, hb⟩; replace hB := hB.trans (hb.mono hB.size)) | (go_at_call 79; (with_reducible refine Calls.mono (KV.out _) ?_); rintro r w1 ⟨rfl, hb⟩; replace hB := hB.trans (hb.mono hB.size)))
        all_goals go_ret2
        all_goals first | (rw [resN_neg (by omega), resB_neg (by omega)]; exact ⟨rfl, hB⟩) | (rw [resB_pos (by omega), resN_min (by omega)]; exact ⟨rfl, hB⟩) | (rw [resB_pos (by omega), resN_pos (by omega)]; exact ⟨rfl, hB⟩)
set_option maxRecDepth 100000 in
set_option maxHeartbeats 16000000 in
theorem readWholeS_nil (l t : List UInt8) (gr : Int) (w : World) (hl : l.length ≤ 80) (hT : TyOk t) (h0 : 0 ≤ gr) (h2 : gr ≤ 2) (hc0 : l = []) :
    Calls Tryz.prog 41 #[.string ⟨l.toArray⟩, .string ⟨t.toArray⟩, .string ⟨(mkL gr).toArray⟩] w fun r w' => r = .returned (.tuple #[.int .i64 (resN (grpV gr t (preD (tyPre t) (cutD l))) (cutN l)), .bool (resB (grpV gr t (preD (tyPre t) (cutD l))))]) ∧ Below w.heap.size w w' := by
  subst hc0
  rw [show cutD [] = [] from rfl, show cutN [] = false from rfl]
  have kb := fun W => mBn (baseOfS_ok t hT W)
  have kp := fun W => mBn (prefixOfS_ok t hT W)
  have kg := fun W => mBn (groupSizeS_ok t hT W)
  have hbase := hT.base
  have hgrp := hT.grp
  have hpc := pre_cases (D := ([] : List UInt8)) (tyPre_len hT)
  have hdl : (preD (tyPre t) (([] : List UInt8))).length ≤ 80 := by
    have : (preD (tyPre t) (([] : List UInt8))).length ≤ (([] : List UInt8)).length := by
      unfold preD
      split
      · rw [List.length_drop]; omega
      · exact Nat.le_refl _
    (try simp only [List.length_cons] at *)
    (try simp only [List.length_nil] at *)
    omega
  generalize hP : tyPre t = P at *
  generalize hD2 : preD P (([] : List UInt8)) = D2 at *
  clear hD2 hP
  have hB := Below.refl w.heap.size w
  by_cases hg : gr = 0
  · subst hg
    have hv : grpV 0 t D2 = valW ⟨D2.toArray⟩ (tyBase t) := if_pos rfl
    rw [hv]
    have kv := fun W => mBn (valueInS_any ⟨D2.toArray⟩ (tyBase t) (by rw [szX]; omega) (by omega) W)
    generalize hV : valW ⟨D2.toArray⟩ (tyBase t) = v at *
    have hvm := bnd hV
    generalize tyBase t = b at *
    clear hV hv kg hT hgrp
    rw [show mkL 0 = [] from rfl]
    have KB := Lib.hid kb; have KP := Lib.hid kp; have KV := Lib.hid kv
    clear kb kp kv
    rcases hpc with ⟨rfl, rfl⟩ | ⟨hPe, hPl, hdd, rfl⟩ | ⟨hPe, hPl, hdd, ⟨Q, hQ, hQP⟩, rfl⟩ | ⟨hPe, hPl, hdd, hQ, e2z⟩
    · go_enter Tryz.func41, Tryz.ntmps41
      go_wp2_with (first | (go_at_call 60; (with_reducible refine Calls.mono (KP.out _) ?_); rintro r w1 ⟨rfl, hb⟩; replace hB := hB.trans (hb.mono hB.size)) | (go_at_call 63; (with_reducible refine Calls.mono (KB.out _) ?_); rintro r w1 ⟨rfl, hb⟩; replace hB := hB.trans (hb.mono hB.size)) | (go_at_call 79; (with_reducible refine Calls.mono (KV.out _) ?_); rintro r w1 ⟨rfl, hb⟩; replace hB := hB.trans (hb.mono hB.size)))
      all_goals go_ret2
      all_goals first | (rw [resN_neg (by omega), resB_neg (by omega)]; exact ⟨rfl, hB⟩) | (rw [resB_pos (by omega), resN_min (by omega)]; exact ⟨rfl, hB⟩) | (rw [resB_pos (by omega), resN_pos (by omega)]; exact ⟨rfl, hB⟩)
    · have hz1 : ¬ ((P.length : Nat) : Int) < ((([] : List UInt8)).length : Int) := by omega
      have hz2 : ¬ (2 : Int) < ((([] : List UInt8)).length : Int) := by omega
      (try simp only [List.length_cons] at hz1 hz2)
      go_enter Tryz.func41, Tryz.ntmps41
      go_wp2_with (first | (go_at_call 60; (with_reducible refine Calls.mono (KP.out _) ?_); rintro r w1 ⟨rfl, hb⟩; replace hB := hB.trans (hb.mono hB.size)) | (go_at_call 63; (with_reducible refine Calls.mono (KB.out _) ?_); rintro r w1 ⟨rfl, hb⟩; replace hB := hB.trans (hb.mono hB.size)) | (go_at_call 79; (with_reducible refine Calls.mono (KV.out _) ?_); rintro r w1 ⟨rfl, hb⟩; replace hB := hB.trans (hb.mono hB.size)))
      all_goals go_ret2
      all_goals first | (rw [resN_neg (by omega), resB_neg (by omega)]; exact ⟨rfl, hB⟩) | (rw [resB_pos (by omega), resN_min (by omega)]; exact ⟨rfl, hB⟩) | (rw [resB_pos (by omega), resN_pos (by omega)]; exact ⟨rfl, hB⟩)
    · exact absurd hdd (by simp)
    · exact absurd hdd (by simp)
  · have hv : grpV gr t D2 = if ungB D2 (tyGrp t) (mkC gr) then valW ⟨(wo (mkC gr) D2).toArray⟩ (tyBase t) else -1 := if_neg hg
    rw [hv, mkL_one hg h0 h2]
    have hwl := wo_len (mkC gr) D2
    have kw : ∀ W, Calls Tryz.prog 76 #[.string ⟨D2.toArray⟩, .int .u8 (((⟨[mkC gr].toArray⟩ : ByteArray)[0]'(by show 0 < 1; omega)).toNat : Int)] W fun r w' => r = .returned (.string ⟨(wo (mkC gr) D2).toArray⟩) ∧ Below W.heap.size W w' := fun W => mBn (withoutS_any ⟨D2.toArray⟩ (mkC gr) W (by rw [szX]; omega))
    have kr := fun W => mBn (groupedS_any ⟨(wo (mkC gr) D2).toArray⟩ (tyGrp t) ⟨[mkC gr].toArray⟩ W (by rw [szX]; omega) (by omega) (by omega) (by show 1 ≤ 1; omega))
    rw [show (⟨(wo (mkC gr) D2).toArray⟩ : ByteArray).data.toList = wo (mkC gr) D2 from rfl, show (⟨[mkC gr].toArray⟩ : ByteArray).data.toList = [mkC gr] from rfl] at kr
    cases hu : ungB D2 (tyGrp t) (mkC gr)
    · rw [if_neg (by decide)]
      have hne : (grp (tyGrp t) [mkC gr] (wo (mkC gr) D2) == D2) = false := hu
      generalize grp (tyGrp t) [mkC gr] (wo (mkC gr) D2) = G at *
      generalize wo (mkC gr) D2 = O at *
      generalize mkC gr = c at *
      generalize tyGrp t = g at *
      generalize tyBase t = b at *
      clear hv hT hu
      have KB := Lib.hid kb; have KP := Lib.hid kp; have KW := Lib.hid kw; have KR := Lib.hid kr; have KG := Lib.hid kg
      clear kb kp kw kr kg
      rcases hpc with ⟨rfl, rfl⟩ | ⟨hPe, hPl, hdd, rfl⟩ | ⟨hPe, hPl, hdd, ⟨Q, hQ, hQP⟩, rfl⟩ | ⟨hPe, hPl, hdd, hQ, e2z⟩
      · go_enter Tryz.func41, Tryz.ntmps41
        go_wp2_with (first | (go_at_call 60; (with_reducible refine Calls.mono (KP.out _) ?_); rintro r w1 ⟨rfl, hb⟩; replace hB := hB.trans (hb.mono hB.size)) | (go_at_call 63; (with_reducible refine Calls.mono (KB.out _) ?_); rintro r w1 ⟨rfl, hb⟩; replace hB := hB.trans (hb.mono hB.size)) | (go_at_call 78; (with_reducible refine Calls.mono (KG.out _) ?_); rintro r w1 ⟨rfl, hb⟩; replace hB := hB.trans (hb.mono hB.size)) | (go_at_call 76; (with_reducible refine Calls.mono (KW.out _) ?_); rintro r w1 ⟨rfl, hb⟩; replace hB := hB.trans (hb.mono hB.size)) | (go_at_call 77; (with_reducible refine Calls.mono (KR.out _) ?_); rintro r w1 ⟨rfl, hb⟩; replace hB := hB.trans (hb.mono hB.size)))
        all_goals go_ret2
        all_goals first | (rw [resN_neg (by omega), resB_neg (by omega)]; exact ⟨rfl, hB⟩) | (rw [resB_pos (by omega), resN_min (by omega)]; exact ⟨rfl, hB⟩) | (rw [resB_pos (by omega), resN_pos (by omega)]; exact ⟨rfl, hB⟩)
      · have hz1 : ¬ ((P.length : Nat) : Int) < ((([] : List UInt8)).length : Int) := by omega
        have hz2 : ¬ (2 : Int) < ((([] : List UInt8)).length : Int) := by omega
        (try simp only [List.length_cons] at hz1 hz2)
        go_enter Tryz.func41, Tryz.ntmps41
        go_wp2_with (first | (go_at_call 60; (with_reducible refine Calls.mono (KP.out _) ?_); rintro r w1 ⟨rfl, hb⟩; replace hB := hB.trans (hb.mono hB.size)) | (go_at_call 63; (with_reducible refine Calls.mono (KB.out _) ?_); rintro r w1 ⟨rfl, hb⟩; replace hB := hB.trans (hb.mono hB.size)) | (go_at_call 78; (with_reducible refine Calls.mono (KG.out _) ?_); rintro r w1 ⟨rfl, hb⟩; replace hB := hB.trans (hb.mono hB.size)) | (go_at_call 76; (with_reducible refine Calls.mono (KW.out _) ?_); rintro r w1 ⟨rfl, hb⟩; replace hB := hB.trans (hb.mono hB.size)) | (go_at_call 77; (with_reducible refine Calls.mono (KR.out _) ?_); rintro r w1 ⟨rfl, hb⟩; replace hB := hB.trans (hb.mono hB.size)))
        all_goals go_ret2
        all_goals first | (rw [resN_neg (by omega), resB_neg (by omega)]; exact ⟨rfl, hB⟩) | (rw [resB_pos (by omega), resN_min (by omega)]; exact ⟨rfl, hB⟩) | (rw [resB_pos (by omega), resN_pos (by omega)]; exact ⟨rfl, hB⟩)
      · exact absurd hdd (by simp)
      · exact absurd hdd (by simp)
    · rw [if_pos rfl]
      have heq : grp (tyGrp t) [mkC gr] (wo (mkC gr) D2) = D2 := by simpa [ungB] using hu
      rw [heq] at kr
      have kv := fun W => mBn (valueInS_any ⟨(wo (mkC gr) D2).toArray⟩ (tyBase t) (by rw [szX]; omega) (by omega) W)
      generalize hV : valW ⟨(wo (mkC gr) D2).toArray⟩ (tyBase t) = v at *
      have hvm := bnd hV
      generalize wo (mkC gr) D2 = O at *
      generalize mkC gr = c at *
      generalize tyGrp t = g at *
      generalize tyBase t = b at *
      clear hV hv hT hu heq
      have KB := Lib.hid kb; have KP := Lib.hid kp; have KW := Lib.hid kw; have KR := Lib.hid kr; have KG := Lib.hid kg; have KV := Lib.hid kv
      clear kb kp kw kr kg kv
      rcases hpc with ⟨rfl, rfl⟩ | ⟨hPe, hPl, hdd, rfl⟩ | ⟨hPe, hPl, hdd, ⟨Q, hQ, hQP⟩, rfl⟩ | ⟨hPe, hPl, hdd, hQ, e2z⟩
      · go_enter Tryz.func41, Tryz.ntmps41
        go_wp2_with (first | (go_at_call 60; (with_reducible refine Calls.mono (KP.out _) ?_); rintro r w1 ⟨rfl, hb⟩; replace hB := hB.trans (hb.mono hB.size)) | (go_at_call 63; (with_reducible refine Calls.mono (KB.out _) ?_); rintro r w1 ⟨rfl, hb⟩; replace hB := hB.trans (hb.mono hB.size)) | (go_at_call 78; (with_reducible refine Calls.mono (KG.out _) ?_); rintro r w1 ⟨rfl, hb⟩; replace hB := hB.trans (hb.mono hB.size)) | (go_at_call 76; (with_reducible refine Calls.mono (KW.out _) ?_); rintro r w1 ⟨rfl, hb⟩; replace hB := hB.trans (hb.mono hB.size)) | (go_at_call 77; (with_reducible refine Calls.mono (KR.out _) ?_); rintro r w1 ⟨rfl, hb⟩; replace hB := hB.trans (hb.mono hB.size)) | (go_at_call 79; (with_reducible refine Calls.mono (KV.out _) ?_); rintro r w1 ⟨rfl, hb⟩; replace hB := hB.trans (hb.mono hB.size)))
        all_goals go_ret2
        all_goals first | (rw [resN_neg (by omega), resB_neg (by omega)]; exact ⟨rfl, hB⟩) | (rw [resB_pos (by omega), resN_min (by omega)]; exact ⟨rfl, hB⟩) | (rw [resB_pos (by omega), resN_pos (by omega)]; exact ⟨rfl, hB⟩)
      · have hz1 : ¬ ((P.length : Nat) : Int) < ((([] : List UInt8)).length : Int) := by omega
        have hz2 : ¬ (2 : Int) < ((([] : List UInt8)).length : Int) := by omega
        (try simp only [List.length_cons] at hz1 hz2)
        go_enter Tryz.func41, Tryz.ntmps41
        go_wp2_with (first | (go_at_call 60; (with_reducible refine Calls.mono (KP.out _) ?_); rintro r w1 ⟨rfl, hb⟩; replace hB := hB.trans (hb.mono hB.size)) | (go_at_call 63; (with_reducible refine Calls.mono (KB.out _) ?_); rintro r w1 ⟨rfl, hb⟩; replace hB := hB.trans (hb.mono hB.size)) | (go_at_call 78; (with_reducible refine Calls.mono (KG.out _) ?_); rintro r w1 ⟨rfl, hb⟩; replace hB := hB.trans (hb.mono hB.size)) | (go_at_call 76; (with_reducible refine Calls.mono (KW.out _) ?_); rintro r w1 ⟨rfl, hb⟩; replace hB := hB.trans (hb.mono hB.size)) | (go_at_call 77; (with_reducible refine Calls.mono (KR.out _) ?_); rintro r w1 ⟨rfl, hb⟩; replace hB := hB.trans (hb.mono hB.size)) | (go_at_call 79; (with_reducible refine Calls.mono (KV.out _) ?_); rintro r w1 ⟨rfl, hb⟩; replace hB := hB.trans (hb.mono hB.size)))
        all_goals go_ret2
        all_goals first | (rw [resN_neg (by omega), resB_neg (by omega)]; exact ⟨rfl, hB⟩) | (rw [resB_pos (by omega), resN_min (by omega)]; exact ⟨rfl, hB⟩) | (rw [resB_pos (by omega), resN_pos (by omega)]; exact ⟨rfl, hB⟩)
      · exact absurd hdd (by simp)
      · exact absurd hdd (by simp)
end Go.Proofs.YtcbpocpkfmbaoaaGreatDoor
