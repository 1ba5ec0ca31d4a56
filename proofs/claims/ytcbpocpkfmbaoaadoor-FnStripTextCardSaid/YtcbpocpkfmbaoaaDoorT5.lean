import Derived.Test.YtcbpocpkfmbaoaaDoorT3
namespace Go.Proofs.YtcbpocpkfmbaoaaDoor
open Go.RowKit
theorem ok_128 {c : UInt8} (h : okByte c = true) : c.toNat < 128 := by
  rw [okByte_nat] at h
  simp only [Bool.and_eq_true, decide_eq_true_eq] at h
  omega
def stripW (s f : ByteArray) (a : Int) : ByteArray := if cpB s f a then (if a = 1 then trRB (hd1 f) s else if a = 2 then trLB (hd1 f) s else trLB (hd1 f) (trRB (hd1 f) s)) else ⟨#[]⟩
set_option maxRecDepth 100000 in
set_option maxHeartbeats 4000000 in
theorem StripText_any (s f : ByteArray) (a : Int) (hs : s.size ≤ 9223372036854775807) (w : World) :
    Calls Tryd.prog 6 #[.string s, .string f, .int .i64 a] w fun r w' => r = .returned (.string (stripW s f a)) ∧ Below w.heap.size w w' := by
  have hB := Below.refl w.heap.size w
  have k1 := fun W => mBn (canPad_any s f a hs W)
  cases h : cpB s f a
  · rw [show stripW s f a = ⟨#[]⟩ by unfold stripW; rw [h]; rfl]
    rw [h] at k1
    have K1 := Lib.hid k1
    clear k1
    clear h
    go_enter Tryd.func6, Tryd.ntmps6
    go_wp2_with (first | (go_at_call 16; (with_reducible refine Calls.mono (K1.out _) ?_); rintro r w1 ⟨rfl, hb⟩; replace hB := hB.trans (hb.mono hB.size)))
    all_goals go_ret
    all_goals exact ⟨rfl, hB⟩
  · rw [show stripW s f a = (if a = 1 then trRB (hd1 f) s else if a = 2 then trLB (hd1 f) s else trLB (hd1 f) (trRB (hd1 f) s)) by unfold stripW; rw [h]; rfl]
    rw [h] at k1
    unfold cpB at h
    simp only [Bool.and_eq_true] at h
    obtain ⟨c, rfl, ho, hc⟩ := oneP_cases h.2.1
    rw [hc]
    have ha : 1 ≤ a ∧ a ≤ 3 := by simpa [inr] using h.2.2
    have h128 := ok_128 ho
    have h3 : a = 1 ∨ a = 2 ∨ a = 3 := by omega
    have k2 := fun W => mBn (TrimRight_one s c h128 hs W)
    have k3 := fun W => mBn (TrimLeft_one s c h128 hs W)
    have k4 := fun W => Trim_one s c h128 hs W
    generalize trLB c (trRB c s) = X3 at *
    generalize trLB c s = X2 at *
    generalize trRB c s = X1 at *
    clear h ho hc h128
    rcases h3 with rfl | rfl | rfl
    · rw [if_pos rfl]
      have K1 := Lib.hid k1; have K2 := Lib.hid k2; have K3 := Lib.hid k3; have K4 := Lib.hid k4
      clear k1 k2 k3 k4
      go_enter Tryd.func6, Tryd.ntmps6
      go_wp2_with (first | (go_at_call 16; (with_reducible refine Calls.mono (K1.out _) ?_); rintro r w1 ⟨rfl, hb⟩; replace hB := hB.trans (hb.mono hB.size)) | (go_at_call 17; (with_reducible refine Calls.mono (K2.out _) ?_); rintro r w1 ⟨rfl, hb⟩; replace hB := hB.trans (hb.mono hB.size)) | (go_at_call 18; (with_reducible refine Calls.mono (K3.out _) ?_); rintro r w1 ⟨rfl, hb⟩; replace hB := hB.trans (hb.mono hB.size)) | (go_at_call 19; (with_reducible refine Calls.mono (K4.out _) ?_); rintro r w1 ⟨rfl, hb⟩; replace hB := hB.trans (hb.mono hB.size)))
      all_goals go_ret
      all_goals exact ⟨rfl, hB⟩
    · rw [if_neg (by decide), if_pos rfl]
      have K1 := Lib.hid k1; have K2 := Lib.hid k2; have K3 := Lib.hid k3; have K4 := Lib.hid k4
      clear k1 k2 k3 k4
      go_enter Tryd.func6, Tryd.ntmps6
      go_wp2_with (first | (go_at_call 16; (with_reducible refine Calls.mono (K1.out _) ?_); rintro r w1 ⟨rfl, hb⟩; replace hB := hB.trans (hb.mono hB.size)) | (go_at_call 17; (with_reducible refine Calls.mono (K2.out _) ?_); rintro r w1 ⟨rfl, hb⟩; replace hB := hB.trans (hb.mono hB.size)) | (go_at_call 18; (with_reducible refine Calls.mono (K3.out _) ?_); rintro r w1 ⟨rfl, hb⟩; replace hB := hB.trans (hb.mono hB.size)) | (go_at_call 19; (with_reducible refine Calls.mono (K4.out _) ?_); rintro r w1 ⟨rfl, hb⟩; replace hB := hB.trans (hb.mono hB.size)))
      all_goals go_ret
      all_goals exact ⟨rfl, hB⟩
    · rw [if_neg (by decide), if_neg (by decide)]
      have K1 := Lib.hid k1; have K2 := Lib.hid k2; have K3 := Lib.hid k3; have K4 := Lib.hid k4
      clear k1 k2 k3 k4
      go_enter Tryd.func6, Tryd.ntmps6
      go_wp2_with (first | (go_at_call 16; (with_reducible refine Calls.mono (K1.out _) ?_); rintro r w1 ⟨rfl, hb⟩; replace hB := hB.trans (hb.mono hB.size)) | (go_at_call 17; (with_reducible refine Calls.mono (K2.out _) ?_); rintro r w1 ⟨rfl, hb⟩; replace hB := hB.trans (hb.mono hB.size)) | (go_at_call 18; (with_reducible refine Calls.mono (K3.out _) ?_); rintro r w1 ⟨rfl, hb⟩; replace hB := hB.trans (hb.mono hB.size)) | (go_at_call 19; (with_reducible refine Calls.mono (K4.out _) ?_); rintro r w1 ⟨rfl, hb⟩; replace hB := hB.trans (hb.mono hB.size)))
      all_goals go_ret
      all_goals exact ⟨rfl, hB⟩
set_option maxRecDepth 100000 in
set_option maxHeartbeats 4000000 in
theorem StripTextS_1 (s : ByteArray) (c : UInt8) (w : World) (hs : s.size ≤ 80) (hv : vtB s = true) (hc : okByte c = true) :
    Calls Tryd.prog 7 #[.string s, .string ⟨#[c]⟩, .int .i64 1] w fun r w' => r = .returned (.string (trRB c s)) ∧ Below w.heap.size w w' := by
  have hB := Below.refl w.heap.size w
  have k1 := fun W => validTextS_any s (by omega) W
  have k2 := fun W => printableS_any ⟨#[c]⟩ (by show 1 ≤ _; omega) W
  have k3 := fun W => inRangeS_any 1 1 3 W
  rw [hv] at k1
  rw [show prL (⟨#[c]⟩ : ByteArray).data.toList = true by simp [prL, hc]] at k2
  rw [show inr 1 1 3 = true by decide] at k3
  have e0 : ((⟨#[c]⟩ : ByteArray)[0]'(by simp [ByteArray.size])) = c := rfl
  have K1 := Lib.hid k1; have K2 := Lib.hid k2; have K3 := Lib.hid k3
  clear k1 k2 k3
  clear hv hc
  go_enter Tryd.func7, Tryd.ntmps7
  go_wp2_with (first | (go_at_call 20; (with_reducible refine Calls.mono (K1.out _) ?_); rintro r w1 ⟨rfl, rfl⟩) | (go_at_call 21; (with_reducible refine Calls.mono (K2.out _) ?_); rintro r w1 ⟨rfl, rfl⟩) | (go_at_call 22; (with_reducible refine Calls.mono (K3.out _) ?_); rintro r w1 ⟨rfl, rfl⟩))
  go_loopg [0] s.size (fun g s0 wr => ∃ T1 : ByteArray, Below w.heap.size w wr ∧ s0 = .string T1 ∧ T1.size ≤ s.size ∧ Aside (trRB c T1 = trRB c s) ∧ Aside (g = T1.size))
  case atStart => exact ⟨s, by repeat (first | exact hB | refine below_drewN ?_ _ | refine Below.drew ?_), rfl, Nat.le_refl _, by show _ = _; rfl, by show _ = _; rfl⟩
  case round =>
    obtain ⟨T1, hB, rfl, hk1, hv, hg⟩ := hrel
    have hg' := hg.out
    have hv1 := hv.out
    clear hg hv
    by_cases h01 : T1.size = 0
    · obtain rfl := sz0 h01
      rw [trRB_nil] at hv1
      have HV1 := Lib.hid hv1
      clear hv1
      go_wp2
      go_region
      go_wp2
      refine wp_loop_rounds 1 ?_
      rw [rounds_succ]
      go_wp2
      go_region
      go_wp2
      all_goals go_ret
      all_goals exact ⟨ret_str HV1.out, by repeat (first | exact hB | refine below_drewN ?_ _ | refine Below.drew ?_)⟩
    · have hp1 : 0 < T1.size := by omega
      have hne1 : T1.toList.isEmpty = false := nonempty_list (by omega)
      obtain ⟨k1, hkx⟩ : ∃ k, T1.size = k + 1 := ⟨T1.size - 1, by omega⟩
      have hkk : k1 < T1.size := by omega
      have hki : (k1 : Int) < T1.size := by omega
      have wr1 : IntKind.i64.wrap ((T1.size : Int) - 1) = (k1 : Int) := by rw [IntWalk.i64_in _ (by omega)]; omega
      have wr2 : (T1.size : Int) - 1 = (k1 : Int) := by omega
      have wr3 : ¬ (k1 : Int) < 0 := by omega
      have wr5 : (k1 : Int) ≤ T1.size := by omega
      have hq := beq_u8 (a := T1[k1]) (b := c)
      by_cases hc1 : T1[k1] = c
      · have hst := trR_stepk c hkx hkk hc1
        rw [hv1] at hst
        rw [decide_eq_true hc1] at hq
        have HV := Lib.hid hst
        clear hst hv1 hc1
        have HKX := Lib.hid hkx
        clear hkx
        go_wp2
        go_quiet (fail)
        go_wp2
        go_roundg (k1)
        case measure => have := HKX.out; omega
        case rel => exact ⟨T1.extract 0 k1, by repeat (first | exact hB | refine below_drewN ?_ _ | refine Below.drew ?_), rfl, by rw [ByteArray.size_extract]; omega, HV.out, by show _ = _; rw [ByteArray.size_extract]; omega⟩
      · have hst := trR_stopk c hkx hkk hc1
        rw [hv1] at hst
        rw [decide_eq_false hc1] at hq
        have HV1 := Lib.hid hst
        clear hst hv1 hc1
        have HKX := Lib.hid hkx
        clear hkx
        go_wp2
        go_quiet (fail)
        go_wp2
        (try clear hq)
        refine wp_loop_rounds 1 ?_
        rw [rounds_succ]
        go_wp2
        go_region
        go_wp2
        all_goals go_ret
        all_goals exact ⟨ret_str HV1.out.symm, by repeat (first | exact hB | refine below_drewN ?_ _ | refine Below.drew ?_)⟩
set_option maxRecDepth 100000 in
set_option maxHeartbeats 4000000 in
theorem StripTextS_2 (s : ByteArray) (c : UInt8) (w : World) (hs : s.size ≤ 80) (hv : vtB s = true) (hc : okByte c = true) :
    Calls Tryd.prog 7 #[.string s, .string ⟨#[c]⟩, .int .i64 2] w fun r w' => r = .returned (.string (trLB c s)) ∧ Below w.heap.size w w' := by
  have hB := Below.refl w.heap.size w
  have k1 := fun W => validTextS_any s (by omega) W
  have k2 := fun W => printableS_any ⟨#[c]⟩ (by show 1 ≤ _; omega) W
  have k3 := fun W => inRangeS_any 2 1 3 W
  rw [hv] at k1
  rw [show prL (⟨#[c]⟩ : ByteArray).data.toList = true by simp [prL, hc]] at k2
  rw [show inr 2 1 3 = true by decide] at k3
  have e0 : ((⟨#[c]⟩ : ByteArray)[0]'(by simp [ByteArray.size])) = c := rfl
  have K1 := Lib.hid k1; have K2 := Lib.hid k2; have K3 := Lib.hid k3
  clear k1 k2 k3
  clear hv hc
  go_enter Tryd.func7, Tryd.ntmps7
  go_wp2_with (first | (go_at_call 20; (with_reducible refine Calls.mono (K1.out _) ?_); rintro r w1 ⟨rfl, rfl⟩) | (go_at_call 21; (with_reducible refine Calls.mono (K2.out _) ?_); rintro r w1 ⟨rfl, rfl⟩) | (go_at_call 22; (with_reducible refine Calls.mono (K3.out _) ?_); rintro r w1 ⟨rfl, rfl⟩))
  refine wp_loop_rounds 1 ?_
  rw [rounds_succ]
  go_wp2
  go_region
  go_wp2
  go_loopg [0] s.size (fun g s0 wr => ∃ T1 : ByteArray, Below w.heap.size w wr ∧ s0 = .string T1 ∧ T1.size ≤ s.size ∧ Aside (trLB c T1 = trLB c s) ∧ Aside (g = T1.size))
  case atStart => exact ⟨s, by repeat (first | exact hB | refine below_drewN ?_ _ | refine Below.drew ?_), rfl, Nat.le_refl _, by show _ = _; rfl, by show _ = _; rfl⟩
  case round =>
    obtain ⟨T1, hB, rfl, hk1, hv, hg⟩ := hrel
    have hg' := hg.out
    have hv1 := hv.out
    clear hg hv
    by_cases h01 : T1.size = 0
    · obtain rfl := sz0 h01
      rw [trLB_nil] at hv1
      have HV1 := Lib.hid hv1
      clear hv1
      go_wp2
      go_region
      go_wp2
      all_goals go_ret
      all_goals exact ⟨ret_str HV1.out, by repeat (first | exact hB | refine below_drewN ?_ _ | refine Below.drew ?_)⟩
    · have hp1 : 0 < T1.size := by omega
      have hne1 : T1.toList.isEmpty = false := nonempty_list (by omega)
      have hq := beq_u8 (a := T1[0]) (b := c)
      by_cases hc1 : T1[0] = c
      · have hst := trL_step c hp1 hc1
        rw [hv1] at hst
        rw [decide_eq_true hc1] at hq
        have HV := Lib.hid hst
        clear hst hv1 hc1
        go_wp2
        go_quiet (fail)
        go_wp2
        go_roundg (T1.size - 1)
        case measure => omega
        case rel => exact ⟨T1.extract 1 T1.size, by repeat (first | exact hB | refine below_drewN ?_ _ | refine Below.drew ?_), rfl, by rw [ByteArray.size_extract]; omega, HV.out, by show _ = _; rw [ByteArray.size_extract]; omega⟩
      · have hst := trL_stop c hp1 hc1
        rw [hv1] at hst
        rw [decide_eq_false hc1] at hq
        have HV1 := Lib.hid hst
        clear hst hv1 hc1
        go_wp2
        go_quiet (fail)
        go_wp2
        (try clear hq)
        all_goals go_ret
        all_goals exact ⟨ret_str HV1.out.symm, by repeat (first | exact hB | refine below_drewN ?_ _ | refine Below.drew ?_)⟩
set_option maxRecDepth 100000 in
set_option maxHeartbeats 4000000 in
theorem StripTextS_3 (s : ByteArray) (c : UInt8) (w : World) (hs : s.size ≤ 80) (hv : vtB s = true) (hc : okByte c = true) :
    Calls Tryd.prog 7 #[.string s, .string ⟨#[c]⟩, .int .i64 3] w fun r w' => r = .returned (.string (trLB c (trRB c s))) ∧ Below w.heap.size w w' := by
  have hB := Below.refl w.heap.size w
  have k1 := fun W => validTextS_any s (by omega) W
  have k2 := fun W => printableS_any ⟨#[c]⟩ (by show 1 ≤ _; omega) W
  have k3 := fun W => inRangeS_any 3 1 3 W
  rw [hv] at k1
  rw [show prL (⟨#[c]⟩ : ByteArray).data.toList = true by simp [prL, hc]] at k2
  rw [show inr 3 1 3 = true by decide] at k3
  have e0 : ((⟨#[c]⟩ : ByteArray)[0]'(by simp [ByteArray.size])) = c := rfl
  have K1 := Lib.hid k1; have K2 := Lib.hid k2; have K3 := Lib.hid k3
  clear k1 k2 k3
  clear hv hc
  go_enter Tryd.func7, Tryd.ntmps7
  go_wp2_with (first | (go_at_call 20; (with_reducible refine Calls.mono (K1.out _) ?_); rintro r w1 ⟨rfl, rfl⟩) | (go_at_call 21; (with_reducible refine Calls.mono (K2.out _) ?_); rintro r w1 ⟨rfl, rfl⟩) | (go_at_call 22; (with_reducible refine Calls.mono (K3.out _) ?_); rintro r w1 ⟨rfl, rfl⟩))
  go_loopg [0] s.size (fun g s0 wr => ∃ T1 : ByteArray, Below w.heap.size w wr ∧ s0 = .string T1 ∧ T1.size ≤ s.size ∧ Aside (trRB c T1 = trRB c s) ∧ Aside (g = T1.size))
  case atStart => exact ⟨s, by repeat (first | exact hB | refine below_drewN ?_ _ | refine Below.drew ?_), rfl, Nat.le_refl _, by show _ = _; rfl, by show _ = _; rfl⟩
  case round =>
    obtain ⟨T1, hB, rfl, hk1, hv, hg⟩ := hrel
    have hg' := hg.out
    have hv1 := hv.out
    clear hg hv
    by_cases h01 : T1.size = 0
    · obtain rfl := sz0 h01
      rw [trRB_nil] at hv1
      have HV1 := Lib.hid hv1
      clear hv1
      go_wp2
      go_region
      go_wp2
      refine wp_loop_rounds 1 ?_
      rw [rounds_succ]
      go_wp2
      go_region
      go_wp2
      all_goals go_ret
      all_goals exact ⟨ret_str (by rw [← HV1.out]; rfl), by repeat (first | exact hB | refine below_drewN ?_ _ | refine Below.drew ?_)⟩
    · have hp1 : 0 < T1.size := by omega
      have hne1 : T1.toList.isEmpty = false := nonempty_list (by omega)
      obtain ⟨k1, hkx⟩ : ∃ k, T1.size = k + 1 := ⟨T1.size - 1, by omega⟩
      have hkk : k1 < T1.size := by omega
      have hki : (k1 : Int) < T1.size := by omega
      have wr1 : IntKind.i64.wrap ((T1.size : Int) - 1) = (k1 : Int) := by rw [IntWalk.i64_in _ (by omega)]; omega
      have wr2 : (T1.size : Int) - 1 = (k1 : Int) := by omega
      have wr3 : ¬ (k1 : Int) < 0 := by omega
      have wr5 : (k1 : Int) ≤ T1.size := by omega
      have hq := beq_u8 (a := T1[k1]) (b := c)
      by_cases hc1 : T1[k1] = c
      · have hst := trR_stepk c hkx hkk hc1
        rw [hv1] at hst
        rw [decide_eq_true hc1] at hq
        have HV := Lib.hid hst
        clear hst hv1 hc1
        have HKX := Lib.hid hkx
        clear hkx
        go_wp2
        go_quiet (fail)
        go_wp2
        go_roundg (k1)
        case measure => have := HKX.out; omega
        case rel => exact ⟨T1.extract 0 k1, by repeat (first | exact hB | refine below_drewN ?_ _ | refine Below.drew ?_), rfl, by rw [ByteArray.size_extract]; omega, HV.out, by show _ = _; rw [ByteArray.size_extract]; omega⟩
      · have hst := trR_stopk c hkx hkk hc1
        rw [hv1] at hst
        rw [decide_eq_false hc1] at hq
        have HV1 := Lib.hid hst
        clear hst hv1 hc1
        have HKX := Lib.hid hkx
        clear hkx
        go_wp2
        go_quiet (fail)
        go_wp2
        (try clear hq)
        go_loopg [0] T1.size (fun g s0 wr => ∃ T2 : ByteArray, Below w.heap.size w wr ∧ s0 = .string T2 ∧ T2.size ≤ T1.size ∧ Aside (trLB c T2 = trLB c T1) ∧ Aside (g = T2.size))
        case atStart => exact ⟨T1, by repeat (first | exact hB | refine below_drewN ?_ _ | refine Below.drew ?_), rfl, Nat.le_refl _, by show _ = _; rfl, by show _ = _; rfl⟩
        case round =>
          obtain ⟨T2, hB, rfl, hk2, hv, hg⟩ := hrel
          have hg' := hg.out
          have hv2 := hv.out
          clear hg hv
          by_cases h02 : T2.size = 0
          · obtain rfl := sz0 h02
            rw [trLB_nil] at hv2
            have HV2 := Lib.hid hv2
            clear hv2
            go_wp2
            go_region
            go_wp2
            all_goals go_ret
            all_goals exact ⟨ret_str (by rw [HV1.out]; exact HV2.out), by repeat (first | exact hB | refine below_drewN ?_ _ | refine Below.drew ?_)⟩
          · have hp2 : 0 < T2.size := by omega
            have hne2 : T2.toList.isEmpty = false := nonempty_list (by omega)
            have hq := beq_u8 (a := T2[0]) (b := c)
            by_cases hc2 : T2[0] = c
            · have hst := trL_step c hp2 hc2
              rw [hv2] at hst
              rw [decide_eq_true hc2] at hq
              have HV := Lib.hid hst
              clear hst hv2 hc2
              go_wp2
              go_quiet (fail)
              go_wp2
              go_roundg (T2.size - 1)
              case measure => omega
              case rel => exact ⟨T2.extract 1 T2.size, by repeat (first | exact hB | refine below_drewN ?_ _ | refine Below.drew ?_), rfl, by rw [ByteArray.size_extract]; omega, HV.out, by show _ = _; rw [ByteArray.size_extract]; omega⟩
            · have hst := trL_stop c hp2 hc2
              rw [hv2] at hst
              rw [decide_eq_false hc2] at hq
              have HV2 := Lib.hid hst
              clear hst hv2 hc2
              go_wp2
              go_quiet (fail)
              go_wp2
              (try clear hq)
              all_goals go_ret
              all_goals exact ⟨ret_str (by rw [HV1.out]; exact HV2.out.symm), by repeat (first | exact hB | refine below_drewN ?_ _ | refine Below.drew ?_)⟩
set_option maxRecDepth 100000 in
set_option maxHeartbeats 4000000 in
theorem StripTextS_any (s f : ByteArray) (a : Int) (hs : s.size ≤ 9223372036854775807) (hf : f.size ≤ 9223372036854775807) (w : World) :
    Calls Tryd.prog 7 #[.string s, .string f, .int .i64 a] w fun r w' => r = .returned (.string (stripW s f a)) ∧ Below w.heap.size w w' := by
  cases h : cpB s f a
  · rw [show stripW s f a = ⟨#[]⟩ by unfold stripW; rw [h]; rfl]
    have k1 := fun W => validTextS_any s hs W
    have k2 := fun W => printableS_any f hf W
    have k3 := fun W => inRangeS_any a 1 3 W
    unfold cpB at h
    generalize vtB s = b1 at *
    generalize inr a 1 3 = b3 at *
    rcases bytes_cases f with rfl | ⟨b, rfl⟩ | h2
    · clear h
      have K1 := Lib.hid k1; have K2 := Lib.hid k2; have K3 := Lib.hid k3
      clear k1 k2 k3
      go_enter Tryd.func7, Tryd.ntmps7
      go_wp2_with (first | (go_at_call 20; (with_reducible refine Calls.mono (K1.out _) ?_); rintro r w1 ⟨rfl, rfl⟩) | (go_at_call 21; (with_reducible refine Calls.mono (K2.out _) ?_); rintro r w1 ⟨rfl, rfl⟩) | (go_at_call 22; (with_reducible refine Calls.mono (K3.out _) ?_); rintro r w1 ⟨rfl, rfl⟩))
      all_goals go_ret
      all_goals exact ⟨rfl, Below.refl _ _⟩
    · rw [show prL (⟨#[b]⟩ : ByteArray).data.toList = oneP ⟨#[b]⟩ by simp [prL, oneP]] at k2
      generalize oneP ⟨#[b]⟩ = b4 at *
      have hcs : b1 = false ∨ (b1 = true ∧ b4 = false) ∨ (b1 = true ∧ b4 = true ∧ b3 = false) := by cases b1 <;> cases b4 <;> cases b3 <;> simp_all
      clear h
      rcases hcs with rfl | ⟨rfl, rfl⟩ | ⟨rfl, rfl, rfl⟩
      all_goals (
        have K1 := Lib.hid k1; have K2 := Lib.hid k2; have K3 := Lib.hid k3
        clear k1 k2 k3
        go_enter Tryd.func7, Tryd.ntmps7
        go_wp2_with (first | (go_at_call 20; (with_reducible refine Calls.mono (K1.out _) ?_); rintro r w1 ⟨rfl, rfl⟩) | (go_at_call 21; (with_reducible refine Calls.mono (K2.out _) ?_); rintro r w1 ⟨rfl, rfl⟩) | (go_at_call 22; (with_reducible refine Calls.mono (K3.out _) ?_); rintro r w1 ⟨rfl, rfl⟩))
        all_goals go_ret
        all_goals exact ⟨rfl, Below.refl _ _⟩)
    · have i1 : ((f.size : Int) == 1) = false := by simp; omega
      have i2 : ¬ (f.size : Int) = 1 := by omega
      have i3 : ((f.size : Int) != 1) = true := by simp; omega
      clear h
      have K1 := Lib.hid k1; have K2 := Lib.hid k2; have K3 := Lib.hid k3
      clear k1 k2 k3
      go_enter Tryd.func7, Tryd.ntmps7
      go_wp2_with (first | (go_at_call 20; (with_reducible refine Calls.mono (K1.out _) ?_); rintro r w1 ⟨rfl, rfl⟩) | (go_at_call 21; (with_reducible refine Calls.mono (K2.out _) ?_); rintro r w1 ⟨rfl, rfl⟩) | (go_at_call 22; (with_reducible refine Calls.mono (K3.out _) ?_); rintro r w1 ⟨rfl, rfl⟩))
      all_goals go_ret
      all_goals exact ⟨rfl, Below.refl _ _⟩
  · rw [show stripW s f a = (if a = 1 then trRB (hd1 f) s else if a = 2 then trLB (hd1 f) s else trLB (hd1 f) (trRB (hd1 f) s)) by unfold stripW; rw [h]; rfl]
    unfold cpB at h
    simp only [Bool.and_eq_true] at h
    obtain ⟨c, rfl, ho, hc⟩ := oneP_cases h.2.1
    rw [hc]
    have ha : 1 ≤ a ∧ a ≤ 3 := by simpa [inr] using h.2.2
    have h3 : a = 1 ∨ a = 2 ∨ a = 3 := by omega
    have hz := vtB_size h.1
    rcases h3 with rfl | rfl | rfl
    · exact StripTextS_1 s c w hz h.1 ho
    · exact StripTextS_2 s c w hz h.1 ho
    · exact StripTextS_3 s c w hz h.1 ho
end Go.Proofs.YtcbpocpkfmbaoaaDoor
