import Derived.Test.YtamlnbciejnbdaaGreatDoorF8
namespace Go.Proofs.YtamlnbciejnbdaaGreatDoor
open Go Go.RowKit
/-- where the point is -/
theorem ptL_dot {A B : List UInt8} (hA : ∀ b, b ∈ A → IsDg b) (hB : ∀ b, b ∈ B → IsDg b) : (ptL A B).length = A.length + (if B.length = 0 then 0 else B.length + 1) ∧ ∀ (i : Nat) (h : i < (ptL A B).length), ((ptL A B)[i] = 46 ↔ i = A.length) := by
  unfold ptL restL
  by_cases hb : B = []
  · subst hb
    simp only [and_self, if_true, List.append_nil, List.length_nil]
    refine ⟨rfl, fun i h => ?_⟩
    constructor
    · intro e
      exact absurd e (dg_ne' (hA _ (List.getElem_mem h)))
    · intro e
      omega
  · have hl : B.length ≠ 0 := by
      intro e
      exact hb (List.length_eq_zero_iff.1 e)
    rw [if_neg (by simp [hb]), if_neg hl]
    refine ⟨by simp, fun i h => ?_⟩
    rcases Nat.lt_trichotomy i A.length with hi | hi | hi
    · rw [List.getElem_append_left hi]
      constructor
      · intro e
        exact absurd e (dg_ne' (hA _ (List.getElem_mem hi)))
      · intro e
        omega
    · subst hi
      simp
    · rw [List.getElem_append_right (by omega)]
      obtain ⟨j, hj⟩ : ∃ j, i - A.length = j + 1 := ⟨i - A.length - 1, by omega⟩
      simp only [hj, List.append_nil, List.getElem_cons_succ]
      constructor
      · intro e
        exact absurd e (dg_ne' (hB _ (List.getElem_mem _)))
      · intro e
        omega
theorem roundI_in {n : Bool} {c e : Int} {p : Nat} (hv : Fd.vld ⟨n, c, e⟩ = true) (hp : p ≤ 9) : Fd.roundI ⟨false, c, e⟩ p = (Fd.fit1 (Fd.dropI ⟨false, c, e⟩ (-p - e))).1 := by
  have hv2 : Fd.vld ⟨false, c, e⟩ = true := by
    have h := Fd.vld_iff.1 hv
    exact Fd.vld_iff.2 ⟨h.1, h.2.1, h.2.2.1, h.2.2.2.1, by intro h; cases h⟩
  unfold Fd.roundI
  rw [hv2, decide_eq_false (by omega), decide_eq_false (by omega)]
  rfl
set_option maxRecDepth 100000 in
set_option maxHeartbeats 8000000 in
theorem FnFixedText_law (s : Option Addr) (len cap : Nat) (w : World) (hT : PT w) (hM : HasMax w) (hcode : CodeAt s len w.heap.size w) (hcap : len ≤ cap) :
    Calls Tryz.prog 3 #[.slice s len cap] w fun r w' => r = .returned (.bool true) ∧ Below w.heap.size w w' := by
  by_cases hl : 1048576 < len
  · go_enter Tryz.func3, Tryz.ntmps3
    go_wp2
    go_ret
    exact ⟨rfl, (by repeat (first | with_reducible exact Below.refl _ _ | with_reducible assumption | with_reducible refine Below.setCell ?_ (by first | omega | (simp; done) | (simp <;> omega)) _ | with_reducible refine below_drewN ?_ _ | with_reducible refine Below.drew ?_ | with_reducible refine Below.alloc ?_ (by first | omega | (simp; done) | (simp <;> omega)) _))⟩
  go_enter Tryz.func3, Tryz.ntmps3
  go_wp2_with (go_at_call 10; (with_reducible refine Calls.mono (DrawFixedText_any _ _ _ _ hcode hcap) ?_); rintro r w1 ⟨⟨n, c, e, p, rfl⟩, hB⟩; have hz := hB.size)
  have k1 := fun W (h : PT W) => FixedText_any n c e p W h
  have k2 := fun W => FixedTextS_any n c e p W
  have hXX : ∀ l : List UInt8, (l != l) = false := fun l => by simp
  have hXY : ∀ l : List UInt8, (l == l) = true := fun l => by simp
  have zb := C3.new w1 (.bool n) (.int .i64 c) (.int .i64 e) 24
  replace hB : Below w.heap.size w (w1.alloc (.cells #[.bool n, .int .i64 c, .int .i64 e] 24)) := hB.alloc (by omega) _
  have zz := zb
  obtain ⟨x0, x1, x2, x3, x4, x5, x6⟩ := zz
  cases hk : (Fd.vld ⟨n, c, e⟩ && inr p 0 9)
  · have hw : fixW n c e p = ⟨#[]⟩ := by unfold fixW; rw [hk]; rfl
    rw [hw] at k1 k2
    have K1 := Lib.hid k1; have K2 := Lib.hid k2
    clear k1 k2 hw hk
    go_wp2_with (first | (go_at_call 11; (with_reducible refine Calls.mono (K1.out _ (hT.on hB)) ?_); rintro r w2 ⟨rfl, hb⟩; replace hB := hB.trans (hb.mono hB.size); have hz := hB.size; replace zb := C3.carry zb hb; have zz := zb; obtain ⟨x0, x1, x2, x3, x4, x5, x6⟩ := zz) | (go_at_call 12; (with_reducible refine Calls.mono (K2.out _) ?_); rintro r w2 ⟨rfl, hb⟩; replace hB := hB.trans (hb.mono hB.size); have hz := hB.size; replace zb := C3.carry zb hb; have zz := zb; obtain ⟨x0, x1, x2, x3, x4, x5, x6⟩ := zz))
    all_goals go_ret
    all_goals exact ⟨rfl, hB⟩
  · have hw : fixW n c e p = ⟨(ptL (fxA c e p.toNat) (fxB c e p.toNat)).toArray⟩ := by unfold fixW; rw [hk]; rfl
    rw [hw] at k1 k2
    rw [Bool.and_eq_true] at hk
    obtain ⟨hv, hpp⟩ := hk
    have hp9 : 0 ≤ p ∧ p ≤ 9 := by simpa only [inr, Bool.and_eq_true, decide_eq_true_eq] using hpp
    obtain ⟨P, rfl⟩ := Int.eq_ofNat_of_zero_le hp9.1
    rw [show ((P : Nat) : Int).toNat = P from rfl] at k1 k2 hw
    obtain ⟨v0, v1, v2, v3⟩ := vld_b hv
    obtain ⟨v, x, R⟩ := rd_facts v0 v1 v2 v3 (show P ≤ 12 by omega)
    have k3 := fun W (h : HasMax W) => ReadReal_pt _ _ v x W h R.da R.db R.la R.ll R.hv R.v0 R.v1 R.hx R.x0 R.x1
    rw [R.ft] at k3
    have k4 := fun W => amount_any n c e W hv
    have k5 := fun W => RoundDec_any false c e P W
    rw [roundI_in hv (show P ≤ 9 by omega)] at k5
    generalize (Fd.fit1 (Fd.dropI ⟨false, c, e⟩ (-P - e))) = F at *
    obtain ⟨⟨fn, fc, fe⟩, fo⟩ := F
    dsimp only at k3 k5
    obtain ⟨hlen, hdot⟩ := ptL_dot R.da R.db
    rw [R.lb] at hlen
    have hll := ptL_len R.ll
    have hmem := ptL_mem R.da R.db
    have hla := R.la
    have k6 := fun W => mBn (countByte_any (ptL (fxA c e P) (fxB c e P)) 45 W (by omega))
    rw [show (((45 : UInt8).toNat : Nat) : Int) = 45 from rfl, wo_self (fun b hb => dg_ne (k := 45) (hmem b hb) (by decide)), Int.sub_self] at k6
    clear hw hpp hmem R hv
    generalize (fxA c e P).length = a at *
    generalize hTT : ptL (fxA c e P) (fxB c e P) = T at *
    have hd2 : ∀ (i : Nat) (h : i < (⟨T.toArray⟩ : ByteArray).size), ((⟨T.toArray⟩ : ByteArray)[i] = 46 ↔ i = a) := fun i h => hdot i h
    have hsz : (⟨T.toArray⟩ : ByteArray).size = a + (if P = 0 then 0 else P + 1) := hlen
    have hs71 : (⟨T.toArray⟩ : ByteArray).size ≤ 71 := hll
    have hs1 : 1 ≤ (⟨T.toArray⟩ : ByteArray).size := by omega
    clear hdot hTT hlen hll
    generalize (⟨T.toArray⟩ : ByteArray) = ST at *
    have hne : ST.toList.isEmpty = false := nonempty_list hs1
    have K1 := Lib.hid k1; have K2 := Lib.hid k2; have K3 := Lib.hid k3; have K4 := Lib.hid k4; have K5 := Lib.hid k5; have K6 := Lib.hid k6; have HD := Lib.hid hd2; have HL := Lib.hid hsz
    clear k1 k2 k3 k4 k5 k6 hd2 hsz
    cases fo
    all_goals (
      go_wp2_with (first | (go_at_call 11; (with_reducible refine Calls.mono (K1.out _ (hT.on hB)) ?_); rintro r w2 ⟨rfl, hb⟩; replace hB := hB.trans (hb.mono hB.size); have hz := hB.size; replace zb := C3.carry zb hb; have zz := zb; obtain ⟨x0, x1, x2, x3, x4, x5, x6⟩ := zz) | (go_at_call 12; (with_reducible refine Calls.mono (K2.out _) ?_); rintro r w2 ⟨rfl, hb⟩; replace hB := hB.trans (hb.mono hB.size); have hz := hB.size; replace zb := C3.carry zb hb; have zz := zb; obtain ⟨x0, x1, x2, x3, x4, x5, x6⟩ := zz) | (go_at_call 13; (with_reducible refine Calls.mono (K3.out _ (hM.on hB)) ?_); rintro r w2 ⟨rfl, hb⟩; replace hB := hB.trans (hb.mono hB.size); have hz := hB.size; replace zb := C3.carry zb hb; have zz := zb; obtain ⟨x0, x1, x2, x3, x4, x5, x6⟩ := zz))
      have zg := C3.new w2 (.bool fn) (.int .i64 fc) (.int .i64 fe) 24
      replace zb := zb.up (.cells #[.bool fn, .int .i64 fc, .int .i64 fe] 24)
      replace hB : Below w.heap.size w (w2.alloc (.cells #[.bool fn, .int .i64 fc, .int .i64 fe] 24)) := hB.alloc (by omega) _
      clear x0 x1 x2 x3 x4 x5 x6
      have zz := zb
      obtain ⟨x0, x1, x2, x3, x4, x5, x6⟩ := zz
      have zy := zg
      obtain ⟨g0, g1, g2, g3, g4, g5, g6⟩ := zy
      go_loopg [8, 9] ST.size (fun g s8 s9 wr => ∃ (k nn : Nat), wr = w2.alloc (.cells #[.bool fn, .int .i64 fc, .int .i64 fe] 24) ∧ s8 = .int .i64 nn ∧ s9 = .int .i64 k ∧ k ≤ ST.size ∧ Aside (nn = if a < k then P else 0) ∧ Aside (g = ST.size - k))
      case atStart => exact ⟨0, 0, rfl, rfl, rfl, by omega, by show _ = _; rw [if_neg (by omega)], by show _ = _; omega⟩
      case round =>
        obtain ⟨k, nn, rfl, rfl, rfl, hk, hn, hg⟩ := hrel
        have hn' := hn.out
        have hg' := hg.out
        clear hn hg
        have hL := HL.out
        by_cases hlt : k < ST.size
        · have i1 : (k : Int) < ST.size := by omega
          have hd := HD.out k hlt
          have HN := Lib.hid hn'
          by_cases hc : k = a
          · subst hc
            have e46 : ((ST[k].toNat : Int) == 46) = true := by rw [hd.2 rfl]; rfl
            have hN : (ST.size : Int) - k - 1 = P := by
              by_cases hP : P = 0
              · rw [if_pos hP] at hL; omega
              · rw [if_neg hP] at hL; omega
            have HQ := Lib.hid hN; have HLL := Lib.hid hL
            clear hN hL hn' hd
            go_wp2
            go_roundg (ST.size - (k + 1))
            case measure => omega
            case rel => exact ⟨k + 1, P, rfl, by rw [← HQ.out], by go_num, by omega, by show _ = _; rw [if_pos (by omega)], rfl⟩
          · have e46 : ((ST[k].toNat : Int) == 46) = false := by
              rw [beq_eq_false_iff_ne]
              intro h
              exact hc (hd.1 (UInt8.toNat_inj.1 (by show ST[k].toNat = 46; omega)))
            have HLL := Lib.hid hL
            have HNN : Hid (nn = if a < k + 1 then P else 0) := Lib.hid (by
              by_cases h : a < k
              · rw [if_pos h] at hn'; rw [if_pos (by omega)]; exact hn'
              · rw [if_neg h] at hn'; rw [if_neg (by omega)]; exact hn')
            clear hL hn' hd
            go_wp2
            go_roundg (ST.size - (k + 1))
            case measure => omega
            case rel => exact ⟨k + 1, nn, rfl, rfl, by go_num, by omega, HNN.out, rfl⟩
        · obtain rfl : k = ST.size := by omega
          have i1 : ¬ (ST.size : Int) < ST.size := by omega
          obtain rfl : nn = P := by
            by_cases hP : P = 0
            · rw [if_pos hP] at hL; rw [if_neg (by omega)] at hn'; omega
            · rw [if_neg hP] at hL; rw [if_pos (by omega)] at hn'; omega
          clear hL hn'
          go_wp2
          obtain ⟨szb0, szb1, szb2⟩ := C3.since zb
          obtain ⟨szg0, szg1, szg2⟩ := C3.since zg
          refine wp_region_since (by kernel_rfl) (by kernel_rfl) ?_
          repeat (quiet_step (first | (go_at_call 15; with_reducible exact Calls.since_of (K4.out _)) | (go_at_call 14; with_reducible exact Calls.since_of (K5.out _)) | (go_at_call 16; with_reducible exact Calls.since_of (K6.out _))))
          refine wpQuiet_nil ?_
          intro w_ hw_
          obtain ⟨⟨w1, hb⟩, hw2⟩ := hw_
          have hw3 : w1 = w_ := hw2.symm
          clear hw2
          subst hw3
          clear szb0 szb1 szb2 szg0 szg1 szg2
          replace hB := hB.trans (hb.mono hB.size)
          have hz := hb.size
          replace zb := C3.carry zb hb
          have zz := zb
          obtain ⟨x0, x1, x2, x3, x4, x5, x6⟩ := zz
          replace zg := C3.carry zg hb
          have zz := zg
          obtain ⟨x0, x1, x2, x3, x4, x5, x6⟩ := zz
          go_wp2
          all_goals go_ret
          all_goals exact ⟨rfl, hB⟩)
end Go.Proofs.YtamlnbciejnbdaaGreatDoor
