import Derived.Test.YtebheehjhnaklaaGreatDoorRP3
import Derived.BigQuiet
namespace Go.Proofs.YtebheehjhnaklaaGreatDoor
open Go Go.RowKit
set_option maxRecDepth 100000 in
set_option maxHeartbeats 8000000 in
theorem FnExpText_law (s : Option Addr) (len cap : Nat) (w : World) (hT : PT w) (hM : HasMax w) (hE : ErV w) (hcode : CodeAt s len w.heap.size w) (hcap : len ≤ cap) :
    Calls Tryz.prog 3 #[.slice s len cap] w fun r w' => r = .returned (.bool true) ∧ Below w.heap.size w w' := by
  by_cases hl : 1048576 < len
  · go_enter Tryz.func3, Tryz.ntmps3
    go_wp2
    go_ret
    exact ⟨rfl, (by repeat (first | with_reducible exact Below.refl _ _ | with_reducible assumption | with_reducible refine Below.setCell ?_ (by first | omega | (simp; done) | (simp <;> omega)) _ | with_reducible refine below_drewN ?_ _ | with_reducible refine Below.drew ?_ | with_reducible refine Below.alloc ?_ (by first | omega | (simp; done) | (simp <;> omega)) _))⟩
  go_enter Tryz.func3, Tryz.ntmps3
  go_wp2_with (go_at_call 10; (with_reducible refine Calls.mono (DrawExpText_any _ _ _ _ hcode hcap) ?_); rintro r w1 ⟨⟨n, c, e, p, rfl⟩, hB⟩; have hz := hB.size)
  have k1 := fun W (h : PT W) => ExpText_any n c e p W h
  have k2 := fun W => ExpTextS_any n c e p W
  have hXX : ∀ l : List UInt8, (l != l) = false := fun l => by simp
  have hXY : ∀ l : List UInt8, (l == l) = true := fun l => by simp
  have zb := C3.new w1 (.bool n) (.int .i64 c) (.int .i64 e) 24
  replace hB : Below w.heap.size w (w1.alloc (.cells #[.bool n, .int .i64 c, .int .i64 e] 24)) := hB.alloc (by omega) _
  have zz := zb
  obtain ⟨x0, x1, x2, x3, x4, x5, x6⟩ := zz
  cases hk : (Fd.vld ⟨n, c, e⟩ && inr p 0 8)
  · have hw : expW n c e p = ⟨#[]⟩ := by unfold expW; rw [hk]; rfl
    rw [hw] at k1 k2
    have K1 := Lib.hid k1; have K2 := Lib.hid k2
    clear k1 k2 hw hk
    go_wp2_with (first | (go_at_call 11; (with_reducible refine Calls.mono (K1.out _ (hT.on hB)) ?_); rintro r w2 ⟨rfl, hb⟩; replace hB := hB.trans (hb.mono hB.size); have hz := hB.size; replace zb := C3.carry zb hb; have zz := zb; obtain ⟨x0, x1, x2, x3, x4, x5, x6⟩ := zz) | (go_at_call 12; (with_reducible refine Calls.mono (K2.out _) ?_); rintro r w2 ⟨rfl, hb⟩; replace hB := hB.trans (hb.mono hB.size); have hz := hB.size; replace zb := C3.carry zb hb; have zz := zb; obtain ⟨x0, x1, x2, x3, x4, x5, x6⟩ := zz))
    all_goals go_ret
    all_goals exact ⟨rfl, hB⟩
  · have hw : expW n c e p = ⟨(etL n c e p.toNat).toArray⟩ := by unfold expW; rw [hk]; rfl
    rw [hw] at k1 k2
    rw [Bool.and_eq_true] at hk
    obtain ⟨hv, hpp⟩ := hk
    have hp9 : 0 ≤ p ∧ p ≤ 8 := by simpa only [inr, Bool.and_eq_true, decide_eq_true_eq] using hpp
    obtain ⟨P, rfl⟩ := Int.eq_ofNat_of_zero_le hp9.1
    rw [show ((P : Nat) : Int).toNat = P from rfl] at k1 k2 hw
    have hv2 := vld_falseP hv
    have v0 := (vld_b hv).1
    have k3 := fun W (h : HasMax W) (h2 : ErV W) => ReadReal_any (etL n c e P) W h h2
    obtain ⟨l1, l2⟩ := et_len (n := n) hv2 (show P ≤ 8 by omega)
    rw [show rrX (etL n c e P) = rrL (etL n c e P) from if_pos l2] at k3
    obtain ⟨r1, r2⟩ := rr_exp (n := n) hv2 (show P ≤ 8 by omega)
    have k4 := fun W => amount_any n c e W hv
    have k5 := fun W => RoundDigits_any false c e (P + 1) W
    have wr1 : IntKind.i64.wrap ((P : Int) + 1) = (P : Int) + 1 := IntWalk.i64_in _ (by omega)
    have wr2 : IntKind.i64.wrap ((P : Int) + 2) = (P : Int) + 2 := IntWalk.i64_in _ (by omega)
    have hP8 : P ≤ 8 := by omega
    clear hw hpp hp9
    by_cases h0 : 0 < c
    · have hcz : (c == 0) = false := by rw [beq_eq_false_iff_ne]; omega
      have hr := r1 h0
      obtain ⟨a0, q, h48, hq, hsh⟩ := exp_shape (n := n) hv2 h0 (show P ≤ 8 by omega)
      generalize rrL (etL n c e P) = F at *
      generalize etL n c e P = T at *
      obtain ⟨⟨fn, fc, fe⟩, fo⟩ := F
      simp only at hr
      rw [← hr] at k5
      dsimp only at k3 k5
      clear r1 r2 hr hv hv2
      have e48 : ((a0.toNat : Int) == 48) = false := byte_is 48 h48
      rcases hsh with ⟨rfl, rfl⟩ | ⟨hP, B, hB2, rfl⟩
      · have hne : (⟨(a0 :: 101 :: q).toArray⟩ : ByteArray).toList.isEmpty = false := nonempty_list (by show 1 ≤ (a0 :: 101 :: q).length; simp)
        have s2 : 2 ≤ (⟨(a0 :: 101 :: q).toArray⟩ : ByteArray).size := by show 2 ≤ (a0 :: 101 :: q).length; simp
        have c0 : ∀ h, (((⟨(a0 :: 101 :: q).toArray⟩ : ByteArray)[0]'h).toNat : Int) = a0.toNat := fun _ => rfl
        have c1 : ∀ h, (((⟨(a0 :: 101 :: q).toArray⟩ : ByteArray)[1]'h).toNat : Int) = 101 := fun _ => rfl
        generalize (⟨(a0 :: 101 :: q).toArray⟩ : ByteArray) = ST at *
        have s3 : (2 : Int) ≤ ST.size := by omega
        have p0 : 0 < ST.size := by omega
        have p1 : 1 < ST.size := by omega
        have p1i : (1 : Int) < ST.size := by omega
        have c48 : (((ST[0]'(by omega)).toNat : Int) == 48) = false := by rw [c0]; exact e48
        have c48n : (((ST[0]'(by omega)).toNat : Int) != 48) = true := by rw [bne, c48]; rfl
        have c101 : (((ST[1]'(by omega)).toNat : Int) == 101) = true := by rw [c1]; rfl
        have wr0 : IntKind.i64.wrap 1 = 1 := IntWalk.i64_in _ (by omega)
        have k5' : ∀ W, Calls Tryz.prog 14 #[.agg #[.bool false, .int .i64 c, .int .i64 e], .int .i64 1] W fun r w' => r = .returned (.agg #[.bool fn, .int .i64 fc, .int .i64 fe]) ∧ Below W.heap.size W w' := k5
        clear k5
        have k5 := k5'
        clear k5'
        have hids := Lib.hid (And.intro c48 (And.intro c48n (And.intro c101 wr0)))
        clear c48 c48n c101 wr1 wr2 wr0
        clear l1 l2 hq h48 c0 c1 e48
        have K1 := Lib.hid k1; have K2 := Lib.hid k2; have K3 := Lib.hid k3; have K4 := Lib.hid k4; have K5 := Lib.hid k5
        clear k1 k2 k3 k4 k5
        cases fo
        all_goals (
          go_wp2_with (first | (go_at_call 11; (with_reducible refine Calls.mono (K1.out _ (hT.on hB)) ?_); rintro r w2 ⟨rfl, hb⟩; replace hB := hB.trans (hb.mono hB.size); have hz := hB.size; replace zb := C3.carry zb hb; have zz := zb; obtain ⟨x0, x1, x2, x3, x4, x5, x6⟩ := zz) | (go_at_call 12; (with_reducible refine Calls.mono (K2.out _) ?_); rintro r w2 ⟨rfl, hb⟩; replace hB := hB.trans (hb.mono hB.size); have hz := hB.size; replace zb := C3.carry zb hb; have zz := zb; obtain ⟨x0, x1, x2, x3, x4, x5, x6⟩ := zz) | (go_at_call 13; (with_reducible refine Calls.mono (K3.out _ (hM.on hB) (hE.on hB)) ?_); rintro r w2 ⟨rfl, hb⟩; replace hB := hB.trans (hb.mono hB.size); have hz := hB.size; replace zb := C3.carry zb hb; have zz := zb; obtain ⟨x0, x1, x2, x3, x4, x5, x6⟩ := zz))
          have zg := C3.new w2 (.bool fn) (.int .i64 fc) (.int .i64 fe) 24
          replace zb := zb.up (.cells #[.bool fn, .int .i64 fc, .int .i64 fe] 24)
          replace hB : Below w.heap.size w (w2.alloc (.cells #[.bool fn, .int .i64 fc, .int .i64 fe] 24)) := hB.alloc (by omega) _
          clear x0 x1 x2 x3 x4 x5 x6
          have zz := zb
          obtain ⟨x0, x1, x2, x3, x4, x5, x6⟩ := zz
          have zy := zg
          obtain ⟨g0, g1, g2, g3, g4, g5, g6⟩ := zy
          obtain ⟨c48, c48n, c101, wr0⟩ := hids.out
          obtain ⟨szb0, szb1, szb2⟩ := C3.since zb
          obtain ⟨szg0, szg1, szg2⟩ := C3.since zg
          refine wp_region_since (by kernel_rfl) (by kernel_rfl) ?_
          iterate 24 (quiet_step (first | (go_at_call 15; with_reducible exact Calls.since_of (K4.out _)) | (go_at_call 14; with_reducible exact Calls.since_of (K5.out _))))
          repeat (first | ((with_reducible refine wpQuiet_step (fun K hK => ?_)); go_simp; (with_reducible refine hK _ ?_); clear hK K) | ((with_reducible refine BigFrame.wpQuiet_skip (by kernel_rfl) ?_)))
          with_reducible refine wpQuiet_nil ?_
          intro w_ hw_
          obtain ⟨⟨w1, hb⟩, hw2⟩ := hw_
          have hw3 : w1 = w_ := hw2.symm
          clear hw2
          subst hw3
          clear szb0 szb1 szb2 szg0 szg1 szg2
          replace hB := hB.trans (hb.mono hB.size)
          have hz := hb.size
          go_wp2
          all_goals go_ret
          all_goals exact ⟨rfl, hB⟩)
      · have hne : (⟨(a0 :: 46 :: (B ++ 101 :: q)).toArray⟩ : ByteArray).toList.isEmpty = false := nonempty_list (by show 1 ≤ (a0 :: 46 :: (B ++ 101 :: q)).length; simp)
        have s2 : P + 3 ≤ (⟨(a0 :: 46 :: (B ++ 101 :: q)).toArray⟩ : ByteArray).size := by show P + 3 ≤ (a0 :: 46 :: (B ++ 101 :: q)).length; simp; omega
        have c0 : ∀ h, (((⟨(a0 :: 46 :: (B ++ 101 :: q)).toArray⟩ : ByteArray)[0]'h).toNat : Int) = a0.toNat := fun _ => rfl
        have c1 : ∀ h, (((⟨(a0 :: 46 :: (B ++ 101 :: q)).toArray⟩ : ByteArray)[1]'h).toNat : Int) = 46 := fun _ => rfl
        have c2 : ∀ h, (((⟨(a0 :: 46 :: (B ++ 101 :: q)).toArray⟩ : ByteArray)[P + 2]'h).toNat : Int) = 101 := by
          intro h
          subst hB2
          show (((a0 :: 46 :: (B ++ 101 :: q))[B.length + 2]'(by simp)).toNat : Int) = 101
          simp
        generalize (⟨(a0 :: 46 :: (B ++ 101 :: q)).toArray⟩ : ByteArray) = ST at *
        have s3 : (P : Int) + 3 ≤ ST.size := by omega
        have p0 : 0 < ST.size := by omega
        have p1 : 1 < ST.size := by omega
        have p1i : (1 : Int) < ST.size := by omega
        have p2 : P + 2 < ST.size := by omega
        have p2i : (P : Int) + 2 < ST.size := by omega
        have p2z : 0 ≤ (P : Int) + 2 := by omega
        have c48 : (((ST[0]'(by omega)).toNat : Int) == 48) = false := by rw [c0]; exact e48
        have c48n : (((ST[0]'(by omega)).toNat : Int) != 48) = true := by rw [bne, c48]; rfl
        have c46 : (((ST[1]'(by omega)).toNat : Int) == 46) = true := by rw [c1]; rfl
        have c101 : (((ST[P + 2]'(by omega)).toNat : Int) == 101) = true := by rw [c2]; rfl
        have pz : ((P : Int) == 0) = false := by rw [beq_eq_false_iff_ne]; omega
        have pq : 0 < (P : Int) := by omega
        have tn : ((P : Int) + 2).toNat = P + 2 := by omega
        have hids := Lib.hid (And.intro c48 (And.intro c48n (And.intro c101 (And.intro pz (And.intro wr1 (And.intro wr2 (And.intro tn (And.intro c46 pq))))))))
        clear c48 c48n c101 pz wr1 wr2 tn c46 pq
        clear l1 l2 hq h48 c0 c1 c2 e48
        have HB2 := Lib.hid hB2
        clear hB2
        have K1 := Lib.hid k1; have K2 := Lib.hid k2; have K3 := Lib.hid k3; have K4 := Lib.hid k4; have K5 := Lib.hid k5
        clear k1 k2 k3 k4 k5
        cases fo
        all_goals (
          go_wp2_with (first | (go_at_call 11; (with_reducible refine Calls.mono (K1.out _ (hT.on hB)) ?_); rintro r w2 ⟨rfl, hb⟩; replace hB := hB.trans (hb.mono hB.size); have hz := hB.size; replace zb := C3.carry zb hb; have zz := zb; obtain ⟨x0, x1, x2, x3, x4, x5, x6⟩ := zz) | (go_at_call 12; (with_reducible refine Calls.mono (K2.out _) ?_); rintro r w2 ⟨rfl, hb⟩; replace hB := hB.trans (hb.mono hB.size); have hz := hB.size; replace zb := C3.carry zb hb; have zz := zb; obtain ⟨x0, x1, x2, x3, x4, x5, x6⟩ := zz) | (go_at_call 13; (with_reducible refine Calls.mono (K3.out _ (hM.on hB) (hE.on hB)) ?_); rintro r w2 ⟨rfl, hb⟩; replace hB := hB.trans (hb.mono hB.size); have hz := hB.size; replace zb := C3.carry zb hb; have zz := zb; obtain ⟨x0, x1, x2, x3, x4, x5, x6⟩ := zz))
          have zg := C3.new w2 (.bool fn) (.int .i64 fc) (.int .i64 fe) 24
          replace zb := zb.up (.cells #[.bool fn, .int .i64 fc, .int .i64 fe] 24)
          replace hB : Below w.heap.size w (w2.alloc (.cells #[.bool fn, .int .i64 fc, .int .i64 fe] 24)) := hB.alloc (by omega) _
          clear x0 x1 x2 x3 x4 x5 x6
          have zz := zb
          obtain ⟨x0, x1, x2, x3, x4, x5, x6⟩ := zz
          have zy := zg
          obtain ⟨g0, g1, g2, g3, g4, g5, g6⟩ := zy
          obtain ⟨c48, c48n, c101, pz, wr1, wr2, tn, c46, pq⟩ := hids.out
          obtain ⟨szb0, szb1, szb2⟩ := C3.since zb
          obtain ⟨szg0, szg1, szg2⟩ := C3.since zg
          refine wp_region_since (by kernel_rfl) (by kernel_rfl) ?_
          repeat (quiet_step (first | (go_at_call 15; with_reducible exact Calls.since_of (K4.out _)) | (go_at_call 14; with_reducible exact Calls.since_of (K5.out _))))
          refine wpQuiet_nil ?_
          intro w_ hw_
          obtain ⟨⟨w1, hb⟩, hw2⟩ := hw_
          have hw3 : w1 = w_ := hw2.symm
          clear hw2
          subst hw3
          clear szb0 szb1 szb2 szg0 szg1 szg2
          replace hB := hB.trans (hb.mono hB.size)
          have hz := hb.size
          replace zb := C3.carry zb hb
          have zz := zb
          obtain ⟨x0, x1, x2, x3, x4, x5, x6⟩ := zz
          replace zg := C3.carry zg hb
          have zz := zg
          obtain ⟨x0, x1, x2, x3, x4, x5, x6⟩ := zz
          go_wp2
          all_goals go_ret
          all_goals exact ⟨rfl, hB⟩)
    · obtain rfl : c = 0 := by omega
      have hr := r2 rfl
      rw [hr] at k3
      have k3' : ∀ W, HasMax W → ErV W → Calls Tryz.prog 13 #[.string ⟨(etL n 0 e P).toArray⟩] W fun r w' => r = .returned (.tuple #[.agg #[.bool false, .int .i64 0, .int .i64 0], .bool true]) ∧ Below W.heap.size W w' := k3
      generalize etL n 0 e P = T at *
      have hne : (⟨T.toArray⟩ : ByteArray).toList.isEmpty = false := nonempty_list l1
      generalize (⟨T.toArray⟩ : ByteArray) = ST at *
      obtain ⟨fn, fc, fe, hfn, hfc, hfe⟩ : ∃ (fn : Bool) (fc fe : Int), fn = false ∧ fc = 0 ∧ fe = 0 := ⟨_, _, _, rfl, rfl, rfl⟩
      clear r1 r2 hr hv hv2 k3 l1 l2
      have K1 := Lib.hid k1; have K2 := Lib.hid k2; have K3 := Lib.hid k3'; have K4 := Lib.hid k4; have K5 := Lib.hid k5
      clear k1 k2 k3' k4 k5
      subst hfn hfc hfe
      go_wp2_with (first | (go_at_call 11; (with_reducible refine Calls.mono (K1.out _ (hT.on hB)) ?_); rintro r w2 ⟨rfl, hb⟩; replace hB := hB.trans (hb.mono hB.size); have hz := hB.size; replace zb := C3.carry zb hb; have zz := zb; obtain ⟨x0, x1, x2, x3, x4, x5, x6⟩ := zz) | (go_at_call 12; (with_reducible refine Calls.mono (K2.out _) ?_); rintro r w2 ⟨rfl, hb⟩; replace hB := hB.trans (hb.mono hB.size); have hz := hB.size; replace zb := C3.carry zb hb; have zz := zb; obtain ⟨x0, x1, x2, x3, x4, x5, x6⟩ := zz) | (go_at_call 13; (with_reducible refine Calls.mono (K3.out _ (hM.on hB) (hE.on hB)) ?_); rintro r w2 ⟨rfl, hb⟩; replace hB := hB.trans (hb.mono hB.size); have hz := hB.size; replace zb := C3.carry zb hb; have zz := zb; obtain ⟨x0, x1, x2, x3, x4, x5, x6⟩ := zz))
      have zg := C3.new w2 (.bool false) (.int .i64 0) (.int .i64 0) 24
      replace zb := zb.up (.cells #[.bool false, .int .i64 0, .int .i64 0] 24)
      replace hB : Below w.heap.size w (w2.alloc (.cells #[.bool false, .int .i64 0, .int .i64 0] 24)) := hB.alloc (by omega) _
      clear x0 x1 x2 x3 x4 x5 x6
      have zz := zb
      obtain ⟨x0, x1, x2, x3, x4, x5, x6⟩ := zz
      have zy := zg
      obtain ⟨g0, g1, g2, g3, g4, g5, g6⟩ := zy
      go_wp2
      all_goals go_ret
      all_goals exact ⟨rfl, (by repeat (first | with_reducible exact Below.refl _ _ | with_reducible assumption | with_reducible refine Below.setCell ?_ (by first | omega | (simp; done) | (simp <;> omega)) _ | with_reducible refine below_drewN ?_ _ | with_reducible refine Below.drew ?_ | with_reducible refine Below.alloc ?_ (by first | omega | (simp; done) | (simp <;> omega)) _))⟩
end Go.Proofs.YtebheehjhnaklaaGreatDoor
