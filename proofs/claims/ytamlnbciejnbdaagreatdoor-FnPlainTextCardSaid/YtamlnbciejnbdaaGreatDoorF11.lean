import Derived.Test.YtamlnbciejnbdaaGreatDoorF7
import Derived.Test.YtamlnbciejnbdaaGreatDoorPl3
namespace Go.Proofs.YtamlnbciejnbdaaGreatDoor
open Go Go.RowKit
theorem vld_false {n : Bool} {c e : Int} (hv : Fd.vld ⟨n, c, e⟩ = true) : Fd.vld ⟨false, c, e⟩ = true := by
  have h := Fd.vld_iff.1 hv
  exact Fd.vld_iff.2 ⟨h.1, h.2.1, h.2.2.1, h.2.2.2.1, by intro h; cases h⟩
theorem places_false {n : Bool} {c e : Int} (hv : Fd.vld ⟨n, c, e⟩ = true) : Fd.placesI ⟨n, c, e⟩ = Fd.placesI ⟨false, c, e⟩ := by
  rw [Fd.placesI_yes (Fd.vld_iff.1 hv), Fd.placesI_yes (Fd.vld_iff.1 (vld_false hv)), Fd.nd_e (Fd.vld_iff.1 hv), Fd.nd_e (Fd.vld_iff.1 (vld_false hv))]
  have e1 : (Fd.normal2 ⟨n, c, e⟩).e = (Fd.normal2 ⟨false, c, e⟩).e := by
    unfold Fd.normal2
    by_cases hc : c = 0
    · rw [if_pos hc, if_pos hc]
    · rw [if_neg hc, if_neg hc]
  rw [e1]
theorem pl_fit {n : Bool} {c e : Int} {m : Nat} (hv : Fd.vld ⟨n, c, e⟩ = true) (hm : Fd.placesI ⟨n, c, e⟩ = m) : Fd.fit1 (Fd.dropI ⟨false, c, e⟩ (-m - e)) = (Fd.nd ⟨false, c, e⟩, true) := by
  have hv2 := vld_false hv
  rw [places_false hv] at hm
  have h13 := Fd.P13_ok (d := ⟨false, c, e⟩) (by omega)
  have hr : Fd.roundI ⟨false, c, e⟩ m = (Fd.fit1 (Fd.dropI ⟨false, c, e⟩ (-m - e))).1 := Fd.roundI_yes (Fd.vld_iff.1 hv2) (by omega) (by omega)
  have h1 := h13.2.1
  rw [hm, hr] at h1
  obtain ⟨b0, b1, b2, b3⟩ := vld_b hv
  by_cases hc : c = 0
  · have hz : (Fd.dropI ⟨false, c, e⟩ (-m - e)).c = 0 := by
      unfold Fd.dropI
      split
      · exact hc
      · split
        · rfl
        · show Fd.rq c _ = 0
          rw [hc]
          exact rq_zero _
    rw [fit_z0 hz] at h1 ⊢
    rw [← h1]
  · have hok := (Fd.nd_ok (Fd.vld_iff.1 hv2)).2
    refine Prod.ext h1 ?_
    cases hs : (Fd.fit1 (Fd.dropI ⟨false, c, e⟩ (-m - e))).2
    · exfalso
      obtain ⟨d1, d2, d3, d4⟩ := drop_bd (n := false) (k := -m - e) b0 b1 b2 b3 (.inl (by omega))
      rcases Fd.fit1_ok (Fd.dropI ⟨false, c, e⟩ (-m - e)) d1 (by omega) with g | g
      · rw [g.1] at hs; cases hs
      · rw [g.2.1] at h1
        rw [← h1, Fd.V_z] at hok
        have hp := Fd.U_pos (c := c) (e := e) (by omega)
        unfold Fd.V at hok
        simp only [Bool.false_eq_true, if_false] at hok
        omega
    · rfl
set_option maxRecDepth 100000 in
set_option maxHeartbeats 8000000 in
theorem FnPlainText_law (s : Option Addr) (len cap : Nat) (w : World) (hT : PT w) (hM : HasMax w) (hcode : CodeAt s len w.heap.size w) (hcap : len ≤ cap) :
    Calls Tryz.prog 6 #[.slice s len cap] w fun r w' => r = .returned (.bool true) ∧ Below w.heap.size w w' := by
  by_cases hl : 1048576 < len
  · go_enter Tryz.func6, Tryz.ntmps6
    go_wp2
    go_ret
    exact ⟨rfl, (by repeat (first | with_reducible exact Below.refl _ _ | with_reducible assumption | with_reducible refine Below.setCell ?_ (by first | omega | (simp; done) | (simp <;> omega)) _ | with_reducible refine below_drewN ?_ _ | with_reducible refine Below.drew ?_ | with_reducible refine Below.alloc ?_ (by first | omega | (simp; done) | (simp <;> omega)) _))⟩
  go_enter Tryz.func6, Tryz.ntmps6
  go_wp2_with (go_at_call 24; (with_reducible refine Calls.mono (DrawPlainText_any _ _ _ _ hcode hcap) ?_); rintro r w1 ⟨⟨n, c, e, rfl⟩, hB⟩; have hz := hB.size)
  have k1 := fun W (h : PT W) => PlainText_any n c e W h
  have k2 := fun W => PlainTextS_any n c e W
  have hXX : ∀ l : List UInt8, (l != l) = false := fun l => by simp
  have hXY : ∀ l : List UInt8, (l == l) = true := fun l => by simp
  have zb := C3.new w1 (.bool n) (.int .i64 c) (.int .i64 e) 24
  replace hB : Below w.heap.size w (w1.alloc (.cells #[.bool n, .int .i64 c, .int .i64 e] 24)) := hB.alloc (by omega) _
  have zz := zb
  obtain ⟨x0, x1, x2, x3, x4, x5, x6⟩ := zz
  cases hv : Fd.vld ⟨n, c, e⟩
  · have hw : plainW n c e = ⟨#[]⟩ := by unfold plainW; rw [hv]; rfl
    rw [hw] at k1 k2
    have K1 := Lib.hid k1; have K2 := Lib.hid k2
    clear k1 k2 hw hv
    go_wp2_with (first | (go_at_call 25; (with_reducible refine Calls.mono (K1.out _ (hT.on hB)) ?_); rintro r w2 ⟨rfl, hb⟩; replace hB := hB.trans (hb.mono hB.size); have hz := hB.size; replace zb := C3.carry zb hb; have zz := zb; obtain ⟨x0, x1, x2, x3, x4, x5, x6⟩ := zz) | (go_at_call 26; (with_reducible refine Calls.mono (K2.out _) ?_); rintro r w2 ⟨rfl, hb⟩; replace hB := hB.trans (hb.mono hB.size); have hz := hB.size; replace zb := C3.carry zb hb; have zz := zb; obtain ⟨x0, x1, x2, x3, x4, x5, x6⟩ := zz))
    all_goals go_ret
    all_goals exact ⟨rfl, hB⟩
  · obtain ⟨m, hm⟩ := pl_facts hv
    have hpl := hm.pl
    have hmb := hm.mb
    have hw : plainW n c e = ⟨(ptL (fxA c e m) (fxB c e m)).toArray⟩ := by unfold plainW; rw [hv, hpl]; rfl
    rw [hw] at k1 k2
    obtain ⟨v0, v1, v2, v3⟩ := vld_b hv
    obtain ⟨v, x, R⟩ := rd_facts v0 v1 v2 v3 hmb
    have k3 := fun W (h : HasMax W) => ReadReal_pt _ _ v x W h R.da R.db R.la R.ll R.hv R.v0 R.v1 R.hx R.x0 R.x1
    rw [R.ft, pl_fit hv hpl] at k3
    have k4 := fun W => PlacesOf_any n c e W
    rw [hpl] at k4
    have k5 := fun W => amount_any n c e W hv
    have k6 := fun W => NormalDec_any false c e W
    have k7 := fun W (h : PT W) => FixedText_any n c e m W h
    have hw7 : m ≤ 9 → fixW n c e m = ⟨(ptL (fxA c e m) (fxB c e m)).toArray⟩ := fun h9 => by
      unfold fixW
      rw [hv, show inr (m : Int) 0 9 = true by simp [inr]; omega]
      rfl
    generalize Fd.nd ⟨false, c, e⟩ = F at *
    obtain ⟨fn, fc, fe⟩ := F
    dsimp only at k3 k6
    have hlen := (ptL_dot R.da R.db).1
    have hla := R.la
    clear hw hm hpl hv R
    generalize fixW n c e m = Y at *
    generalize hTT : ptL (fxA c e m) (fxB c e m) = T at *
    have hs1 : 1 ≤ (⟨T.toArray⟩ : ByteArray).size := by show 1 ≤ T.length; omega
    clear hTT hlen
    generalize (⟨T.toArray⟩ : ByteArray) = ST at *
    have hne : ST.toList.isEmpty = false := nonempty_list hs1
    by_cases h9 : m ≤ 9
    · have hw8 := hw7 h9
      rw [hw8] at k7
      clear hw7 hw8
      have i9 : ¬ (9 < (m : Int)) := by omega
      have K1 := Lib.hid k1; have K2 := Lib.hid k2; have K3 := Lib.hid k3; have K4 := Lib.hid k4; have K5 := Lib.hid k5; have K6 := Lib.hid k6; have K7 := Lib.hid k7
      clear k1 k2 k3 k4 k5 k6 k7
      go_wp2_with (first | (go_at_call 25; (with_reducible refine Calls.mono (K1.out _ (hT.on hB)) ?_); rintro r w2 ⟨rfl, hb⟩; replace hB := hB.trans (hb.mono hB.size); have hz := hB.size; replace zb := C3.carry zb hb; have zz := zb; obtain ⟨x0, x1, x2, x3, x4, x5, x6⟩ := zz) | (go_at_call 26; (with_reducible refine Calls.mono (K2.out _) ?_); rintro r w2 ⟨rfl, hb⟩; replace hB := hB.trans (hb.mono hB.size); have hz := hB.size; replace zb := C3.carry zb hb; have zz := zb; obtain ⟨x0, x1, x2, x3, x4, x5, x6⟩ := zz) | (go_at_call 13; (with_reducible refine Calls.mono (K3.out _ (hM.on hB)) ?_); rintro r w2 ⟨rfl, hb⟩; replace hB := hB.trans (hb.mono hB.size); have hz := hB.size; replace zb := C3.carry zb hb; have zz := zb; obtain ⟨x0, x1, x2, x3, x4, x5, x6⟩ := zz))
      have zg := C3.new w2 (.bool fn) (.int .i64 fc) (.int .i64 fe) 24
      replace zb := zb.up (.cells #[.bool fn, .int .i64 fc, .int .i64 fe] 24)
      replace hB : Below w.heap.size w (w2.alloc (.cells #[.bool fn, .int .i64 fc, .int .i64 fe] 24)) := hB.alloc (by omega) _
      clear x0 x1 x2 x3 x4 x5 x6
      with_reducible refine Calls.mono (K4.out _) ?_
      rintro r w3 ⟨rfl, hb⟩
      replace hB := hB.trans (hb.mono hB.size)
      have hz := hB.size
      replace zb := C3.carry zb hb
      have zz := zb
      obtain ⟨x0, x1, x2, x3, x4, x5, x6⟩ := zz
      replace zg := C3.carry zg hb
      have zy := zg
      obtain ⟨g0, g1, g2, g3, g4, g5, g6⟩ := zy
      go_wp2
      obtain ⟨szb0, szb1, szb2⟩ := C3.since zb
      obtain ⟨szg0, szg1, szg2⟩ := C3.since zg
      refine wp_region_since (by kernel_rfl) (by kernel_rfl) ?_
      repeat (quiet_step (first | (go_at_call 15; with_reducible exact Calls.since_of (K5.out _)) | (go_at_call 28; with_reducible exact Calls.since_of (K6.out _)) | (go_at_call 11; with_reducible exact Calls.since_of (K7.out _ (hT.on (hB.trans ((Since.h _).mono hB.size)))))))
      refine wpQuiet_nil ?_
      intro w_ hw_
      obtain ⟨⟨w1, hb⟩, hw2⟩ := hw_
      have hw3 : w1 = w_ := hw2.symm
      clear hw2
      subst hw3
      clear szb0 szb1 szb2 szg0 szg1 szg2
      replace hB := hB.trans (hb.mono hB.size)
      have hz := hb.size
      replace zb := C3.carry zb hb
      have zz := zb
      obtain ⟨x0, x1, x2, x3, x4, x5, x6⟩ := zz
      replace zg := C3.carry zg hb
      have zz := zg
      obtain ⟨x0, x1, x2, x3, x4, x5, x6⟩ := zz
      go_wp2
      all_goals go_ret
      all_goals exact ⟨rfl, hB⟩
    · have i9 : 9 < (m : Int) := by omega
      clear hw7
      have K1 := Lib.hid k1; have K2 := Lib.hid k2; have K3 := Lib.hid k3; have K4 := Lib.hid k4; have K5 := Lib.hid k5; have K6 := Lib.hid k6; have K7 := Lib.hid k7
      clear k1 k2 k3 k4 k5 k6 k7
      go_wp2_with (first | (go_at_call 25; (with_reducible refine Calls.mono (K1.out _ (hT.on hB)) ?_); rintro r w2 ⟨rfl, hb⟩; replace hB := hB.trans (hb.mono hB.size); have hz := hB.size; replace zb := C3.carry zb hb; have zz := zb; obtain ⟨x0, x1, x2, x3, x4, x5, x6⟩ := zz) | (go_at_call 26; (with_reducible refine Calls.mono (K2.out _) ?_); rintro r w2 ⟨rfl, hb⟩; replace hB := hB.trans (hb.mono hB.size); have hz := hB.size; replace zb := C3.carry zb hb; have zz := zb; obtain ⟨x0, x1, x2, x3, x4, x5, x6⟩ := zz) | (go_at_call 13; (with_reducible refine Calls.mono (K3.out _ (hM.on hB)) ?_); rintro r w2 ⟨rfl, hb⟩; replace hB := hB.trans (hb.mono hB.size); have hz := hB.size; replace zb := C3.carry zb hb; have zz := zb; obtain ⟨x0, x1, x2, x3, x4, x5, x6⟩ := zz))
      have zg := C3.new w2 (.bool fn) (.int .i64 fc) (.int .i64 fe) 24
      replace zb := zb.up (.cells #[.bool fn, .int .i64 fc, .int .i64 fe] 24)
      replace hB : Below w.heap.size w (w2.alloc (.cells #[.bool fn, .int .i64 fc, .int .i64 fe] 24)) := hB.alloc (by omega) _
      clear x0 x1 x2 x3 x4 x5 x6
      with_reducible refine Calls.mono (K4.out _) ?_
      rintro r w3 ⟨rfl, hb⟩
      replace hB := hB.trans (hb.mono hB.size)
      have hz := hB.size
      replace zb := C3.carry zb hb
      have zz := zb
      obtain ⟨x0, x1, x2, x3, x4, x5, x6⟩ := zz
      replace zg := C3.carry zg hb
      have zy := zg
      obtain ⟨g0, g1, g2, g3, g4, g5, g6⟩ := zy
      go_wp2
      obtain ⟨szb0, szb1, szb2⟩ := C3.since zb
      obtain ⟨szg0, szg1, szg2⟩ := C3.since zg
      refine wp_region_since (by kernel_rfl) (by kernel_rfl) ?_
      repeat (quiet_step (first | (go_at_call 15; with_reducible exact Calls.since_of (K5.out _)) | (go_at_call 28; with_reducible exact Calls.since_of (K6.out _)) | (go_at_call 11; with_reducible exact Calls.since_of (K7.out _ (hT.on (hB.trans ((Since.h _).mono hB.size)))))))
      refine wpQuiet_nil ?_
      intro w_ hw_
      obtain ⟨⟨w1, hb⟩, hw2⟩ := hw_
      have hw3 : w1 = w_ := hw2.symm
      clear hw2
      subst hw3
      clear szb0 szb1 szb2 szg0 szg1 szg2
      replace hB := hB.trans (hb.mono hB.size)
      have hz := hb.size
      replace zb := C3.carry zb hb
      have zz := zb
      obtain ⟨x0, x1, x2, x3, x4, x5, x6⟩ := zz
      replace zg := C3.carry zg hb
      have zz := zg
      obtain ⟨x0, x1, x2, x3, x4, x5, x6⟩ := zz
      go_wp2
      all_goals go_ret
      all_goals exact ⟨rfl, hB⟩
end Go.Proofs.YtamlnbciejnbdaaGreatDoor
