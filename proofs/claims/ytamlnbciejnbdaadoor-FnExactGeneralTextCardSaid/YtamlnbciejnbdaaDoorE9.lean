import Derived.Test.YtamlnbciejnbdaaDoorE8
namespace Go.Proofs.YtamlnbciejnbdaaDoor
open Go.RowKit
theorem fxC_zero (e : Int) (p : Nat) : fxC 0 e p = 0 := by
  rw [fxC_drop 0 e p _ rfl]
  split
  · rfl
  · split
    · rfl
    · rw [rq_zero]; rfl
/-- the digits that are shown with g digits, all of them; of 0 as many zeros -/
structure ExF (n : Bool) (c e : Int) (p : Nat) (r : Fd.D) : Prop where
  len : (digs false 10 r.c.toNat).length ≤ p + 1
  pos : 1 ≤ (digs false 10 r.c.toNat).length
  rb : 0 < r.c ∧ r.c ≤ 999999999
  reb : -12 ≤ r.e ∧ r.e ≤ 21
  size : Fd.size r - 1 = rlI n c e (p + 1)
  a : fxA c (e - rlI n c e (p + 1)) p = (digs false 10 r.c.toNat).take 1
  b : fxB c (e - rlI n c e (p + 1)) p = (digs false 10 r.c.toNat).drop 1 ++ zeros (p + 1 - (digs false 10 r.c.toNat).length)
theorem ex_facts {n : Bool} {c e : Int} {p : Nat} (hv : Fd.vld ⟨n, c, e⟩ = true) (h0 : 0 < c) (hp : p ≤ 8) :
    ExF n c e p (Fd.normal2 (Fd.roundedS ⟨n, c, e⟩ (Fd.size ⟨n, c, e⟩ - (p + 1)))) := by
  obtain ⟨b0, b1, b2, b3⟩ := vld_b hv
  have hs := rl_show (n := n) (c := c) (e := e) (g := (p : Int) + 1) h0 b1 (by omega) (by omega)
  generalize Fd.normal2 (Fd.roundedS ⟨n, c, e⟩ (Fd.size ⟨n, c, e⟩ - (p + 1))) = r at *
  obtain ⟨pw, hpw⟩ : ∃ pw, rlI n c e (p + 1) = pw := ⟨_, rfl⟩
  rw [hpw] at hs
  have hd := digs_dc hs.rc
  have h1 := Fd.dc_one hs.rc
  have hrd := hs.rd
  have hpb := hs.pwb
  have hre := hs.reb
  have hf := hs.fx (e - pw) p (by omega)
  have hgl : gL r.c ((p : Int) + 1) = digs false 10 r.c.toNat ++ zeros (p + 1 - (digs false 10 r.c.toNat).length) := by
    unfold gL
    congr 2
    omega
  have hlen : (digs false 10 r.c.toNat ++ zeros (p + 1 - (digs false 10 r.c.toNat).length)).length = p + 1 := by
    rw [List.length_append, zeros_len]
    omega
  have hL : fxL c (e - pw) p = digs false 10 r.c.toNat ++ zeros (p + 1 - (digs false 10 r.c.toNat).length) := by
    unfold fxL
    rw [hf, hgl, widL_none, hlen, show max (p + 1) (p + 1) - (p + 1) = 0 by omega]
    rfl
  have hq : (fxL c (e - pw) p).length - p = 1 := by rw [hL, hlen]; omega
  refine ⟨by omega, by omega, ⟨hs.rc, hs.rb⟩, by omega, by rw [hpw]; have := hs.pws; show Fd.dc r.c + r.e - 1 = pw; omega, ?_, ?_⟩
  · rw [hpw]
    unfold fxA
    rw [hq, hL, List.take_append_of_le_length (by omega)]
  · rw [hpw]
    unfold fxB
    rw [hq, hL, List.drop_append_of_le_length (by omega)]
set_option maxRecDepth 100000 in
set_option maxHeartbeats 8000000 in
theorem expPartsS_any (n : Bool) (c e : Int) (p : Nat) (w : World) (hv : Fd.vld ⟨n, c, e⟩ = true) (hp : p ≤ 8) :
    Calls Tryd.prog 39 #[.agg #[.bool n, .int .i64 c, .int .i64 e], .int .i64 p] w fun r w' => r = .returned (.tuple #[.string ⟨(fxA c (e - rlI n c e (p + 1)) p).toArray⟩, .string ⟨(fxB c (e - rlI n c e (p + 1)) p).toArray⟩, .int .i64 (rlI n c e (p + 1))]) ∧ Below w.heap.size w w' := by
  obtain ⟨b0, b1, b2, b3⟩ := vld_b hv
  have zb := C3.new w (.bool n) (.int .i64 c) (.int .i64 e) 31
  have hB : Below w.heap.size w (w.alloc (.cells #[.bool n, .int .i64 c, .int .i64 e] 31)) := Below.alloc (Below.refl _ _) (Nat.le_refl _) _
  have zz := zb
  obtain ⟨x0, x1, x2, x3, x4, x5, x6⟩ := zz
  by_cases hc : c = 0
  · have hz := fx_zero (c := c) (e := e - rlI n c e (p + 1)) (p := p) (by rw [hc]; exact fxC_zero _ _)
    rw [hz.1, hz.2, show rlI n c e (p + 1) = 0 from if_pos hc]
    subst hc
    have kz := fun W => mBn (zerosS_any p (by omega) W)
    have KZ := Lib.hid kz
    clear kz
    clear hv hz
    go_enter Tryd.func39, Tryd.ntmps39
    go_wp2_with ((go_at_call 66; (with_reducible refine Calls.mono (KZ.out _) ?_); rintro r w1 ⟨rfl, hb⟩; replace hB := hB.trans (hb.mono hB.size); have hz := hB.size; replace zb := C3.carry zb hb; have zz := zb; obtain ⟨x0, x1, x2, x3, x4, x5, x6⟩ := zz))
    exact bodyPost_ret (v := .tuple #[.string ⟨[48].toArray⟩, .string ⟨(zeros p).toArray⟩, .int .i64 0]) (by simp [results, Tryd.results39, go_sem, *]) rfl ⟨rfl, hB⟩
  · have hF := ex_facts (p := p) hv (by omega) hp
    have hc0 : (c == 0) = false := by simpa using hc
    have kr := fun W => roundedToS_any n c e ((p : Int) + 1) W b0 b1 b2 b3 (by omega) (by omega)
    generalize Fd.normal2 (Fd.roundedS ⟨n, c, e⟩ (Fd.size ⟨n, c, e⟩ - (p + 1))) = r at *
    obtain ⟨f1, f2, ⟨f3, f4⟩, ⟨f5, f6⟩, f7, f8, f9⟩ := hF
    have kn := fun W => numberS_any r.c.toNat r.c.toNat (Nat.le_refl _) (by omega) W
    have kz := fun W => mBn (zerosS_any (p + 1 - (digs false 10 r.c.toNat).length) (by omega) W)
    have ks := fun W => sizeS_any r.n r.c r.e W f4 (by omega) (by omega)
    rw [show Fd.size ⟨r.n, r.c, r.e⟩ = Fd.size r from rfl] at ks
    obtain ⟨C, hC⟩ : ∃ C : Nat, r.c = C := ⟨r.c.toNat, by omega⟩
    rw [hC] at kr kn ks
    rw [hC] at f1 f2 f8 f9 kz
    rw [show ((C : Nat) : Int).toNat = C from rfl] at kn f1 f2 f8 f9 kz
    have ea : (⟨(digs false 10 C).toArray⟩ : ByteArray).extract 0 1 = ⟨((digs false 10 C).take 1).toArray⟩ := ext_take 1 _
    have eb : (⟨(digs false 10 C).toArray⟩ : ByteArray).extract 1 (digs false 10 C).length = ⟨((digs false 10 C).drop 1).toArray⟩ := ext_drop 1 _
    rw [← f8] at ea
    have ec := cat_lN ((digs false 10 C).drop 1) (zeros (p + 1 - (digs false 10 C).length))
    rw [← f9] at ec
    have hdl : ((digs false 10 C).drop 1).length ≤ 10 := by rw [List.length_drop]; omega
    have hzl := zeros_len (p + 1 - (digs false 10 C).length)
    have hsub : (p : Int) + 1 - (digs false 10 C).length = ((p + 1 - (digs false 10 C).length : Nat) : Int) := by omega
    have hszb : -100 ≤ Fd.size r ∧ Fd.size r ≤ 100 := by
      have := Fd.dc_le9 f4
      have := Fd.dc_nonneg r.c
      unfold Fd.size
      omega
    generalize fxA c (e - rlI n c e (p + 1)) p = A at *
    generalize fxB c (e - rlI n c e (p + 1)) p = B at *
    rw [← f7]
    clear f7 f8 f9 f3 hC
    generalize zeros (p + 1 - (digs false 10 C).length) = Z at *
    generalize p + 1 - (digs false 10 C).length = z at *
    generalize (digs false 10 C).drop 1 = D1 at *
    generalize digs false 10 C = D at *
    generalize Fd.size r = sz at *
    generalize r.n = rn at *
    generalize r.e = re at *
    have hDz : (⟨D.toArray⟩ : ByteArray).size = D.length := rfl
    have g1 : (1 : Int) ≤ D.length := by omega
    have q1 : ¬ (9223372036854775807 < D1.length + z) := by omega
    have q2 : ¬ (9223372036854775807 < D1.length + Z.length) := by omega
    have wz : IntKind.i64.wrap (z : Int) = z := IntWalk.i64_in _ (by omega)
    have wz1 : IntKind.i64.wrap ((p : Int) + 1) = (p : Int) + 1 := IntWalk.i64_in _ (by omega)
    have ws : IntKind.i64.wrap (sz - 1) = sz - 1 := IntWalk.i64_in _ (by omega)
    have KR := Lib.hid kr; have KN := Lib.hid kn; have KZ := Lib.hid kz; have KS := Lib.hid ks
    clear kr kn kz ks
    clear hv hc
    go_enter Tryd.func39, Tryd.ntmps39
    go_wp2_with ((go_at_call 73; (with_reducible refine Calls.mono (KR.out _) ?_); rintro r w1 ⟨rfl, hb⟩; replace hB := hB.trans (hb.mono hB.size); have hz := hB.size; replace zb := C3.carry zb hb; have zz := zb; obtain ⟨x0, x1, x2, x3, x4, x5, x6⟩ := zz))
    have za := C3.new w1 (.bool rn) (.int .i64 C) (.int .i64 re) 31
    replace hB : Below w.heap.size w (w1.alloc (.cells #[.bool rn, .int .i64 C, .int .i64 re] 31)) := hB.alloc (by omega) _
    have zz := za
    obtain ⟨x0, x1, x2, x3, x4, x5, x6⟩ := zz
    go_wp2_with ((go_at_call 65; (with_reducible refine Calls.mono (KN.out _) ?_); rintro r w1 ⟨rfl, hb⟩; replace hB := hB.trans (hb.mono hB.size); have hz := hB.size; replace za := C3.carry za hb; have zz := za; obtain ⟨x0, x1, x2, x3, x4, x5, x6⟩ := zz))
    obtain ⟨sza0, sza1, sza2⟩ := C3.since za
    refine wp_region_since (by kernel_rfl) (by kernel_rfl) ?_
    repeat (quiet_step (first | (go_at_call 66; with_reducible exact Calls.since_of (KZ.out _)) | (go_at_call 74; with_reducible exact Calls.since_of (KS.out _))))
    refine wpQuiet_nil ?_
    intro w_ hw_
    obtain ⟨⟨w1, hb⟩, hw2⟩ := hw_
    have hw3 : w1 = w_ := hw2.symm
    clear hw2
    subst hw3
    clear sza0 sza1 sza2
    replace hB := hB.trans (hb.mono hB.size)
    have hz := hb.size
    replace za := C3.carry za hb
    have zz := za
    obtain ⟨x0, x1, x2, x3, x4, x5, x6⟩ := zz
    go_wp2
    exact bodyPost_ret (v := .tuple #[.string ⟨A.toArray⟩, .string ⟨B.toArray⟩, .int .i64 (sz - 1)]) (by simp [results, Tryd.results39, go_sem, *]) rfl ⟨rfl, hB⟩
end Go.Proofs.YtamlnbciejnbdaaDoor
