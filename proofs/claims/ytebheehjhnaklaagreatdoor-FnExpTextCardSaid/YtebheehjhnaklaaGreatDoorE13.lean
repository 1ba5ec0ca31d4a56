import Derived.Test.YtebheehjhnaklaaGreatDoorE7
import Derived.Test.YtebheehjhnaklaaGreatDoorTL
namespace Go.Proofs.YtebheehjhnaklaaGreatDoor
open Go.RowKit
theorem C3.set2 {w : World} {g : Nat} {x y z : Value} (h : C3 w g x y z) (v : Value) : C3 (w.setCell ⟨g, 2, none⟩ v) g x y v := by
  obtain ⟨h0, h1, h2, f0, f1, f2, hl⟩ := h
  have hz := (Below.setCell (p := ⟨g, 2, none⟩) (Below.refl 0 w) (Nat.zero_le _) v).size
  refine ⟨?_, ?_, ?_, ?_, ?_, ?_, ?_⟩ <;> first | (simp [go_sem, *]; done) | (rw [set_frozen]; assumption) | omega
/-- the power of the first digit of a decimal that is rounded to g digits -/
def rlI (n : Bool) (c e g : Int) : Int := if c = 0 then 0 else Fd.dc (Fd.dropI ⟨n, c, e⟩ (Fd.dc c - g)).c + (Fd.dropI ⟨n, c, e⟩ (Fd.dc c - g)).e - 1
theorem nd_zero (n : Bool) (e : Int) : Fd.nd ⟨n, 0, e⟩ = Fd.D.z := by
  unfold Fd.nd
  split
  · unfold Fd.fit1
    rw [if_pos rfl]
  · rfl
theorem nd_pos {n : Bool} {c e : Int} (hv : Fd.vld ⟨n, c, e⟩ = true) (hc : 0 < c) : ¬ (Fd.nd ⟨n, c, e⟩).c = 0 := by
  have h := Fd.nd_ok (Fd.vld_iff.1 hv)
  intro hz
  have h1 := h.2
  rw [Fd.V_zero hz] at h1
  have hU := Fd.U_pos (c := c) (e := e) hc
  unfold Fd.V at h1
  split at h1
  · have : -Fd.U c e = 0 := h1.symm
    omega
  · have : Fd.U c e = 0 := h1.symm
    omega
theorem rl_show {n : Bool} {c e g : Int} (h0 : 0 < c) (h1 : c ≤ 999999999) (hg1 : 1 ≤ g) (hg9 : g ≤ 9) :
    Show c e g (Fd.normal2 (Fd.roundedS ⟨n, c, e⟩ (Fd.size ⟨n, c, e⟩ - g))) (rlI n c e g) := by
  have hs := sci_of n (e := e) h0 h1 hg1 hg9
  have h9 := Fd.dc_le9 hs.rb
  have hr : rlI n c e g = Fd.dc (Fd.dropI ⟨n, c, e⟩ (Fd.dc c - g)).c + (Fd.dropI ⟨n, c, e⟩ (Fd.dc c - g)).e - 1 := if_neg (by omega)
  rw [hr]
  exact show_of hg1 hs (by omega)
theorem rl_bd {n : Bool} {c e g : Int} (hv : Fd.vld ⟨n, c, e⟩ = true) (hg1 : 1 ≤ g) (hg9 : g ≤ 9) : -12 ≤ rlI n c e g ∧ rlI n c e g ≤ 21 ∧ -12 ≤ e - rlI n c e g ∧ e - rlI n c e g ≤ 12 := by
  obtain ⟨b0, b1, b2, b3⟩ := vld_b hv
  by_cases hc : c = 0
  · rw [show rlI n c e g = 0 from if_pos hc]; omega
  · have := (rl_show (n := n) (c := c) (e := e) (g := g) (by omega) b1 hg1 hg9).pwb
    omega
set_option maxRecDepth 100000 in
set_option maxHeartbeats 4000000 in
theorem roundedLead_any (n : Bool) (c e g : Int) (w : World) (hv : Fd.vld ⟨n, c, e⟩ = true) (hg1 : 1 ≤ g) (hg9 : g ≤ 9) :
    Calls Tryz.prog 92 #[.agg #[.bool n, .int .i64 c, .int .i64 e], .int .i64 g] w fun r w' => r = .returned (.int .i64 (rlI n c e g)) ∧ Below w.heap.size w w' := by
  obtain ⟨b0, b1, b2, b3⟩ := vld_b hv
  have kn := fun W => NormalDec_any n c e W
  have zb := C3.new w (.bool n) (.int .i64 c) (.int .i64 e) 24
  have hB : Below w.heap.size w (w.alloc (.cells #[.bool n, .int .i64 c, .int .i64 e] 24)) := Below.alloc (Below.refl _ _) (Nat.le_refl _) _
  have zz := zb
  obtain ⟨x0, x1, x2, x3, x4, x5, x6⟩ := zz
  by_cases hc : c = 0
  · rw [show rlI n c e g = 0 from if_pos hc]
    subst hc
    rw [nd_zero] at kn
    have kn' : ∀ W, Calls Tryz.prog 24 #[.agg #[.bool n, .int .i64 0, .int .i64 e]] W fun r w' => r = .returned (.agg #[.bool false, .int .i64 0, .int .i64 0]) ∧ Below W.heap.size W w' := kn
    clear kn
    have KN := Lib.hid kn'
    clear kn'
    go_enter Tryz.func92, Tryz.ntmps92
    go_wp2_with ((go_at_call 24; (with_reducible refine Calls.mono (KN.out _) ?_); rintro r w1 ⟨rfl, hb⟩; replace hB := hB.trans (hb.mono hB.size); have hz := hB.size; replace zb := C3.carry zb hb; have zz := zb; obtain ⟨x0, x1, x2, x3, x4, x5, x6⟩ := zz))
    all_goals go_ret
    all_goals exact ⟨rfl, hB⟩
  · have hcp : 0 < c := by omega
    have hnp := nd_pos hv hcp
    have hs := sci_of n (e := e) (g := g) hcp b1 hg1 hg9
    have hD1 := Fd.dc_one hcp
    have hD9 := Fd.dc_le9 b1
    rw [show rlI n c e g = Fd.size (Fd.dropI ⟨n, c, e⟩ (Fd.dc c - g)) - 1 from if_neg hc]
    have kg := fun W => digits_any n c e W b1
    have kd := fun W => dropped_any n c e (Fd.dc c - g) W b0 b1 (by omega) (by omega) (by omega)
    have heb := hs.eb
    have kl := fun W => lead_any (Fd.dropI ⟨n, c, e⟩ (Fd.dc c - g)).n (Fd.dropI ⟨n, c, e⟩ (Fd.dc c - g)).c (Fd.dropI ⟨n, c, e⟩ (Fd.dc c - g)).e W hs.rb (by omega) (by omega)
    generalize (Fd.nd ⟨n, c, e⟩).n = n1 at *
    generalize (Fd.nd ⟨n, c, e⟩).c = c1 at *
    generalize (Fd.nd ⟨n, c, e⟩).e = e1 at *
    have hc1 : (c1 == 0) = false := by simpa using hnp
    rw [show Fd.size ⟨(Fd.dropI ⟨n, c, e⟩ (Fd.dc c - g)).n, (Fd.dropI ⟨n, c, e⟩ (Fd.dc c - g)).c, (Fd.dropI ⟨n, c, e⟩ (Fd.dc c - g)).e⟩ = Fd.size (Fd.dropI ⟨n, c, e⟩ (Fd.dc c - g)) from rfl] at kl
    generalize Fd.size (Fd.dropI ⟨n, c, e⟩ (Fd.dc c - g)) - 1 = PW at *
    clear hs heb
    generalize (Fd.dropI ⟨n, c, e⟩ (Fd.dc c - g)).n = n2 at *
    generalize (Fd.dropI ⟨n, c, e⟩ (Fd.dc c - g)).c = c2 at *
    generalize (Fd.dropI ⟨n, c, e⟩ (Fd.dc c - g)).e = e2 at *
    generalize Fd.dc c = D at *
    have wn : IntKind.i64.wrap (D - g) = D - g := IntWalk.i64_in _ (by omega)
    have KN := Lib.hid kn; have KG := Lib.hid kg; have KD := Lib.hid kd; have KL := Lib.hid kl
    clear kn kg kd kl
    clear hnp hv
    go_enter Tryz.func92, Tryz.ntmps92
    go_wp2_with ((go_at_call 24; (with_reducible refine Calls.mono (KN.out _) ?_); rintro r w1 ⟨rfl, hb⟩; replace hB := hB.trans (hb.mono hB.size); have hz := hB.size; replace zb := C3.carry zb hb; have zz := zb; obtain ⟨x0, x1, x2, x3, x4, x5, x6⟩ := zz))
    obtain ⟨szb0, szb1, szb2⟩ := C3.since zb
    refine wp_region_since (by kernel_rfl) (by kernel_rfl) ?_
    repeat (quiet_step (first | (go_at_call 61; with_reducible exact Calls.since_of (KG.out _)) | (go_at_call 60; with_reducible exact Calls.since_of (KD.out _)) | (go_at_call 161; with_reducible exact Calls.since_of (KL.out _))))
    refine wpQuiet_nil ?_
    intro w_ hw_
    obtain ⟨⟨w1, hb⟩, hw2⟩ := hw_
    have hw3 : w1 = w_ := hw2.symm
    clear hw2
    subst hw3
    clear szb0 szb1 szb2
    replace hB := hB.trans (hb.mono hB.size)
    have hz := hb.size
    replace zb := C3.carry zb hb
    have zz := zb
    obtain ⟨x0, x1, x2, x3, x4, x5, x6⟩ := zz
    go_wp2
    all_goals go_ret
    all_goals exact ⟨rfl, hB⟩
set_option maxRecDepth 100000 in
set_option maxHeartbeats 8000000 in
theorem scientific_any (n : Bool) (c e : Int) (p : Nat) (w : World) (hv : Fd.vld ⟨n, c, e⟩ = true) (hp : p ≤ 8) (hT : PT w) :
    Calls Tryz.prog 45 #[.agg #[.bool n, .int .i64 c, .int .i64 e], .int .i64 p] w fun r w' => r = .returned (.agg #[.string ⟨(fxA c (e - rlI n c e (p + 1)) p).toArray⟩, .string ⟨(fxB c (e - rlI n c e (p + 1)) p).toArray⟩, .string ⟨(powL 101 (rlI n c e (p + 1))).toArray⟩]) ∧ Below w.heap.size w w' := by
  obtain ⟨b0, b1, b2, b3⟩ := vld_b hv
  have hb := rl_bd (g := (p : Int) + 1) hv (by omega) (by omega)
  have kr := fun W => roundedLead_any n c e ((p : Int) + 1) W hv (by omega) (by omega)
  have kx := fun W (h : PT W) => fixed_any n c (e - rlI n c e (p + 1)) p W b0 b1 (by omega) (by omega) (by omega) (by omega) h
  have kp := fun W (h : PT W) => powerText_any (rlI n c e (p + 1)) (by omega) W h
  generalize fxA c (e - rlI n c e (p + 1)) p = A at *
  generalize fxB c (e - rlI n c e (p + 1)) p = B at *
  generalize powL 101 (rlI n c e (p + 1)) = T at *
  generalize rlI n c e (p + 1) = pw at *
  have wn : IntKind.i64.wrap (e - pw) = e - pw := IntWalk.i64_in _ (by omega)
  have zb := C3.up (C3.new w (.bool n) (.int .i64 c) (.int .i64 e) 24) (.cells #[.string ⟨#[]⟩, .string ⟨#[]⟩, .string ⟨#[]⟩] 69)
  have zc : C3 ((w.alloc (.cells #[.bool n, .int .i64 c, .int .i64 e] 24)).alloc (.cells #[.string ⟨#[]⟩, .string ⟨#[]⟩, .string ⟨#[]⟩] 69)) (w.heap.size + 1) (.string ⟨#[]⟩) (.string ⟨#[]⟩) (.string ⟨#[]⟩) := by
    have h := C3.new (w.alloc (.cells #[.bool n, .int .i64 c, .int .i64 e] 24)) (.string ⟨#[]⟩) (.string ⟨#[]⟩) (.string ⟨#[]⟩) 69
    rw [show (w.alloc (.cells #[.bool n, .int .i64 c, .int .i64 e] 24)).heap.size = w.heap.size + 1 by simp] at h
    exact h
  have hB : Below w.heap.size w ((w.alloc (.cells #[.bool n, .int .i64 c, .int .i64 e] 24)).alloc (.cells #[.string ⟨#[]⟩, .string ⟨#[]⟩, .string ⟨#[]⟩] 69)) := (Below.alloc (Below.refl _ _) (Nat.le_refl _) _).alloc (by simp) _
  have zz := zb
  obtain ⟨x0, x1, x2, x3, x4, x5, x6⟩ := zz
  have zz := zc
  obtain ⟨x0, x1, x2, x3, x4, x5, x6⟩ := zz
  have KR := Lib.hid kr; have KX := Lib.hid kx; have KP := Lib.hid kp
  clear kr kx kp
  clear hv
  go_enter Tryz.func45, Tryz.ntmps45
  go_wp2_with ((go_at_call 92; (with_reducible refine Calls.mono (KR.out _) ?_); rintro r w1 ⟨rfl, hb⟩; replace hB := hB.trans (hb.mono hB.size); have hz := hB.size; replace zb := C3.carry zb hb; have zz := zb; obtain ⟨x0, x1, x2, x3, x4, x5, x6⟩ := zz; replace zc := C3.carry zc hb; have zz := zc; obtain ⟨x0, x1, x2, x3, x4, x5, x6⟩ := zz))
  replace zb := C3.set2 zb (.int .i64 (e - pw))
  replace zc := C3.far zc (b := w.heap.size) (o := 2) (.int .i64 (e - pw)) (by omega)
  replace hB : Below w.heap.size w (w1.setCell ⟨w.heap.size, 2, none⟩ (.int .i64 (e - pw))) := Below.setCell (p := ⟨w.heap.size, 2, none⟩) hB (Nat.le_refl _) _
  have zz := zb
  obtain ⟨x0, x1, x2, x3, x4, x5, x6⟩ := zz
  have zz := zc
  obtain ⟨x0, x1, x2, x3, x4, x5, x6⟩ := zz
  go_wp2_with ((go_at_call 93; (with_reducible refine Calls.mono (KX.out _ (hT.on hB)) ?_); rintro r w1 ⟨rfl, hb⟩; replace hB := hB.trans (hb.mono hB.size); have hz := hB.size; replace zc := C3.carry zc hb; have zz := zc; obtain ⟨x0, x1, x2, x3, x4, x5, x6⟩ := zz))
  have za := C3.new w1 (.string ⟨A.toArray⟩) (.string ⟨B.toArray⟩) (.string ⟨#[]⟩) 69
  replace zc := C3.up zc (.cells #[.string ⟨A.toArray⟩, .string ⟨B.toArray⟩, .string ⟨#[]⟩] 69)
  replace hB : Below w.heap.size w (w1.alloc (.cells #[.string ⟨A.toArray⟩, .string ⟨B.toArray⟩, .string ⟨#[]⟩] 69)) := hB.alloc (by omega) _
  have zz := za
  obtain ⟨x0, x1, x2, x3, x4, x5, x6⟩ := zz
  have zz := zc
  obtain ⟨x0, x1, x2, x3, x4, x5, x6⟩ := zz
  have hza : w.heap.size + 1 ≠ w1.heap.size := by omega
  have hza2 : w1.heap.size ≠ w.heap.size + 1 := by omega
  go_wp2_with ((go_at_call 94; (with_reducible refine Calls.mono (KP.out _ (hT.on hB)) ?_); rintro r w1 ⟨rfl, hb⟩; replace hB := hB.trans (hb.mono hB.size); have hz := hB.size; replace za := C3.carry za hb; have zz := za; obtain ⟨x0, x1, x2, x3, x4, x5, x6⟩ := zz; replace zc := C3.carry zc hb; have zz := zc; obtain ⟨x0, x1, x2, x3, x4, x5, x6⟩ := zz))
  exact bodyPost_ret (v := .agg #[.string ⟨A.toArray⟩, .string ⟨B.toArray⟩, .string ⟨T.toArray⟩]) (by simp [results, Tryz.results45, go_sem, *]) rfl ⟨rfl, (by repeat (first | with_reducible exact Below.refl _ _ | with_reducible assumption | with_reducible refine Below.setCell ?_ (by first | omega | (simp; done) | (simp <;> omega)) _ | with_reducible refine below_drewN ?_ _ | with_reducible refine Below.drew ?_ | with_reducible refine Below.alloc ?_ (by first | omega | (simp; done) | (simp <;> omega)) _))⟩
end Go.Proofs.YtebheehjhnaklaaGreatDoor
namespace Go.Proofs.YtebheehjhnaklaaGreatDoor
open Go.RowKit
theorem fxC_zero (e : Int) (p : Nat) : fxC 0 e p = 0 := by
  rw [fxC_drop 0 e p _ rfl]
  split
  · rfl
  · split
    · rfl
    · rw [rq_zero]; rfl
/-- the digits that are shown with g digits, all of them; of 0 as many zeros -/
structure ExF (n : Bool) (c e : Int) (p : Nat) (r : Fd.D) : Prop where
  len : (digs false 10 r.c.toNat).length ≤ p + 1
  pos : 1 ≤ (digs false 10 r.c.toNat).length
  rb : 0 < r.c ∧ r.c ≤ 999999999
  reb : -12 ≤ r.e ∧ r.e ≤ 21
  size : Fd.size r - 1 = rlI n c e (p + 1)
  a : fxA c (e - rlI n c e (p + 1)) p = (digs false 10 r.c.toNat).take 1
  b : fxB c (e - rlI n c e (p + 1)) p = (digs false 10 r.c.toNat).drop 1 ++ zeros (p + 1 - (digs false 10 r.c.toNat).length)
theorem ex_facts {n : Bool} {c e : Int} {p : Nat} (hv : Fd.vld ⟨n, c, e⟩ = true) (h0 : 0 < c) (hp : p ≤ 8) :
    ExF n c e p (Fd.normal2 (Fd.roundedS ⟨n, c, e⟩ (Fd.size ⟨n, c, e⟩ - (p + 1)))) := by
  obtain ⟨b0, b1, b2, b3⟩ := vld_b hv
  have hs := rl_show (n := n) (c := c) (e := e) (g := (p : Int) + 1) h0 b1 (by omega) (by omega)
  generalize Fd.normal2 (Fd.roundedS ⟨n, c, e⟩ (Fd.size ⟨n, c, e⟩ - (p + 1))) = r at *
  obtain ⟨pw, hpw⟩ : ∃ pw, rlI n c e (p + 1) = pw := ⟨_, rfl⟩
  rw [hpw] at hs
  have hd := digs_dc hs.rc
  have h1 := Fd.dc_one hs.rc
  have hrd := hs.rd
  have hpb := hs.pwb
  have hre := hs.reb
  have hf := hs.fx (e - pw) p (by omega)
  have hgl : gL r.c ((p : Int) + 1) = digs false 10 r.c.toNat ++ zeros (p + 1 - (digs false 10 r.c.toNat).length) := by
    unfold gL
    congr 2
    omega
  have hlen : (digs false 10 r.c.toNat ++ zeros (p + 1 - (digs false 10 r.c.toNat).length)).length = p + 1 := by
    rw [List.length_append, zeros_len]
    omega
  have hL : fxL c (e - pw) p = digs false 10 r.c.toNat ++ zeros (p + 1 - (digs false 10 r.c.toNat).length) := by
    unfold fxL
    rw [hf, hgl, widL_none, hlen, show max (p + 1) (p + 1) - (p + 1) = 0 by omega]
    rfl
  have hq : (fxL c (e - pw) p).length - p = 1 := by rw [hL, hlen]; omega
  refine ⟨by omega, by omega, ⟨hs.rc, hs.rb⟩, by omega, by rw [hpw]; have := hs.pws; show Fd.dc r.c + r.e - 1 = pw; omega, ?_, ?_⟩
  · rw [hpw]
    unfold fxA
    rw [hq, hL, List.take_append_of_le_length (by omega)]
  · rw [hpw]
    unfold fxB
    rw [hq, hL, List.drop_append_of_le_length (by omega)]
set_option maxRecDepth 100000 in
set_option maxHeartbeats 8000000 in
theorem expPartsS_any (n : Bool) (c e : Int) (p : Nat) (w : World) (hv : Fd.vld ⟨n, c, e⟩ = true) (hp : p ≤ 8) :
    Calls Tryz.prog 49 #[.agg #[.bool n, .int .i64 c, .int .i64 e], .int .i64 p] w fun r w' => r = .returned (.tuple #[.string ⟨(fxA c (e - rlI n c e (p + 1)) p).toArray⟩, .string ⟨(fxB c (e - rlI n c e (p + 1)) p).toArray⟩, .int .i64 (rlI n c e (p + 1))]) ∧ Below w.heap.size w w' := by
  obtain ⟨b0, b1, b2, b3⟩ := vld_b hv
  have zb := C3.new w (.bool n) (.int .i64 c) (.int .i64 e) 24
  have hB : Below w.heap.size w (w.alloc (.cells #[.bool n, .int .i64 c, .int .i64 e] 24)) := Below.alloc (Below.refl _ _) (Nat.le_refl _) _
  have zz := zb
  obtain ⟨x0, x1, x2, x3, x4, x5, x6⟩ := zz
  by_cases hc : c = 0
  · have hz := fx_zero (c := c) (e := e - rlI n c e (p + 1)) (p := p) (by rw [hc]; exact fxC_zero _ _)
    rw [hz.1, hz.2, show rlI n c e (p + 1) = 0 from if_pos hc]
    subst hc
    have kz := fun W => mBn (zerosS_any p (by omega) W)
    have KZ := Lib.hid kz
    clear kz
    clear hv hz
    go_enter Tryz.func49, Tryz.ntmps49
    go_wp2_with ((go_at_call 96; (with_reducible refine Calls.mono (KZ.out _) ?_); rintro r w1 ⟨rfl, hb⟩; replace hB := hB.trans (hb.mono hB.size); have hz := hB.size; replace zb := C3.carry zb hb; have zz := zb; obtain ⟨x0, x1, x2, x3, x4, x5, x6⟩ := zz))
    exact bodyPost_ret (v := .tuple #[.string ⟨[48].toArray⟩, .string ⟨(zeros p).toArray⟩, .int .i64 0]) (by simp [results, Tryz.results49, go_sem, *]) rfl ⟨rfl, hB⟩
  · have hF := ex_facts (p := p) hv (by omega) hp
    have hc0 : (c == 0) = false := by simpa using hc
    have kr := fun W => roundedToS_any n c e ((p : Int) + 1) W b0 b1 b2 b3 (by omega) (by omega)
    generalize Fd.normal2 (Fd.roundedS ⟨n, c, e⟩ (Fd.size ⟨n, c, e⟩ - (p + 1))) = r at *
    obtain ⟨f1, f2, ⟨f3, f4⟩, ⟨f5, f6⟩, f7, f8, f9⟩ := hF
    have kn := fun W => numberS_any r.c.toNat r.c.toNat (Nat.le_refl _) (by omega) W
    have kz := fun W => mBn (zerosS_any (p + 1 - (digs false 10 r.c.toNat).length) (by omega) W)
    have ks := fun W => sizeS_any r.n r.c r.e W f4 (by omega) (by omega)
    rw [show Fd.size ⟨r.n, r.c, r.e⟩ = Fd.size r from rfl] at ks
    obtain ⟨C, hC⟩ : ∃ C : Nat, r.c = C := ⟨r.c.toNat, by omega⟩
    rw [hC] at kr kn ks
    rw [hC] at f1 f2 f8 f9 kz
    rw [show ((C : Nat) : Int).toNat = C from rfl] at kn f1 f2 f8 f9 kz
    have ea : (⟨(digs false 10 C).toArray⟩ : ByteArray).extract 0 1 = ⟨((digs false 10 C).take 1).toArray⟩ := ext_take 1 _
    have eb : (⟨(digs false 10 C).toArray⟩ : ByteArray).extract 1 (digs false 10 C).length = ⟨((digs false 10 C).drop 1).toArray⟩ := ext_drop 1 _
    rw [← f8] at ea
    have ec := cat_lN ((digs false 10 C).drop 1) (zeros (p + 1 - (digs false 10 C).length))
    rw [← f9] at ec
    have hdl : ((digs false 10 C).drop 1).length ≤ 10 := by rw [List.length_drop]; omega
    have hzl := zeros_len (p + 1 - (digs false 10 C).length)
    have hsub : (p : Int) + 1 - (digs false 10 C).length = ((p + 1 - (digs false 10 C).length : Nat) : Int) := by omega
    have hszb : -100 ≤ Fd.size r ∧ Fd.size r ≤ 100 := by
      have := Fd.dc_le9 f4
      have := Fd.dc_nonneg r.c
      unfold Fd.size
      omega
    generalize fxA c (e - rlI n c e (p + 1)) p = A at *
    generalize fxB c (e - rlI n c e (p + 1)) p = B at *
    rw [← f7]
    clear f7 f8 f9 f3 hC
    generalize zeros (p + 1 - (digs false 10 C).length) = Z at *
    generalize p + 1 - (digs false 10 C).length = z at *
    generalize (digs false 10 C).drop 1 = D1 at *
    generalize digs false 10 C = D at *
    generalize Fd.size r = sz at *
    generalize r.n = rn at *
    generalize r.e = re at *
    have hDz : (⟨D.toArray⟩ : ByteArray).size = D.length := rfl
    have g1 : (1 : Int) ≤ D.length := by omega
    have q1 : ¬ (9223372036854775807 < D1.length + z) := by omega
    have q2 : ¬ (9223372036854775807 < D1.length + Z.length) := by omega
    have wz : IntKind.i64.wrap (z : Int) = z := IntWalk.i64_in _ (by omega)
    have wz1 : IntKind.i64.wrap ((p : Int) + 1) = (p : Int) + 1 := IntWalk.i64_in _ (by omega)
    have ws : IntKind.i64.wrap (sz - 1) = sz - 1 := IntWalk.i64_in _ (by omega)
    have KR := Lib.hid kr; have KN := Lib.hid kn; have KZ := Lib.hid kz; have KS := Lib.hid ks
    clear kr kn kz ks
    clear hv hc
    go_enter Tryz.func49, Tryz.ntmps49
    go_wp2_with ((go_at_call 97; (with_reducible refine Calls.mono (KR.out _) ?_); rintro r w1 ⟨rfl, hb⟩; replace hB := hB.trans (hb.mono hB.size); have hz := hB.size; replace zb := C3.carry zb hb; have zz := zb; obtain ⟨x0, x1, x2, x3, x4, x5, x6⟩ := zz))
    have za := C3.new w1 (.bool rn) (.int .i64 C) (.int .i64 re) 24
    replace hB : Below w.heap.size w (w1.alloc (.cells #[.bool rn, .int .i64 C, .int .i64 re] 24)) := hB.alloc (by omega) _
    have zz := za
    obtain ⟨x0, x1, x2, x3, x4, x5, x6⟩ := zz
    go_wp2_with ((go_at_call 98; (with_reducible refine Calls.mono (KN.out _) ?_); rintro r w1 ⟨rfl, hb⟩; replace hB := hB.trans (hb.mono hB.size); have hz := hB.size; replace za := C3.carry za hb; have zz := za; obtain ⟨x0, x1, x2, x3, x4, x5, x6⟩ := zz))
    obtain ⟨sza0, sza1, sza2⟩ := C3.since za
    refine wp_region_since (by kernel_rfl) (by kernel_rfl) ?_
    repeat (quiet_step (first | (go_at_call 96; with_reducible exact Calls.since_of (KZ.out _)) | (go_at_call 99; with_reducible exact Calls.since_of (KS.out _))))
    refine wpQuiet_nil ?_
    intro w_ hw_
    obtain ⟨⟨w1, hb⟩, hw2⟩ := hw_
    have hw3 : w1 = w_ := hw2.symm
    clear hw2
    subst hw3
    clear sza0 sza1 sza2
    replace hB := hB.trans (hb.mono hB.size)
    have hz := hb.size
    replace za := C3.carry za hb
    have zz := za
    obtain ⟨x0, x1, x2, x3, x4, x5, x6⟩ := zz
    go_wp2
    exact bodyPost_ret (v := .tuple #[.string ⟨A.toArray⟩, .string ⟨B.toArray⟩, .int .i64 (sz - 1)]) (by simp [results, Tryz.results49, go_sem, *]) rfl ⟨rfl, hB⟩
end Go.Proofs.YtebheehjhnaklaaGreatDoor
namespace Go.Proofs.YtebheehjhnaklaaGreatDoor
open Go.RowKit
theorem rest_split (B T : List UInt8) : restL B T false = restL B [] false ++ T := by
  unfold restL
  by_cases h : B = []
  · rw [if_pos ⟨h, rfl⟩, if_pos ⟨h, rfl⟩]; rfl
  · rw [if_neg (fun q => h q.1), if_neg (fun q => h q.1), List.append_nil]; rfl
theorem rest_len {B T : List UInt8} {alt : Bool} (h1 : B.length ≤ 100) (h2 : T.length ≤ 100) : (restL B T alt).length ≤ 201 := by
  unfold restL
  split
  · omega
  · simp only [List.length_cons, List.length_append]; omega
theorem ex_len {n : Bool} {c e : Int} {p : Nat} (hv : Fd.vld ⟨n, c, e⟩ = true) (hp : p ≤ 8) : (fxA c (e - rlI n c e (p + 1)) p).length ≤ 70 ∧ (fxB c (e - rlI n c e (p + 1)) p).length ≤ 70 := by
  obtain ⟨b0, b1, b2, b3⟩ := vld_b hv
  have hb := rl_bd (g := (p : Int) + 1) hv (by omega) (by omega)
  have F := fx_facts n (c := c) (e := e - rlI n c e (p + 1)) (p := p) b0 b1 (by omega) (by omega) (by omega) (by omega)
  exact fxAB_len F.cb (by omega) (by omega)
/-- the text of an amount with a power of 10 -/
def etL (n : Bool) (c e : Int) (p : Nat) : List UInt8 := fxA c (e - rlI n c e (p + 1)) p ++ restL (fxB c (e - rlI n c e (p + 1)) p) (powL 101 (rlI n c e (p + 1))) false
def expW (n : Bool) (c e p : Int) : ByteArray := if Fd.vld ⟨n, c, e⟩ && inr p 0 8 then ⟨(etL n c e p.toNat).toArray⟩ else ⟨#[]⟩
set_option maxRecDepth 100000 in
set_option maxHeartbeats 4000000 in
theorem ExpText_any (n : Bool) (c e p : Int) (w : World) (hT : PT w) :
    Calls Tryz.prog 11 #[.agg #[.bool n, .int .i64 c, .int .i64 e], .int .i64 p] w fun r w' => r = .returned (.string (expW n c e p)) ∧ Below w.heap.size w w' := by
  have kv := fun W => ValidDec_any n c e W
  have kw := fun W => mBn (within_any p 0 8 W)
  have zb := C3.new w (.bool n) (.int .i64 c) (.int .i64 e) 24
  have hB : Below w.heap.size w (w.alloc (.cells #[.bool n, .int .i64 c, .int .i64 e] 24)) := Below.alloc (Below.refl _ _) (Nat.le_refl _) _
  have zz := zb
  obtain ⟨x0, x1, x2, x3, x4, x5, x6⟩ := zz
  cases hv : Fd.vld ⟨n, c, e⟩
  · rw [show expW n c e p = ⟨#[]⟩ by unfold expW; rw [hv]; rfl]
    rw [hv] at kv
    have KV := Lib.hid kv; have KW := Lib.hid kw
    clear kv kw
    clear hT hv
    go_enter Tryz.func11, Tryz.ntmps11
    go_wp2_with (first | (go_at_call 43; (with_reducible refine Calls.mono (KV.out _) ?_); rintro r w1 ⟨rfl, hb⟩; replace hB := hB.trans (hb.mono hB.size); have hz := hB.size; replace zb := C3.carry zb hb; have zz := zb; obtain ⟨x0, x1, x2, x3, x4, x5, x6⟩ := zz) | (go_at_call 44; (with_reducible refine Calls.mono (KW.out _) ?_); rintro r w1 ⟨rfl, hb⟩; replace hB := hB.trans (hb.mono hB.size); have hz := hB.size; replace zb := C3.carry zb hb; have zz := zb; obtain ⟨x0, x1, x2, x3, x4, x5, x6⟩ := zz))
    all_goals go_ret
    all_goals exact ⟨rfl, hB⟩
  · cases hp : inr p 0 8
    · rw [show expW n c e p = ⟨#[]⟩ by unfold expW; rw [hp, Bool.and_false]; rfl]
      rw [hv] at kv
      rw [hp] at kw
      have KV := Lib.hid kv; have KW := Lib.hid kw
      clear kv kw
      clear hT hv hp
      go_enter Tryz.func11, Tryz.ntmps11
      go_wp2_with (first | (go_at_call 43; (with_reducible refine Calls.mono (KV.out _) ?_); rintro r w1 ⟨rfl, hb⟩; replace hB := hB.trans (hb.mono hB.size); have hz := hB.size; replace zb := C3.carry zb hb; have zz := zb; obtain ⟨x0, x1, x2, x3, x4, x5, x6⟩ := zz) | (go_at_call 44; (with_reducible refine Calls.mono (KW.out _) ?_); rintro r w1 ⟨rfl, hb⟩; replace hB := hB.trans (hb.mono hB.size); have hz := hB.size; replace zb := C3.carry zb hb; have zz := zb; obtain ⟨x0, x1, x2, x3, x4, x5, x6⟩ := zz))
      all_goals go_ret
      all_goals exact ⟨rfl, hB⟩
    · rw [show expW n c e p = ⟨(etL n c e p.toNat).toArray⟩ by unfold expW; rw [hv, hp]; rfl]
      have hpp : 0 ≤ p ∧ p ≤ 8 := by simpa [inr] using hp
      have kvt := hv
      obtain ⟨m, rfl⟩ := Int.eq_ofNat_of_zero_le hpp.1
      rw [show ((m : Nat) : Int).toNat = m from rfl]
      have hl := ex_len (p := m) hv (by omega)
      have hb := rl_bd (g := (m : Int) + 1) hv (by omega) (by omega)
      have hpl := powL_len (u := 101) (pw := rlI n c e (m + 1)) (by omega)
      have kx := fun W (h : PT W) => scientific_any n c e m W hv (by omega) h
      rw [hv] at kv
      rw [hp] at kw
      have kt := fun W => text_any (fxA c (e - rlI n c e (m + 1)) m) (fxB c (e - rlI n c e (m + 1)) m) (powL 101 (rlI n c e (m + 1))) W (by omega) (by omega) (by omega)
      unfold etL
      generalize fxA c (e - rlI n c e (m + 1)) m ++ restL (fxB c (e - rlI n c e (m + 1)) m) (powL 101 (rlI n c e (m + 1))) false = R at *
      generalize fxA c (e - rlI n c e (m + 1)) m = A at *
      generalize fxB c (e - rlI n c e (m + 1)) m = B at *
      generalize powL 101 (rlI n c e (m + 1)) = T at *
      have KV := Lib.hid kv; have KW := Lib.hid kw; have KX := Lib.hid kx; have KT := Lib.hid kt
      clear kv kw kx kt
      clear hl hv hp hb kvt
      go_enter Tryz.func11, Tryz.ntmps11
      go_wp2_with (first | (go_at_call 43; (with_reducible refine Calls.mono (KV.out _) ?_); rintro r w1 ⟨rfl, hb⟩; replace hB := hB.trans (hb.mono hB.size); have hz := hB.size; replace zb := C3.carry zb hb; have zz := zb; obtain ⟨x0, x1, x2, x3, x4, x5, x6⟩ := zz) | (go_at_call 44; (with_reducible refine Calls.mono (KW.out _) ?_); rintro r w1 ⟨rfl, hb⟩; replace hB := hB.trans (hb.mono hB.size); have hz := hB.size; replace zb := C3.carry zb hb; have zz := zb; obtain ⟨x0, x1, x2, x3, x4, x5, x6⟩ := zz) | (go_at_call 45; (with_reducible refine Calls.mono (KX.out _ (hT.on hB)) ?_); rintro r w1 ⟨rfl, hb⟩; replace hB := hB.trans (hb.mono hB.size); have hz := hB.size; replace zb := C3.carry zb hb; have zz := zb; obtain ⟨x0, x1, x2, x3, x4, x5, x6⟩ := zz) | (go_at_call 46; (with_reducible refine Calls.mono (KT.out _) ?_); rintro r w1 ⟨rfl, hb⟩; replace hB := hB.trans (hb.mono hB.size); have hz := hB.size; replace zb := C3.carry zb hb; have zz := zb; obtain ⟨x0, x1, x2, x3, x4, x5, x6⟩ := zz))
      all_goals go_ret
      all_goals exact ⟨rfl, hB⟩
set_option maxRecDepth 100000 in
set_option maxHeartbeats 4000000 in
theorem ExpTextS_any (n : Bool) (c e p : Int) (w : World) :
    Calls Tryz.prog 12 #[.agg #[.bool n, .int .i64 c, .int .i64 e], .int .i64 p] w fun r w' => r = .returned (.string (expW n c e p)) ∧ Below w.heap.size w w' := by
  have kv := fun W => validS_any n c e W
  have kw := fun W => mBn (inRange_any p 0 8 W)
  have zb := C3.new w (.bool n) (.int .i64 c) (.int .i64 e) 24
  have hB : Below w.heap.size w (w.alloc (.cells #[.bool n, .int .i64 c, .int .i64 e] 24)) := Below.alloc (Below.refl _ _) (Nat.le_refl _) _
  have zz := zb
  obtain ⟨x0, x1, x2, x3, x4, x5, x6⟩ := zz
  cases hv : Fd.vld ⟨n, c, e⟩
  · rw [show expW n c e p = ⟨#[]⟩ by unfold expW; rw [hv]; rfl]
    rw [hv] at kv
    have KV := Lib.hid kv; have KW := Lib.hid kw
    clear kv kw
    clear hv
    go_enter Tryz.func12, Tryz.ntmps12
    go_wp2_with (first | (go_at_call 47; (with_reducible refine Calls.mono (KV.out _) ?_); rintro r w1 ⟨rfl, hb⟩; replace hB := hB.trans (hb.mono hB.size); have hz := hB.size; replace zb := C3.carry zb hb; have zz := zb; obtain ⟨x0, x1, x2, x3, x4, x5, x6⟩ := zz) | (go_at_call 48; (with_reducible refine Calls.mono (KW.out _) ?_); rintro r w1 ⟨rfl, hb⟩; replace hB := hB.trans (hb.mono hB.size); have hz := hB.size; replace zb := C3.carry zb hb; have zz := zb; obtain ⟨x0, x1, x2, x3, x4, x5, x6⟩ := zz))
    all_goals go_ret
    all_goals exact ⟨rfl, hB⟩
  · cases hp : inr p 0 8
    · rw [show expW n c e p = ⟨#[]⟩ by unfold expW; rw [hp, Bool.and_false]; rfl]
      rw [hv] at kv
      have hp' : Fd.inr p 0 8 = false := hp
      rw [hp'] at kw
      have KV := Lib.hid kv; have KW := Lib.hid kw
      clear kv kw
      clear hv hp hp'
      go_enter Tryz.func12, Tryz.ntmps12
      go_wp2_with (first | (go_at_call 47; (with_reducible refine Calls.mono (KV.out _) ?_); rintro r w1 ⟨rfl, hb⟩; replace hB := hB.trans (hb.mono hB.size); have hz := hB.size; replace zb := C3.carry zb hb; have zz := zb; obtain ⟨x0, x1, x2, x3, x4, x5, x6⟩ := zz) | (go_at_call 48; (with_reducible refine Calls.mono (KW.out _) ?_); rintro r w1 ⟨rfl, hb⟩; replace hB := hB.trans (hb.mono hB.size); have hz := hB.size; replace zb := C3.carry zb hb; have zz := zb; obtain ⟨x0, x1, x2, x3, x4, x5, x6⟩ := zz))
      all_goals go_ret
      all_goals exact ⟨rfl, hB⟩
    · rw [show expW n c e p = ⟨(etL n c e p.toNat).toArray⟩ by unfold expW; rw [hv, hp]; rfl]
      have hpp : 0 ≤ p ∧ p ≤ 8 := by simpa [inr] using hp
      have hp' : Fd.inr p 0 8 = true := hp
      obtain ⟨m, rfl⟩ := Int.eq_ofNat_of_zero_le hpp.1
      rw [show ((m : Nat) : Int).toNat = m from rfl]
      have hl := ex_len (p := m) hv (by omega)
      have hb := rl_bd (g := (m : Int) + 1) hv (by omega) (by omega)
      have hpl := powL_len (u := 101) (pw := rlI n c e (m + 1)) (by omega)
      have kx := fun W => expPartsS_any n c e m W hv (by omega)
      have kp := fun W => expTextS_any 101 (rlI n c e (m + 1)) (by omega) W
      rw [hv] at kv
      rw [hp'] at kw
      have kt := fun W => mBn (pointedS_any (fxB c (e - rlI n c e (m + 1)) m) false W (by omega))
      have hrl := rest_len (B := fxB c (e - rlI n c e (m + 1)) m) (T := []) (alt := false) (by omega) (by simp)
      unfold etL
      rw [rest_split]
      generalize fxA c (e - rlI n c e (m + 1)) m = A at *
      generalize restL (fxB c (e - rlI n c e (m + 1)) m) [] false = Q at *
      generalize fxB c (e - rlI n c e (m + 1)) m = B at *
      generalize powL 101 (rlI n c e (m + 1)) = T at *
      generalize rlI n c e (m + 1) = pw at *
      have hc1 := cat_lN A Q
      have hc2 := cat_lN (A ++ Q) T
      have q1 : ¬ (9223372036854775807 < A.length + Q.length) := by omega
      have q2 : ¬ (9223372036854775807 < A.length + Q.length + T.length) := by omega
      have KV := Lib.hid kv; have KW := Lib.hid kw; have KX := Lib.hid kx; have KT := Lib.hid kt; have KP := Lib.hid kp
      clear kv kw kx kt kp
      clear hl hv hp hp' hb
      go_enter Tryz.func12, Tryz.ntmps12
      go_wp2_with (first | (go_at_call 47; (with_reducible refine Calls.mono (KV.out _) ?_); rintro r w1 ⟨rfl, hb⟩; replace hB := hB.trans (hb.mono hB.size); have hz := hB.size; replace zb := C3.carry zb hb; have zz := zb; obtain ⟨x0, x1, x2, x3, x4, x5, x6⟩ := zz) | (go_at_call 48; (with_reducible refine Calls.mono (KW.out _) ?_); rintro r w1 ⟨rfl, hb⟩; replace hB := hB.trans (hb.mono hB.size); have hz := hB.size; replace zb := C3.carry zb hb; have zz := zb; obtain ⟨x0, x1, x2, x3, x4, x5, x6⟩ := zz) | (go_at_call 49; (with_reducible refine Calls.mono (KX.out _) ?_); rintro r w1 ⟨rfl, hb⟩; replace hB := hB.trans (hb.mono hB.size); have hz := hB.size; replace zb := C3.carry zb hb; have zz := zb; obtain ⟨x0, x1, x2, x3, x4, x5, x6⟩ := zz) | (go_at_call 50; (with_reducible refine Calls.mono (KT.out _) ?_); rintro r w1 ⟨rfl, hb⟩; replace hB := hB.trans (hb.mono hB.size); have hz := hB.size; replace zb := C3.carry zb hb; have zz := zb; obtain ⟨x0, x1, x2, x3, x4, x5, x6⟩ := zz) | (go_at_call 51; (with_reducible refine Calls.mono (KP.out _) ?_); rintro r w1 ⟨rfl, hb⟩; replace hB := hB.trans (hb.mono hB.size); have hz := hB.size; replace zb := C3.carry zb hb; have zz := zb; obtain ⟨x0, x1, x2, x3, x4, x5, x6⟩ := zz))
      all_goals go_ret
      all_goals exact ⟨ret_strN (by first | rfl | (rw [hc1, hc2]; simp; done) | (simp [cat_lN]; done)), hB⟩
end Go.Proofs.YtebheehjhnaklaaGreatDoor
namespace Go.Proofs.YtebheehjhnaklaaGreatDoor
open Go.RowKit
set_option maxRecDepth 100000 in
set_option maxHeartbeats 4000000 in
theorem trimmed_any (A B T : List UInt8) (w : World) (hBl : B.length ≤ 200) :
    Calls Tryz.prog 64 #[.agg #[.string ⟨A.toArray⟩, .string ⟨B.toArray⟩, .string ⟨T.toArray⟩]] w fun r w' => r = .returned (.agg #[.string ⟨A.toArray⟩, .string ⟨(trR 48 B).toArray⟩, .string ⟨T.toArray⟩]) ∧ Below w.heap.size w w' := by
  have kt := fun W => mBn (TrimRight_one ⟨B.toArray⟩ 48 (by decide) (by show B.length ≤ _; omega) W)
  rw [show trRB 48 ⟨B.toArray⟩ = ⟨(trR 48 B).toArray⟩ from rfl] at kt
  generalize trR 48 B = B2 at *
  have zb := C3.up (C3.new w (.string ⟨A.toArray⟩) (.string ⟨B.toArray⟩) (.string ⟨T.toArray⟩) 69) (.cells #[.string ⟨#[]⟩, .string ⟨#[]⟩, .string ⟨#[]⟩] 69)
  have zc : C3 ((w.alloc (.cells #[.string ⟨A.toArray⟩, .string ⟨B.toArray⟩, .string ⟨T.toArray⟩] 69)).alloc (.cells #[.string ⟨#[]⟩, .string ⟨#[]⟩, .string ⟨#[]⟩] 69)) (w.heap.size + 1) (.string ⟨#[]⟩) (.string ⟨#[]⟩) (.string ⟨#[]⟩) := by
    have h := C3.new (w.alloc (.cells #[.string ⟨A.toArray⟩, .string ⟨B.toArray⟩, .string ⟨T.toArray⟩] 69)) (.string ⟨#[]⟩) (.string ⟨#[]⟩) (.string ⟨#[]⟩) 69
    rw [show (w.alloc (.cells #[.string ⟨A.toArray⟩, .string ⟨B.toArray⟩, .string ⟨T.toArray⟩] 69)).heap.size = w.heap.size + 1 by simp] at h
    exact h
  have hB : Below w.heap.size w ((w.alloc (.cells #[.string ⟨A.toArray⟩, .string ⟨B.toArray⟩, .string ⟨T.toArray⟩] 69)).alloc (.cells #[.string ⟨#[]⟩, .string ⟨#[]⟩, .string ⟨#[]⟩] 69)) := (Below.alloc (Below.refl _ _) (Nat.le_refl _) _).alloc (by simp) _
  have zz := zb
  obtain ⟨x0, x1, x2, x3, x4, x5, x6⟩ := zz
  have zz := zc
  obtain ⟨x0, x1, x2, x3, x4, x5, x6⟩ := zz
  have KT := Lib.hid kt
  clear kt
  go_enter Tryz.func64, Tryz.ntmps64
  go_wp2_with ((go_at_call 56; (with_reducible refine Calls.mono (KT.out _) ?_); rintro r w1 ⟨rfl, hb⟩; replace hB := hB.trans (hb.mono hB.size); have hz := hB.size; replace zb := C3.carry zb hb; have zz := zb; obtain ⟨x0, x1, x2, x3, x4, x5, x6⟩ := zz; replace zc := C3.carry zc hb; have zz := zc; obtain ⟨x0, x1, x2, x3, x4, x5, x6⟩ := zz))
  exact bodyPost_ret (v := .agg #[.string ⟨A.toArray⟩, .string ⟨B2.toArray⟩, .string ⟨T.toArray⟩]) (by simp [results, Tryz.results64, go_sem, *]) rfl ⟨rfl, (by repeat (first | with_reducible exact Below.refl _ _ | with_reducible assumption | with_reducible refine Below.setCell ?_ (by first | omega | (simp; done) | (simp <;> omega)) _ | with_reducible refine below_drewN ?_ _ | with_reducible refine Below.drew ?_ | with_reducible refine Below.alloc ?_ (by first | omega | (simp; done) | (simp <;> omega)) _))⟩
theorem beq_48 (a : UInt8) : ((a.toNat : Int) == 48) = decide (a = 48) := beq_u8 (a := a) (b := 48)
set_option maxRecDepth 100000 in
set_option maxHeartbeats 4000000 in
theorem trimmedS_any (s : ByteArray) (hs : s.size ≤ 1000) (w : World) :
    Calls Tryz.prog 113 #[.string s] w fun r w' => r = .returned (.string (trRB 48 s)) ∧ w = w' := by
  go_enter Tryz.func113, Tryz.ntmps113
  go_wp2
  go_loopg [0] s.size (fun g s0 wr => ∃ T : ByteArray, wr = w ∧ s0 = .string T ∧ T.size ≤ s.size ∧ Aside (trRB 48 T = trRB 48 s) ∧ Aside (g = T.size))
  case atStart => exact ⟨s, rfl, rfl, Nat.le_refl _, by show _ = _; rfl, by show _ = _; rfl⟩
  case round =>
    obtain ⟨T, rfl, rfl, hk, hv, hg⟩ := hrel
    have hg' := hg.out
    have hv' := hv.out
    clear hg hv
    by_cases h0 : T.size = 0
    · obtain rfl := sz0 h0
      rw [trRB_nil] at hv'
      have HV := Lib.hid hv'
      clear hv'
      go_wp2
      all_goals go_ret
      all_goals exact ⟨ret_str HV.out, rfl⟩
    · have hp : 0 < T.size := by omega
      have hne : T.toList.isEmpty = false := nonempty_list (by omega)
      have hq := beq_48 (T[T.size - 1])
      by_cases hc : T[T.size - 1] = 48
      · have hst := trR_step 48 hp hc
        rw [hv'] at hst
        rw [decide_eq_true hc] at hq
        have HV := Lib.hid hst
        clear hst hv' hc
        go_wp2
        go_roundg (T.size - 1)
        case measure => omega
        case rel => exact ⟨T.extract 0 (T.size - 1), rfl, rfl, by rw [ByteArray.size_extract]; omega, HV.out, by show _ = _; rw [ByteArray.size_extract]; omega⟩
      · have hst := trR_stop 48 hp hc
        rw [hv'] at hst
        rw [decide_eq_false hc] at hq
        have HV := Lib.hid hst
        clear hst hv' hc
        go_wp2
        all_goals go_ret
        all_goals exact ⟨ret_str HV.out.symm, rfl⟩
/-- are the powers of 10 told -/
def sciB (pw : Int) (p : Nat) : Bool := decide (pw < -4) || decide ((p : Int) + 1 ≤ pw)
def gnA (n : Bool) (c e : Int) (p : Nat) : List UInt8 := if sciB (rlI n c e (p + 1)) p then fxA c (e - rlI n c e (p + 1)) p else fxA c e (p - rlI n c e (p + 1)).toNat
def gnB (n : Bool) (c e : Int) (p : Nat) : List UInt8 := if sciB (rlI n c e (p + 1)) p then fxB c (e - rlI n c e (p + 1)) p else fxB c e (p - rlI n c e (p + 1)).toNat
def gnT (n : Bool) (c e : Int) (p : Nat) : List UInt8 := if sciB (rlI n c e (p + 1)) p then powL 101 (rlI n c e (p + 1)) else []
set_option maxRecDepth 100000 in
set_option maxHeartbeats 8000000 in
theorem general_any (n : Bool) (c e : Int) (p : Nat) (w : World) (hv : Fd.vld ⟨n, c, e⟩ = true) (hp : p ≤ 8) (hT : PT w) :
    Calls Tryz.prog 63 #[.agg #[.bool n, .int .i64 c, .int .i64 e], .int .i64 ((p : Int) + 1)] w fun r w' => r = .returned (.agg #[.string ⟨(gnA n c e p).toArray⟩, .string ⟨(gnB n c e p).toArray⟩, .string ⟨(gnT n c e p).toArray⟩]) ∧ Below w.heap.size w w' := by
  obtain ⟨b0, b1, b2, b3⟩ := vld_b hv
  have hb := rl_bd (g := (p : Int) + 1) hv (by omega) (by omega)
  have kr := fun W => roundedLead_any n c e ((p : Int) + 1) W hv (by omega) (by omega)
  have g1 : (p : Int) + 1 - 1 = p := by omega
  have wg : IntKind.i64.wrap (p : Int) = p := IntWalk.i64_in _ (by omega)
  cases hS : sciB (rlI n c e (p + 1)) p
  · have hS' := hS
    simp only [sciB, Bool.or_eq_false_iff, decide_eq_false_iff_not] at hS'
    rw [show gnA n c e p = fxA c e (p - rlI n c e (p + 1)).toNat by unfold gnA; rw [hS]; rfl, show gnB n c e p = fxB c e (p - rlI n c e (p + 1)).toNat by unfold gnB; rw [hS]; rfl, show gnT n c e p = [] by unfold gnT; rw [hS]; rfl]
    obtain ⟨q, hq⟩ : ∃ q : Nat, (p : Int) - rlI n c e (p + 1) = q := ⟨(p - rlI n c e (p + 1)).toNat, by omega⟩
    rw [hq, show ((q : Nat) : Int).toNat = q from rfl]
    have kx := fun W (h : PT W) => fixed_any n c e q W b0 b1 (by omega) (by omega) (by omega) (by omega) h
    generalize fxA c e q = A at *
    generalize fxB c e q = B at *
    generalize rlI n c e (p + 1) = pw at *
    obtain ⟨i1, i2⟩ := hS'
    have i3 : ¬ (p : Int) + 1 ≤ pw := i2
    have wq : IntKind.i64.wrap (q : Int) = q := IntWalk.i64_in _ (by omega)
    have zb := C3.up (C3.new w (.bool n) (.int .i64 c) (.int .i64 e) 24) (.cells #[.string ⟨#[]⟩, .string ⟨#[]⟩, .string ⟨#[]⟩] 69)
    have zc : C3 ((w.alloc (.cells #[.bool n, .int .i64 c, .int .i64 e] 24)).alloc (.cells #[.string ⟨#[]⟩, .string ⟨#[]⟩, .string ⟨#[]⟩] 69)) (w.heap.size + 1) (.string ⟨#[]⟩) (.string ⟨#[]⟩) (.string ⟨#[]⟩) := by
      have h := C3.new (w.alloc (.cells #[.bool n, .int .i64 c, .int .i64 e] 24)) (.string ⟨#[]⟩) (.string ⟨#[]⟩) (.string ⟨#[]⟩) 69
      rw [show (w.alloc (.cells #[.bool n, .int .i64 c, .int .i64 e] 24)).heap.size = w.heap.size + 1 by simp] at h
      exact h
    have hB : Below w.heap.size w ((w.alloc (.cells #[.bool n, .int .i64 c, .int .i64 e] 24)).alloc (.cells #[.string ⟨#[]⟩, .string ⟨#[]⟩, .string ⟨#[]⟩] 69)) := (Below.alloc (Below.refl _ _) (Nat.le_refl _) _).alloc (by simp) _
    have zz := zb
    obtain ⟨x0, x1, x2, x3, x4, x5, x6⟩ := zz
    have zz := zc
    obtain ⟨x0, x1, x2, x3, x4, x5, x6⟩ := zz
    have KR := Lib.hid kr; have KX := Lib.hid kx
    clear kr kx
    clear hv hS
    go_enter Tryz.func63, Tryz.ntmps63
    go_wp2_with (first | (go_at_call 92; (with_reducible refine Calls.mono (KR.out _) ?_); rintro r w1 ⟨rfl, hb⟩; replace hB := hB.trans (hb.mono hB.size); have hz := hB.size; replace zb := C3.carry zb hb; have zz := zb; obtain ⟨x0, x1, x2, x3, x4, x5, x6⟩ := zz; replace zc := C3.carry zc hb; have zz := zc; obtain ⟨x0, x1, x2, x3, x4, x5, x6⟩ := zz) | (go_at_call 93; (with_reducible refine Calls.mono (KX.out _ (hT.on hB)) ?_); rintro r w1 ⟨rfl, hb⟩; replace hB := hB.trans (hb.mono hB.size); have hz := hB.size; replace zb := C3.carry zb hb; have zz := zb; obtain ⟨x0, x1, x2, x3, x4, x5, x6⟩ := zz; replace zc := C3.carry zc hb; have zz := zc; obtain ⟨x0, x1, x2, x3, x4, x5, x6⟩ := zz))
    exact bodyPost_ret (v := .agg #[.string ⟨A.toArray⟩, .string ⟨B.toArray⟩, .string ⟨#[]⟩]) (by simp [results, Tryz.results63, go_sem, *]) rfl ⟨rfl, (by repeat (first | with_reducible exact Below.refl _ _ | with_reducible assumption | with_reducible refine Below.setCell ?_ (by first | omega | (simp; done) | (simp <;> omega)) _ | with_reducible refine below_drewN ?_ _ | with_reducible refine Below.drew ?_ | with_reducible refine Below.alloc ?_ (by first | omega | (simp; done) | (simp <;> omega)) _))⟩
  · have hS' := hS
    simp only [sciB, Bool.or_eq_true, decide_eq_true_eq] at hS'
    rw [show gnA n c e p = fxA c (e - rlI n c e (p + 1)) p by unfold gnA; rw [hS]; rfl, show gnB n c e p = fxB c (e - rlI n c e (p + 1)) p by unfold gnB; rw [hS]; rfl, show gnT n c e p = powL 101 (rlI n c e (p + 1)) by unfold gnT; rw [hS]; rfl]
    have kx := fun W (h : PT W) => scientific_any n c e p W hv hp h
    generalize fxA c (e - rlI n c e (p + 1)) p = A at *
    generalize fxB c (e - rlI n c e (p + 1)) p = B at *
    generalize powL 101 (rlI n c e (p + 1)) = T at *
    generalize rlI n c e (p + 1) = pw at *
    have zb := C3.up (C3.new w (.bool n) (.int .i64 c) (.int .i64 e) 24) (.cells #[.string ⟨#[]⟩, .string ⟨#[]⟩, .string ⟨#[]⟩] 69)
    have zc : C3 ((w.alloc (.cells #[.bool n, .int .i64 c, .int .i64 e] 24)).alloc (.cells #[.string ⟨#[]⟩, .string ⟨#[]⟩, .string ⟨#[]⟩] 69)) (w.heap.size + 1) (.string ⟨#[]⟩) (.string ⟨#[]⟩) (.string ⟨#[]⟩) := by
      have h := C3.new (w.alloc (.cells #[.bool n, .int .i64 c, .int .i64 e] 24)) (.string ⟨#[]⟩) (.string ⟨#[]⟩) (.string ⟨#[]⟩) 69
      rw [show (w.alloc (.cells #[.bool n, .int .i64 c, .int .i64 e] 24)).heap.size = w.heap.size + 1 by simp] at h
      exact h
    have hB : Below w.heap.size w ((w.alloc (.cells #[.bool n, .int .i64 c, .int .i64 e] 24)).alloc (.cells #[.string ⟨#[]⟩, .string ⟨#[]⟩, .string ⟨#[]⟩] 69)) := (Below.alloc (Below.refl _ _) (Nat.le_refl _) _).alloc (by simp) _
    have zz := zb
    obtain ⟨x0, x1, x2, x3, x4, x5, x6⟩ := zz
    have zz := zc
    obtain ⟨x0, x1, x2, x3, x4, x5, x6⟩ := zz
    have KR := Lib.hid kr; have KX := Lib.hid kx
    clear kr kx
    clear hv hS
    by_cases i1 : pw < -4
    · go_enter Tryz.func63, Tryz.ntmps63
      go_wp2_with (first | (go_at_call 92; (with_reducible refine Calls.mono (KR.out _) ?_); rintro r w1 ⟨rfl, hb⟩; replace hB := hB.trans (hb.mono hB.size); have hz := hB.size; replace zb := C3.carry zb hb; have zz := zb; obtain ⟨x0, x1, x2, x3, x4, x5, x6⟩ := zz; replace zc := C3.carry zc hb; have zz := zc; obtain ⟨x0, x1, x2, x3, x4, x5, x6⟩ := zz) | (go_at_call 45; (with_reducible refine Calls.mono (KX.out _ (hT.on hB)) ?_); rintro r w1 ⟨rfl, hb⟩; replace hB := hB.trans (hb.mono hB.size); have hz := hB.size; replace zb := C3.carry zb hb; have zz := zb; obtain ⟨x0, x1, x2, x3, x4, x5, x6⟩ := zz; replace zc := C3.carry zc hb; have zz := zc; obtain ⟨x0, x1, x2, x3, x4, x5, x6⟩ := zz))
      exact bodyPost_ret (v := .agg #[.string ⟨A.toArray⟩, .string ⟨B.toArray⟩, .string ⟨T.toArray⟩]) (by simp [results, Tryz.results63, go_sem, *]) rfl ⟨rfl, (by repeat (first | with_reducible exact Below.refl _ _ | with_reducible assumption | with_reducible refine Below.setCell ?_ (by first | omega | (simp; done) | (simp <;> omega)) _ | with_reducible refine below_drewN ?_ _ | with_reducible refine Below.drew ?_ | with_reducible refine Below.alloc ?_ (by first | omega | (simp; done) | (simp <;> omega)) _))⟩
    · have i2 : (p : Int) + 1 ≤ pw := by omega
      go_enter Tryz.func63, Tryz.ntmps63
      go_wp2_with (first | (go_at_call 92; (with_reducible refine Calls.mono (KR.out _) ?_); rintro r w1 ⟨rfl, hb⟩; replace hB := hB.trans (hb.mono hB.size); have hz := hB.size; replace zb := C3.carry zb hb; have zz := zb; obtain ⟨x0, x1, x2, x3, x4, x5, x6⟩ := zz; replace zc := C3.carry zc hb; have zz := zc; obtain ⟨x0, x1, x2, x3, x4, x5, x6⟩ := zz) | (go_at_call 45; (with_reducible refine Calls.mono (KX.out _ (hT.on hB)) ?_); rintro r w1 ⟨rfl, hb⟩; replace hB := hB.trans (hb.mono hB.size); have hz := hB.size; replace zb := C3.carry zb hb; have zz := zb; obtain ⟨x0, x1, x2, x3, x4, x5, x6⟩ := zz; replace zc := C3.carry zc hb; have zz := zc; obtain ⟨x0, x1, x2, x3, x4, x5, x6⟩ := zz))
      exact bodyPost_ret (v := .agg #[.string ⟨A.toArray⟩, .string ⟨B.toArray⟩, .string ⟨T.toArray⟩]) (by simp [results, Tryz.results63, go_sem, *]) rfl ⟨rfl, (by repeat (first | with_reducible exact Below.refl _ _ | with_reducible assumption | with_reducible refine Below.setCell ?_ (by first | omega | (simp; done) | (simp <;> omega)) _ | with_reducible refine below_drewN ?_ _ | with_reducible refine Below.drew ?_ | with_reducible refine Below.alloc ?_ (by first | omega | (simp; done) | (simp <;> omega)) _))⟩
end Go.Proofs.YtebheehjhnaklaaGreatDoor
namespace Go.Proofs.YtebheehjhnaklaaGreatDoor
open Go.RowKit
/-- a decimal rounded to p + 1 digits, and without zeros -/
def rfD (n : Bool) (c e : Int) (p : Nat) : Fd.D := if c = 0 then ⟨n, c, e⟩ else Fd.normal2 (Fd.roundedS ⟨n, c, e⟩ (Fd.size ⟨n, c, e⟩ - ((p : Int) + 1)))
structure RfF (n : Bool) (c e : Int) (p : Nat) (q : Nat) : Prop where
  c0 : 0 ≤ (rfD n c e p).c
  c9 : (rfD n c e p).c ≤ 999999999
  e0 : -24 ≤ (rfD n c e p).e
  e9 : (rfD n c e p).e ≤ 24
  eq : (rfD n c e p).e + q ≤ 40
  a : fxA (rfD n c e p).c (rfD n c e p).e q = fxA c e q
  b : fxB (rfD n c e p).c (rfD n c e p).e q = fxB c e q
theorem rf_facts {n : Bool} {c e : Int} {p q : Nat} (hv : Fd.vld ⟨n, c, e⟩ = true) (hp : p ≤ 8) (hq : (p : Int) - rlI n c e (p + 1) = q) (hq12 : q ≤ 12) : RfF n c e p q := by
  obtain ⟨b0, b1, b2, b3⟩ := vld_b hv
  by_cases hc : c = 0
  · have e1 : rfD n c e p = ⟨n, c, e⟩ := if_pos hc
    exact ⟨by rw [e1]; exact b0, by rw [e1]; exact b1, by rw [e1]; show -24 ≤ e; omega, by rw [e1]; show e ≤ 24; omega, by rw [e1]; show e + (q : Int) ≤ 40; omega, by rw [e1], by rw [e1]⟩
  · have e1 : rfD n c e p = Fd.normal2 (Fd.roundedS ⟨n, c, e⟩ (Fd.size ⟨n, c, e⟩ - ((p : Int) + 1))) := if_neg hc
    have hs := rl_show (n := n) (c := c) (e := e) (g := (p : Int) + 1) (by omega) b1 (by omega) (by omega)
    have hb := rl_bd (g := (p : Int) + 1) hv (by omega) (by omega)
    rw [← e1] at hs
    obtain ⟨r, hr⟩ : ∃ r, rfD n c e p = r := ⟨_, rfl⟩
    rw [hr] at hs
    have hre := hs.reb
    have hpw := hs.pws
    have hrd := hs.rd
    have hrc := hs.rc
    have hd1 := Fd.dc_one hrc
    have hfx : fxD r.c r.e q = fxD c e q := by
      rw [hs.fx e q (by omega)]
      have hC : fxC r.c r.e q = r.c.toNat := by rw [fxC_drop r.c r.e q _ rfl, if_pos (by omega)]
      unfold fxD gL
      rw [hC, if_neg (by omega)]
      congr 2
      omega
    have hL : fxL r.c r.e q = fxL c e q := by unfold fxL; rw [hfx]
    exact ⟨by rw [hr]; omega, by rw [hr]; exact hs.rb, by rw [hr]; omega, by rw [hr]; omega, by rw [hr]; omega, by rw [hr]; unfold fxA; rw [hL], by rw [hr]; unfold fxB; rw [hL]⟩
set_option maxRecDepth 100000 in
set_option maxHeartbeats 8000000 in
theorem roundedForS_any (n : Bool) (c e : Int) (p : Nat) (w : World) (hv : Fd.vld ⟨n, c, e⟩ = true) (hp : p ≤ 8) :
    Calls Tryz.prog 112 #[.agg #[.bool n, .int .i64 c, .int .i64 e], .int .i64 ((p : Int) + 1)] w fun r w' => r = .returned (.agg #[.bool (rfD n c e p).n, .int .i64 (rfD n c e p).c, .int .i64 (rfD n c e p).e]) ∧ Below w.heap.size w w' := by
  obtain ⟨b0, b1, b2, b3⟩ := vld_b hv
  have zb := C3.up (C3.new w (.bool n) (.int .i64 c) (.int .i64 e) 24) (.cells #[.bool false, .int .i64 0, .int .i64 0] 24)
  have zc : C3 ((w.alloc (.cells #[.bool n, .int .i64 c, .int .i64 e] 24)).alloc (.cells #[.bool false, .int .i64 0, .int .i64 0] 24)) (w.heap.size + 1) (.bool false) (.int .i64 0) (.int .i64 0) := by
    have h := C3.new (w.alloc (.cells #[.bool n, .int .i64 c, .int .i64 e] 24)) (.bool false) (.int .i64 0) (.int .i64 0) 24
    rw [show (w.alloc (.cells #[.bool n, .int .i64 c, .int .i64 e] 24)).heap.size = w.heap.size + 1 by simp] at h
    exact h
  have hB : Below w.heap.size w ((w.alloc (.cells #[.bool n, .int .i64 c, .int .i64 e] 24)).alloc (.cells #[.bool false, .int .i64 0, .int .i64 0] 24)) := (Below.alloc (Below.refl _ _) (Nat.le_refl _) _).alloc (by simp) _
  have zz := zb
  obtain ⟨x0, x1, x2, x3, x4, x5, x6⟩ := zz
  have zz := zc
  obtain ⟨x0, x1, x2, x3, x4, x5, x6⟩ := zz
  by_cases hc : c = 0
  · rw [show rfD n c e p = ⟨n, c, e⟩ from if_pos hc]
    subst hc
    clear hv
    go_enter Tryz.func112, Tryz.ntmps112
    go_wp2
    exact bodyPost_ret (v := .agg #[.bool n, .int .i64 0, .int .i64 e]) (by simp [results, Tryz.results112, go_sem, *]) rfl ⟨rfl, (by repeat (first | with_reducible exact Below.refl _ _ | with_reducible assumption | with_reducible refine Below.setCell ?_ (by first | omega | (simp; done) | (simp <;> omega)) _ | with_reducible refine below_drewN ?_ _ | with_reducible refine Below.drew ?_ | with_reducible refine Below.alloc ?_ (by first | omega | (simp; done) | (simp <;> omega)) _))⟩
  · have hc0 : (c == 0) = false := by simpa using hc
    have kr := fun W => roundedToS_any n c e ((p : Int) + 1) W b0 b1 b2 b3 (by omega) (by omega)
    rw [show rfD n c e p = Fd.normal2 (Fd.roundedS ⟨n, c, e⟩ (Fd.size ⟨n, c, e⟩ - ((p : Int) + 1))) from if_neg hc]
    generalize (Fd.normal2 (Fd.roundedS ⟨n, c, e⟩ (Fd.size ⟨n, c, e⟩ - ((p : Int) + 1)))).n = n2 at *
    generalize (Fd.normal2 (Fd.roundedS ⟨n, c, e⟩ (Fd.size ⟨n, c, e⟩ - ((p : Int) + 1)))).c = c2 at *
    generalize (Fd.normal2 (Fd.roundedS ⟨n, c, e⟩ (Fd.size ⟨n, c, e⟩ - ((p : Int) + 1)))).e = e2 at *
    have KR := Lib.hid kr
    clear kr
    clear hv hc
    go_enter Tryz.func112, Tryz.ntmps112
    go_wp2_with ((go_at_call 97; (with_reducible refine Calls.mono (KR.out _) ?_); rintro r w1 ⟨rfl, hb⟩; replace hB := hB.trans (hb.mono hB.size); have hz := hB.size; replace zb := C3.carry zb hb; have zz := zb; obtain ⟨x0, x1, x2, x3, x4, x5, x6⟩ := zz; replace zc := C3.carry zc hb; have zz := zc; obtain ⟨x0, x1, x2, x3, x4, x5, x6⟩ := zz))
    exact bodyPost_ret (v := .agg #[.bool n2, .int .i64 c2, .int .i64 e2]) (by simp [results, Tryz.results112, go_sem, *]) rfl ⟨rfl, (by repeat (first | with_reducible exact Below.refl _ _ | with_reducible assumption | with_reducible refine Below.setCell ?_ (by first | omega | (simp; done) | (simp <;> omega)) _ | with_reducible refine below_drewN ?_ _ | with_reducible refine Below.drew ?_ | with_reducible refine Below.alloc ?_ (by first | omega | (simp; done) | (simp <;> omega)) _))⟩
end Go.Proofs.YtebheehjhnaklaaGreatDoor
namespace Go.Proofs.YtebheehjhnaklaaGreatDoor
open Go.RowKit
theorem gn_len {n : Bool} {c e : Int} {p : Nat} (hv : Fd.vld ⟨n, c, e⟩ = true) (hp : p ≤ 8) : (gnA n c e p).length ≤ 70 ∧ (gnB n c e p).length ≤ 70 ∧ (gnT n c e p).length ≤ 5 := by
  obtain ⟨b0, b1, b2, b3⟩ := vld_b hv
  have hb := rl_bd (g := (p : Int) + 1) hv (by omega) (by omega)
  cases hS : sciB (rlI n c e (p + 1)) p
  · have hS' := hS
    simp only [sciB, Bool.or_eq_false_iff, decide_eq_false_iff_not] at hS'
    unfold gnA gnB gnT
    rw [hS]
    have F := fx_facts n (c := c) (e := e) (p := ((p : Int) - rlI n c e (p + 1)).toNat) b0 b1 (by omega) (by omega) (by omega) (by omega)
    have := fxAB_len F.cb (by omega) (by omega)
    exact ⟨this.1, this.2, by simp⟩
  · unfold gnA gnB gnT
    rw [hS]
    have := ex_len hv hp
    exact ⟨this.1, this.2, powL_len (by omega)⟩
end Go.Proofs.YtebheehjhnaklaaGreatDoor
