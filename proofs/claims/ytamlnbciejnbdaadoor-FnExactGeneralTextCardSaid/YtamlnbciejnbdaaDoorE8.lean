import Derived.Test.YtamlnbciejnbdaaDoorE7
namespace Go.Proofs.YtamlnbciejnbdaaDoor
open Go.RowKit
theorem C3.set2 {w : World} {g : Nat} {x y z : Value} (h : C3 w g x y z) (v : Value) : C3 (w.setCell ⟨g, 2, none⟩ v) g x y v := by
  obtain ⟨h0, h1, h2, f0, f1, f2, hl⟩ := h
  have hz := (Below.setCell (p := ⟨g, 2, none⟩) (Below.refl 0 w) (Nat.zero_le _) v).size
  refine ⟨?_, ?_, ?_, ?_, ?_, ?_, ?_⟩ <;> first | (simp [go_sem, *]; done) | (rw [set_frozen]; assumption) | omega
/-- the power of the first digit of a decimal that is rounded to g digits -/
def rlI (n : Bool) (c e g : Int) : Int := if c = 0 then 0 else Fd.dc (Fd.dropI ⟨n, c, e⟩ (Fd.dc c - g)).c + (Fd.dropI ⟨n, c, e⟩ (Fd.dc c - g)).e - 1
theorem nd_zero (n : Bool) (e : Int) : Fd.nd ⟨n, 0, e⟩ = Fd.D.z := by
  unfold Fd.nd
  split
  · unfold Fd.fit1
    rw [if_pos rfl]
  · rfl
theorem nd_pos {n : Bool} {c e : Int} (hv : Fd.vld ⟨n, c, e⟩ = true) (hc : 0 < c) : ¬ (Fd.nd ⟨n, c, e⟩).c = 0 := by
  have h := Fd.nd_ok (Fd.vld_iff.1 hv)
  intro hz
  have h1 := h.2
  rw [Fd.V_zero hz] at h1
  have hU := Fd.U_pos (c := c) (e := e) hc
  unfold Fd.V at h1
  split at h1
  · have : -Fd.U c e = 0 := h1.symm
    omega
  · have : Fd.U c e = 0 := h1.symm
    omega
theorem rl_show {n : Bool} {c e g : Int} (h0 : 0 < c) (h1 : c ≤ 999999999) (hg1 : 1 ≤ g) (hg9 : g ≤ 9) :
    Show c e g (Fd.normal2 (Fd.roundedS ⟨n, c, e⟩ (Fd.size ⟨n, c, e⟩ - g))) (rlI n c e g) := by
  have hs := sci_of n (e := e) h0 h1 hg1 hg9
  have h9 := Fd.dc_le9 hs.rb
  have hr : rlI n c e g = Fd.dc (Fd.dropI ⟨n, c, e⟩ (Fd.dc c - g)).c + (Fd.dropI ⟨n, c, e⟩ (Fd.dc c - g)).e - 1 := if_neg (by omega)
  rw [hr]
  exact show_of hg1 hs (by omega)
theorem rl_bd {n : Bool} {c e g : Int} (hv : Fd.vld ⟨n, c, e⟩ = true) (hg1 : 1 ≤ g) (hg9 : g ≤ 9) : -12 ≤ rlI n c e g ∧ rlI n c e g ≤ 21 ∧ -12 ≤ e - rlI n c e g ∧ e - rlI n c e g ≤ 12 := by
  obtain ⟨b0, b1, b2, b3⟩ := vld_b hv
  by_cases hc : c = 0
  · rw [show rlI n c e g = 0 from if_pos hc]; omega
  · have := (rl_show (n := n) (c := c) (e := e) (g := g) (by omega) b1 hg1 hg9).pwb
    omega
set_option maxRecDepth 100000 in
set_option maxHeartbeats 4000000 in
theorem roundedLead_any (n : Bool) (c e g : Int) (w : World) (hv : Fd.vld ⟨n, c, e⟩ = true) (hg1 : 1 ≤ g) (hg9 : g ≤ 9) :
    Calls Tryd.prog 75 #[.agg #[.bool n, .int .i64 c, .int .i64 e], .int .i64 g] w fun r w' => r = .returned (.int .i64 (rlI n c e g)) ∧ Below w.heap.size w w' := by
  obtain ⟨b0, b1, b2, b3⟩ := vld_b hv
  have kn := fun W => NormalDec_any n c e W
  have zb := C3.new w (.bool n) (.int .i64 c) (.int .i64 e) 31
  have hB : Below w.heap.size w (w.alloc (.cells #[.bool n, .int .i64 c, .int .i64 e] 31)) := Below.alloc (Below.refl _ _) (Nat.le_refl _) _
  have zz := zb
  obtain ⟨x0, x1, x2, x3, x4, x5, x6⟩ := zz
  by_cases hc : c = 0
  · rw [show rlI n c e g = 0 from if_pos hc]
    subst hc
    rw [nd_zero] at kn
    have kn' : ∀ W, Calls Tryd.prog 118 #[.agg #[.bool n, .int .i64 0, .int .i64 e]] W fun r w' => r = .returned (.agg #[.bool false, .int .i64 0, .int .i64 0]) ∧ Below W.heap.size W w' := kn
    clear kn
    have KN := Lib.hid kn'
    clear kn'
    go_enter Tryd.func75, Tryd.ntmps75
    go_wp2_with ((go_at_call 118; (with_reducible refine Calls.mono (KN.out _) ?_); rintro r w1 ⟨rfl, hb⟩; replace hB := hB.trans (hb.mono hB.size); have hz := hB.size; replace zb := C3.carry zb hb; have zz := zb; obtain ⟨x0, x1, x2, x3, x4, x5, x6⟩ := zz))
    all_goals go_ret
    all_goals exact ⟨rfl, hB⟩
  · have hcp : 0 < c := by omega
    have hnp := nd_pos hv hcp
    have hs := sci_of n (e := e) (g := g) hcp b1 hg1 hg9
    have hD1 := Fd.dc_one hcp
    have hD9 := Fd.dc_le9 b1
    rw [show rlI n c e g = Fd.size (Fd.dropI ⟨n, c, e⟩ (Fd.dc c - g)) - 1 from if_neg hc]
    have kg := fun W => digits_any n c e W b1
    have kd := fun W => dropped_any n c e (Fd.dc c - g) W b0 b1 (by omega) (by omega) (by omega)
    have heb := hs.eb
    have kl := fun W => lead_any (Fd.dropI ⟨n, c, e⟩ (Fd.dc c - g)).n (Fd.dropI ⟨n, c, e⟩ (Fd.dc c - g)).c (Fd.dropI ⟨n, c, e⟩ (Fd.dc c - g)).e W hs.rb (by omega) (by omega)
    generalize (Fd.nd ⟨n, c, e⟩).n = n1 at *
    generalize (Fd.nd ⟨n, c, e⟩).c = c1 at *
    generalize (Fd.nd ⟨n, c, e⟩).e = e1 at *
    have hc1 : (c1 == 0) = false := by simpa using hnp
    rw [show Fd.size ⟨(Fd.dropI ⟨n, c, e⟩ (Fd.dc c - g)).n, (Fd.dropI ⟨n, c, e⟩ (Fd.dc c - g)).c, (Fd.dropI ⟨n, c, e⟩ (Fd.dc c - g)).e⟩ = Fd.size (Fd.dropI ⟨n, c, e⟩ (Fd.dc c - g)) from rfl] at kl
    generalize Fd.size (Fd.dropI ⟨n, c, e⟩ (Fd.dc c - g)) - 1 = PW at *
    clear hs heb
    generalize (Fd.dropI ⟨n, c, e⟩ (Fd.dc c - g)).n = n2 at *
    generalize (Fd.dropI ⟨n, c, e⟩ (Fd.dc c - g)).c = c2 at *
    generalize (Fd.dropI ⟨n, c, e⟩ (Fd.dc c - g)).e = e2 at *
    generalize Fd.dc c = D at *
    have wn : IntKind.i64.wrap (D - g) = D - g := IntWalk.i64_in _ (by omega)
    have KN := Lib.hid kn; have KG := Lib.hid kg; have KD := Lib.hid kd; have KL := Lib.hid kl
    clear kn kg kd kl
    clear hnp hv
    go_enter Tryd.func75, Tryd.ntmps75
    go_wp2_with ((go_at_call 118; (with_reducible refine Calls.mono (KN.out _) ?_); rintro r w1 ⟨rfl, hb⟩; replace hB := hB.trans (hb.mono hB.size); have hz := hB.size; replace zb := C3.carry zb hb; have zz := zb; obtain ⟨x0, x1, x2, x3, x4, x5, x6⟩ := zz))
    obtain ⟨szb0, szb1, szb2⟩ := C3.since zb
    refine wp_region_since (by kernel_rfl) (by kernel_rfl) ?_
    repeat (quiet_step (first | (go_at_call 119; with_reducible exact Calls.since_of (KG.out _)) | (go_at_call 68; with_reducible exact Calls.since_of (KD.out _)) | (go_at_call 120; with_reducible exact Calls.since_of (KL.out _))))
    refine wpQuiet_nil ?_
    intro w_ hw_
    obtain ⟨⟨w1, hb⟩, hw2⟩ := hw_
    have hw3 : w1 = w_ := hw2.symm
    clear hw2
    subst hw3
    clear szb0 szb1 szb2
    replace hB := hB.trans (hb.mono hB.size)
    have hz := hb.size
    replace zb := C3.carry zb hb
    have zz := zb
    obtain ⟨x0, x1, x2, x3, x4, x5, x6⟩ := zz
    go_wp2
    all_goals go_ret
    all_goals exact ⟨rfl, hB⟩
set_option maxRecDepth 100000 in
set_option maxHeartbeats 8000000 in
theorem scientific_any (n : Bool) (c e : Int) (p : Nat) (w : World) (hv : Fd.vld ⟨n, c, e⟩ = true) (hp : p ≤ 8) (hT : PT w) :
    Calls Tryd.prog 41 #[.agg #[.bool n, .int .i64 c, .int .i64 e], .int .i64 p] w fun r w' => r = .returned (.agg #[.string ⟨(fxA c (e - rlI n c e (p + 1)) p).toArray⟩, .string ⟨(fxB c (e - rlI n c e (p + 1)) p).toArray⟩, .string ⟨(powL 101 (rlI n c e (p + 1))).toArray⟩]) ∧ Below w.heap.size w w' := by
  obtain ⟨b0, b1, b2, b3⟩ := vld_b hv
  have hb := rl_bd (g := (p : Int) + 1) hv (by omega) (by omega)
  have kr := fun W => roundedLead_any n c e ((p : Int) + 1) W hv (by omega) (by omega)
  have kx := fun W (h : PT W) => fixed_any n c (e - rlI n c e (p + 1)) p W b0 b1 (by omega) (by omega) (by omega) (by omega) h
  have kp := fun W (h : PT W) => powerText_any (rlI n c e (p + 1)) (by omega) W h
  generalize fxA c (e - rlI n c e (p + 1)) p = A at *
  generalize fxB c (e - rlI n c e (p + 1)) p = B at *
  generalize powL 101 (rlI n c e (p + 1)) = T at *
  generalize rlI n c e (p + 1) = pw at *
  have wn : IntKind.i64.wrap (e - pw) = e - pw := IntWalk.i64_in _ (by omega)
  have zb := C3.up (C3.new w (.bool n) (.int .i64 c) (.int .i64 e) 31) (.cells #[.string ⟨#[]⟩, .string ⟨#[]⟩, .string ⟨#[]⟩] 53)
  have zc : C3 ((w.alloc (.cells #[.bool n, .int .i64 c, .int .i64 e] 31)).alloc (.cells #[.string ⟨#[]⟩, .string ⟨#[]⟩, .string ⟨#[]⟩] 53)) (w.heap.size + 1) (.string ⟨#[]⟩) (.string ⟨#[]⟩) (.string ⟨#[]⟩) := by
    have h := C3.new (w.alloc (.cells #[.bool n, .int .i64 c, .int .i64 e] 31)) (.string ⟨#[]⟩) (.string ⟨#[]⟩) (.string ⟨#[]⟩) 53
    rw [show (w.alloc (.cells #[.bool n, .int .i64 c, .int .i64 e] 31)).heap.size = w.heap.size + 1 by simp] at h
    exact h
  have hB : Below w.heap.size w ((w.alloc (.cells #[.bool n, .int .i64 c, .int .i64 e] 31)).alloc (.cells #[.string ⟨#[]⟩, .string ⟨#[]⟩, .string ⟨#[]⟩] 53)) := (Below.alloc (Below.refl _ _) (Nat.le_refl _) _).alloc (by simp) _
  have zz := zb
  obtain ⟨x0, x1, x2, x3, x4, x5, x6⟩ := zz
  have zz := zc
  obtain ⟨x0, x1, x2, x3, x4, x5, x6⟩ := zz
  have KR := Lib.hid kr; have KX := Lib.hid kx; have KP := Lib.hid kp
  clear kr kx kp
  clear hv
  go_enter Tryd.func41, Tryd.ntmps41
  go_wp2_with ((go_at_call 75; (with_reducible refine Calls.mono (KR.out _) ?_); rintro r w1 ⟨rfl, hb⟩; replace hB := hB.trans (hb.mono hB.size); have hz := hB.size; replace zb := C3.carry zb hb; have zz := zb; obtain ⟨x0, x1, x2, x3, x4, x5, x6⟩ := zz; replace zc := C3.carry zc hb; have zz := zc; obtain ⟨x0, x1, x2, x3, x4, x5, x6⟩ := zz))
  replace zb := C3.set2 zb (.int .i64 (e - pw))
  replace zc := C3.far zc (b := w.heap.size) (o := 2) (.int .i64 (e - pw)) (by omega)
  replace hB : Below w.heap.size w (w1.setCell ⟨w.heap.size, 2, none⟩ (.int .i64 (e - pw))) := Below.setCell (p := ⟨w.heap.size, 2, none⟩) hB (Nat.le_refl _) _
  have zz := zb
  obtain ⟨x0, x1, x2, x3, x4, x5, x6⟩ := zz
  have zz := zc
  obtain ⟨x0, x1, x2, x3, x4, x5, x6⟩ := zz
  go_wp2_with ((go_at_call 37; (with_reducible refine Calls.mono (KX.out _ (hT.on hB)) ?_); rintro r w1 ⟨rfl, hb⟩; replace hB := hB.trans (hb.mono hB.size); have hz := hB.size; replace zc := C3.carry zc hb; have zz := zc; obtain ⟨x0, x1, x2, x3, x4, x5, x6⟩ := zz))
  have za := C3.new w1 (.string ⟨A.toArray⟩) (.string ⟨B.toArray⟩) (.string ⟨#[]⟩) 53
  replace zc := C3.up zc (.cells #[.string ⟨A.toArray⟩, .string ⟨B.toArray⟩, .string ⟨#[]⟩] 53)
  replace hB : Below w.heap.size w (w1.alloc (.cells #[.string ⟨A.toArray⟩, .string ⟨B.toArray⟩, .string ⟨#[]⟩] 53)) := hB.alloc (by omega) _
  have zz := za
  obtain ⟨x0, x1, x2, x3, x4, x5, x6⟩ := zz
  have zz := zc
  obtain ⟨x0, x1, x2, x3, x4, x5, x6⟩ := zz
  have hza : w.heap.size + 1 ≠ w1.heap.size := by omega
  have hza2 : w1.heap.size ≠ w.heap.size + 1 := by omega
  go_wp2_with ((go_at_call 76; (with_reducible refine Calls.mono (KP.out _ (hT.on hB)) ?_); rintro r w1 ⟨rfl, hb⟩; replace hB := hB.trans (hb.mono hB.size); have hz := hB.size; replace za := C3.carry za hb; have zz := za; obtain ⟨x0, x1, x2, x3, x4, x5, x6⟩ := zz; replace zc := C3.carry zc hb; have zz := zc; obtain ⟨x0, x1, x2, x3, x4, x5, x6⟩ := zz))
  exact bodyPost_ret (v := .agg #[.string ⟨A.toArray⟩, .string ⟨B.toArray⟩, .string ⟨T.toArray⟩]) (by simp [results, Tryd.results41, go_sem, *]) rfl ⟨rfl, (by repeat (first | with_reducible exact Below.refl _ _ | with_reducible assumption | with_reducible refine Below.setCell ?_ (by first | omega | (simp; done) | (simp <;> omega)) _ | with_reducible refine below_drewN ?_ _ | with_reducible refine Below.drew ?_ | with_reducible refine Below.alloc ?_ (by first | omega | (simp; done) | (simp <;> omega)) _))⟩
end Go.Proofs.YtamlnbciejnbdaaDoor
