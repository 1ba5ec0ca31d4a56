import Derived.Test.YtamlnbciejnbdaaGreatDoorE4
namespace Go.Proofs.YtamlnbciejnbdaaGreatDoor
open Go.RowKit
structure PlF (n : Bool) (c e : Int) (m : Nat) : Prop where
  pl : Fd.placesI ⟨n, c, e⟩ = (m : Int)
  mb : m ≤ 12
theorem pl_facts {n : Bool} {c e : Int} (hv : Fd.vld ⟨n, c, e⟩ = true) : ∃ m, PlF n c e m := by
  have h := Fd.nd_valid ⟨n, c, e⟩
  obtain ⟨_, _, h1, h2, _⟩ := h
  refine ⟨(Fd.placesI ⟨n, c, e⟩).toNat, ?_, ?_⟩
  · unfold Fd.placesI
    rw [hv, if_pos rfl]
    omega
  · unfold Fd.placesI
    rw [hv, if_pos rfl]
    omega
def plainW (n : Bool) (c e : Int) : ByteArray := if Fd.vld ⟨n, c, e⟩ then ⟨(ftL c e (Fd.placesI ⟨n, c, e⟩).toNat).toArray⟩ else ⟨#[]⟩
set_option maxRecDepth 100000 in
set_option maxHeartbeats 4000000 in
theorem plain_any (n : Bool) (c e : Int) (m : Nat) (w : World) (hv : Fd.vld ⟨n, c, e⟩ = true) (hm : PlF n c e m) (hT : PT w) :
    Calls Tryz.prog 67 #[.agg #[.bool n, .int .i64 c, .int .i64 e]] w fun r w' => r = .returned (.agg #[.string ⟨(fxA c e m).toArray⟩, .string ⟨(fxB c e m).toArray⟩, .string ⟨#[]⟩]) ∧ Below w.heap.size w w' := by
  obtain ⟨b0, b1, b2, b3⟩ := vld_b hv
  have hmb := hm.mb
  have kp := fun W => PlacesOf_any n c e W
  rw [hm.pl] at kp
  have kx := fun W (h : PT W) => fixed_any n c e m W b0 b1 (by omega) (by omega) (by omega) (by omega) h
  generalize fxA c e m = A at *
  generalize fxB c e m = B at *
  have zb := C3.up (C3.new w (.bool n) (.int .i64 c) (.int .i64 e) 24) (.cells #[.string ⟨#[]⟩, .string ⟨#[]⟩, .string ⟨#[]⟩] 58)
  have zc : C3 ((w.alloc (.cells #[.bool n, .int .i64 c, .int .i64 e] 24)).alloc (.cells #[.string ⟨#[]⟩, .string ⟨#[]⟩, .string ⟨#[]⟩] 58)) (w.heap.size + 1) (.string ⟨#[]⟩) (.string ⟨#[]⟩) (.string ⟨#[]⟩) := by
    have h := C3.new (w.alloc (.cells #[.bool n, .int .i64 c, .int .i64 e] 24)) (.string ⟨#[]⟩) (.string ⟨#[]⟩) (.string ⟨#[]⟩) 58
    rw [show (w.alloc (.cells #[.bool n, .int .i64 c, .int .i64 e] 24)).heap.size = w.heap.size + 1 by simp] at h
    exact h
  have hB : Below w.heap.size w ((w.alloc (.cells #[.bool n, .int .i64 c, .int .i64 e] 24)).alloc (.cells #[.string ⟨#[]⟩, .string ⟨#[]⟩, .string ⟨#[]⟩] 58)) := (Below.alloc (Below.refl _ _) (Nat.le_refl _) _).alloc (by simp) _
  have zz := zb
  obtain ⟨x0, x1, x2, x3, x4, x5, x6⟩ := zz
  have zz := zc
  obtain ⟨x0, x1, x2, x3, x4, x5, x6⟩ := zz
  have KP := Lib.hid kp; have KX := Lib.hid kx
  clear kp kx
  clear hv hm
  go_enter Tryz.func67, Tryz.ntmps67
  go_wp2
  go_region_with (first | (go_at_call 27; (with_reducible refine Calls.mono (KP.out _) ?_); rintro r w1 ⟨rfl, hb⟩; have hB : Below w.heap.size w w1 := (by refine Below.trans ?_ (hb.mono (by first | omega | (simp; done) | (simp <;> omega))); repeat (first | with_reducible exact Below.refl _ _ | with_reducible assumption | with_reducible refine Below.setCell ?_ (by first | omega | (simp; done) | (simp <;> omega)) _ | with_reducible refine below_drewN ?_ _ | with_reducible refine Below.drew ?_ | with_reducible refine Below.alloc ?_ (by first | omega | (simp; done) | (simp <;> omega)) _)); have hz := hb.size; (try simp at hz); (try (have zN := C3.carry (by first | with_reducible exact za | with_reducible exact za.up _ | with_reducible exact (za.up _).up _ | with_reducible exact C3.drew za | with_reducible exact (C3.drew za).up _) hb; clear za; have za := zN; clear zN; have zz := za; obtain ⟨x0, x1, x2, x3, x4, x5, x6⟩ := zz)); (try (have zN := C3.carry (by first | with_reducible exact zb | with_reducible exact zb.up _ | with_reducible exact (zb.up _).up _ | with_reducible exact C3.drew zb | with_reducible exact (C3.drew zb).up _) hb; clear zb; have zb := zN; clear zN; have zz := zb; obtain ⟨x0, x1, x2, x3, x4, x5, x6⟩ := zz)); (try (have zN := C3.carry (by first | with_reducible exact zc | with_reducible exact zc.up _ | with_reducible exact (zc.up _).up _ | with_reducible exact C3.drew zc | with_reducible exact (C3.drew zc).up _) hb; clear zc; have zc := zN; clear zN; have zz := zc; obtain ⟨x0, x1, x2, x3, x4, x5, x6⟩ := zz)); (try (have zN := C3.carry (by first | with_reducible exact zd | with_reducible exact zd.up _ | with_reducible exact (zd.up _).up _ | with_reducible exact C3.drew zd | with_reducible exact (C3.drew zd).up _) hb; clear zd; have zd := zN; clear zN; have zz := zd; obtain ⟨x0, x1, x2, x3, x4, x5, x6⟩ := zz)); (try (have zN := C3.carry (by first | with_reducible exact ze | with_reducible exact ze.up _ | with_reducible exact (ze.up _).up _ | with_reducible exact C3.drew ze | with_reducible exact (C3.drew ze).up _) hb; clear ze; have ze := zN; clear zN; have zz := ze; obtain ⟨x0, x1, x2, x3, x4, x5, x6⟩ := zz)); (try (have zN := C3.carry (by first | with_reducible exact zf | with_reducible exact zf.up _ | with_reducible exact (zf.up _).up _ | with_reducible exact C3.drew zf | with_reducible exact (C3.drew zf).up _) hb; clear zf; have zf := zN; clear zN; have zz := zf; obtain ⟨x0, x1, x2, x3, x4, x5, x6⟩ := zz)); (try (first | (have zT := za; clear zT; (first | (have zT := zb; clear zT; (first | (have zT := zc; clear zT; (first | (have zT := zd; clear zT; (first | (have zT := ze; clear zT; (first | (have zT := zf; clear zT; (skip)) | (have zf := C3.carry (C3.new _ _ _ _ _) hb; have zz := zf; obtain ⟨x0, x1, x2, x3, x4, x5, x6⟩ := zz))) | (have ze := C3.carry (C3.new _ _ _ _ _) hb; have zz := ze; obtain ⟨x0, x1, x2, x3, x4, x5, x6⟩ := zz))) | (have zd := C3.carry (C3.new _ _ _ _ _) hb; have zz := zd; obtain ⟨x0, x1, x2, x3, x4, x5, x6⟩ := zz))) | (have zc := C3.carry (C3.new _ _ _ _ _) hb; have zz := zc; obtain ⟨x0, x1, x2, x3, x4, x5, x6⟩ := zz))) | (have zb := C3.carry (C3.new _ _ _ _ _) hb; have zz := zb; obtain ⟨x0, x1, x2, x3, x4, x5, x6⟩ := zz))) | (have za := C3.carry (C3.new _ _ _ _ _) hb; have zz := za; obtain ⟨x0, x1, x2, x3, x4, x5, x6⟩ := zz)))) | (go_at_call 43; (with_reducible refine Calls.mono (KX.out _ (by first | exact hT.on hB | exact hT.on hB.drew | exact hT.on hB.drew.drew)) ?_); rintro r w1 ⟨rfl, hb⟩; have hB : Below w.heap.size w w1 := (by refine Below.trans ?_ (hb.mono (by first | omega | (simp; done) | (simp <;> omega))); repeat (first | with_reducible exact Below.refl _ _ | with_reducible assumption | with_reducible refine Below.setCell ?_ (by first | omega | (simp; done) | (simp <;> omega)) _ | with_reducible refine below_drewN ?_ _ | with_reducible refine Below.drew ?_ | with_reducible refine Below.alloc ?_ (by first | omega | (simp; done) | (simp <;> omega)) _)); have hz := hb.size; (try simp at hz); (try (have zN := C3.carry (by first | with_reducible exact za | with_reducible exact za.up _ | with_reducible exact (za.up _).up _ | with_reducible exact C3.drew za | with_reducible exact (C3.drew za).up _) hb; clear za; have za := zN; clear zN; have zz := za; obtain ⟨x0, x1, x2, x3, x4, x5, x6⟩ := zz)); (try (have zN := C3.carry (by first | with_reducible exact zb | with_reducible exact zb.up _ | with_reducible exact (zb.up _).up _ | with_reducible exact C3.drew zb | with_reducible exact (C3.drew zb).up _) hb; clear zb; have zb := zN; clear zN; have zz := zb; obtain ⟨x0, x1, x2, x3, x4, x5, x6⟩ := zz)); (try (have zN := C3.carry (by first | with_reducible exact zc | with_reducible exact zc.up _ | with_reducible exact (zc.up _).up _ | with_reducible exact C3.drew zc | with_reducible exact (C3.drew zc).up _) hb; clear zc; have zc := zN; clear zN; have zz := zc; obtain ⟨x0, x1, x2, x3, x4, x5, x6⟩ := zz)); (try (have zN := C3.carry (by first | with_reducible exact zd | with_reducible exact zd.up _ | with_reducible exact (zd.up _).up _ | with_reducible exact C3.drew zd | with_reducible exact (C3.drew zd).up _) hb; clear zd; have zd := zN; clear zN; have zz := zd; obtain ⟨x0, x1, x2, x3, x4, x5, x6⟩ := zz)); (try (have zN := C3.carry (by first | with_reducible exact ze | with_reducible exact ze.up _ | with_reducible exact (ze.up _).up _ | with_reducible exact C3.drew ze | with_reducible exact (C3.drew ze).up _) hb; clear ze; have ze := zN; clear zN; have zz := ze; obtain ⟨x0, x1, x2, x3, x4, x5, x6⟩ := zz)); (try (have zN := C3.carry (by first | with_reducible exact zf | with_reducible exact zf.up _ | with_reducible exact (zf.up _).up _ | with_reducible exact C3.drew zf | with_reducible exact (C3.drew zf).up _) hb; clear zf; have zf := zN; clear zN; have zz := zf; obtain ⟨x0, x1, x2, x3, x4, x5, x6⟩ := zz)); (try (first | (have zT := za; clear zT; (first | (have zT := zb; clear zT; (first | (have zT := zc; clear zT; (first | (have zT := zd; clear zT; (first | (have zT := ze; clear zT; (first | (have zT := zf; clear zT; (skip)) | (have zf := C3.carry (C3.new _ _ _ _ _) hb; have zz := zf; obtain ⟨x0, x1, x2, x3, x4, x5, x6⟩ := zz))) | (have ze := C3.carry (C3.new _ _ _ _ _) hb; have zz := ze; obtain ⟨x0, x1, x2, x3, x4, x5, x6⟩ := zz))) | (have zd := C3.carry (C3.new _ _ _ _ _) hb; have zz := zd; obtain ⟨x0, x1, x2, x3, x4, x5, x6⟩ := zz))) | (have zc := C3.carry (C3.new _ _ _ _ _) hb; have zz := zc; obtain ⟨x0, x1, x2, x3, x4, x5, x6⟩ := zz))) | (have zb := C3.carry (C3.new _ _ _ _ _) hb; have zz := zb; obtain ⟨x0, x1, x2, x3, x4, x5, x6⟩ := zz))) | (have za := C3.carry (C3.new _ _ _ _ _) hb; have zz := za; obtain ⟨x0, x1, x2, x3, x4, x5, x6⟩ := zz)))))
  all_goals go_wp2
  all_goals exact bodyPost_ret (v := .agg #[.string ⟨A.toArray⟩, .string ⟨B.toArray⟩, .string ⟨#[]⟩]) (by simp [results, Tryz.results67, go_sem, *]) rfl ⟨rfl, (by repeat (first | with_reducible exact Below.refl _ _ | with_reducible assumption | with_reducible refine Below.setCell ?_ (by first | omega | (simp; done) | (simp <;> omega)) _ | with_reducible refine below_drewN ?_ _ | with_reducible refine Below.drew ?_ | with_reducible refine Below.alloc ?_ (by first | omega | (simp; done) | (simp <;> omega)) _))⟩
set_option maxRecDepth 100000 in
set_option maxHeartbeats 4000000 in
theorem PlainText_any (n : Bool) (c e : Int) (w : World) (hT : PT w) :
    Calls Tryz.prog 25 #[.agg #[.bool n, .int .i64 c, .int .i64 e]] w fun r w' => r = .returned (.string (plainW n c e)) ∧ Below w.heap.size w w' := by
  have kv := fun W => ValidDec_any n c e W
  have zb := C3.new w (.bool n) (.int .i64 c) (.int .i64 e) 24
  have hB : Below w.heap.size w (w.alloc (.cells #[.bool n, .int .i64 c, .int .i64 e] 24)) := Below.alloc (Below.refl _ _) (Nat.le_refl _) _
  have zz := zb
  obtain ⟨x0, x1, x2, x3, x4, x5, x6⟩ := zz
  cases hv : Fd.vld ⟨n, c, e⟩
  · rw [show plainW n c e = ⟨#[]⟩ by unfold plainW; rw [hv]; rfl]
    rw [hv] at kv
    have KV := Lib.hid kv
    clear kv
    clear hT hv
    go_enter Tryz.func25, Tryz.ntmps25
    go_wp2_with (first | (go_at_call 41; (with_reducible refine Calls.mono (KV.out _) ?_); rintro r w1 ⟨rfl, hb⟩; replace hB := hB.trans (hb.mono hB.size); have hz := hB.size; replace zb := C3.carry zb hb; have zz := zb; obtain ⟨x0, x1, x2, x3, x4, x5, x6⟩ := zz))
    all_goals go_ret
    all_goals exact ⟨rfl, hB⟩
  · obtain ⟨b0, b1, b2, b3⟩ := vld_b hv
    obtain ⟨m, hm⟩ := pl_facts hv
    have hmb := hm.mb
    rw [show plainW n c e = ⟨(ftL c e m).toArray⟩ by unfold plainW; rw [hv, hm.pl]; rfl]
    have kx := fun W (h : PT W) => plain_any n c e m W hv hm h
    rw [hv] at kv
    have F := fx_facts n (c := c) (e := e) (p := m) b0 b1 (by omega) (by omega) (by omega) (by omega)
    have hl := fxAB_len F.cb (by omega) (by omega)
    have kt := fun W => text_any (fxA c e m) (fxB c e m) [] W (by omega) (by omega) (by simp)
    rw [show fxA c e m ++ restL (fxB c e m) [] false = ftL c e m from rfl] at kt
    generalize ftL c e m = R at *
    generalize fxA c e m = A at *
    generalize fxB c e m = B at *
    have KV := Lib.hid kv; have KX := Lib.hid kx; have KT := Lib.hid kt
    clear kv kx kt
    clear F hl hv hm
    go_enter Tryz.func25, Tryz.ntmps25
    go_wp2_with (first | (go_at_call 41; (with_reducible refine Calls.mono (KV.out _) ?_); rintro r w1 ⟨rfl, hb⟩; replace hB := hB.trans (hb.mono hB.size); have hz := hB.size; replace zb := C3.carry zb hb; have zz := zb; obtain ⟨x0, x1, x2, x3, x4, x5, x6⟩ := zz) | (go_at_call 67; (with_reducible refine Calls.mono (KX.out _ (hT.on hB)) ?_); rintro r w1 ⟨rfl, hb⟩; replace hB := hB.trans (hb.mono hB.size); have hz := hB.size; replace zb := C3.carry zb hb; have zz := zb; obtain ⟨x0, x1, x2, x3, x4, x5, x6⟩ := zz) | (go_at_call 44; (with_reducible refine Calls.mono (KT.out _) ?_); rintro r w1 ⟨rfl, hb⟩; replace hB := hB.trans (hb.mono hB.size); have hz := hB.size; replace zb := C3.carry zb hb; have zz := zb; obtain ⟨x0, x1, x2, x3, x4, x5, x6⟩ := zz))
    all_goals go_ret
    all_goals exact ⟨rfl, hB⟩
set_option maxRecDepth 100000 in
set_option maxHeartbeats 4000000 in
theorem PlainTextS_any (n : Bool) (c e : Int) (w : World) :
    Calls Tryz.prog 26 #[.agg #[.bool n, .int .i64 c, .int .i64 e]] w fun r w' => r = .returned (.string (plainW n c e)) ∧ Below w.heap.size w w' := by
  have kv := fun W => validS_any n c e W
  have zb := C3.new w (.bool n) (.int .i64 c) (.int .i64 e) 24
  have hB : Below w.heap.size w (w.alloc (.cells #[.bool n, .int .i64 c, .int .i64 e] 24)) := Below.alloc (Below.refl _ _) (Nat.le_refl _) _
  have zz := zb
  obtain ⟨x0, x1, x2, x3, x4, x5, x6⟩ := zz
  cases hv : Fd.vld ⟨n, c, e⟩
  · rw [show plainW n c e = ⟨#[]⟩ by unfold plainW; rw [hv]; rfl]
    rw [hv] at kv
    have KV := Lib.hid kv
    clear kv
    clear hv
    go_enter Tryz.func26, Tryz.ntmps26
    go_wp2_with (first | (go_at_call 45; (with_reducible refine Calls.mono (KV.out _) ?_); rintro r w1 ⟨rfl, hb⟩; replace hB := hB.trans (hb.mono hB.size); have hz := hB.size; replace zb := C3.carry zb hb; have zz := zb; obtain ⟨x0, x1, x2, x3, x4, x5, x6⟩ := zz))
    all_goals go_ret
    all_goals exact ⟨rfl, hB⟩
  · obtain ⟨b0, b1, b2, b3⟩ := vld_b hv
    obtain ⟨m, hm⟩ := pl_facts hv
    have hmb := hm.mb
    rw [show plainW n c e = ⟨(ftL c e m).toArray⟩ by unfold plainW; rw [hv, hm.pl]; rfl]
    have kp := fun W => PlacesOfS_any n c e W
    rw [Fd.places_eq, hm.pl] at kp
    rw [hv] at kv
    have F := fx_facts n (c := c) (e := e) (p := m) b0 b1 (by omega) (by omega) (by omega) (by omega)
    have hl := fxAB_len F.cb (by omega) (by omega)
    have kx := fun W => fixedPartsS_any n c e m W b0 b1 (by omega) (by omega) (by omega) (by omega)
    have kt := fun W => mBn (pointedS_any (fxB c e m) false W (by omega))
    have hrl : (restL (fxB c e m) [] false).length ≤ 200 := by unfold restL; split; simp; simp only [List.length_cons, List.length_append, List.length_nil]; omega
    have hc := cat_lN (fxA c e m) (restL (fxB c e m) [] false)
    rw [show fxA c e m ++ restL (fxB c e m) [] false = ftL c e m from rfl] at hc
    generalize ftL c e m = R at *
    generalize restL (fxB c e m) [] false = Q at *
    generalize fxA c e m = A at *
    generalize fxB c e m = B at *
    have q1 : ¬ (9223372036854775807 < A.length + Q.length) := by omega
    have KV := Lib.hid kv; have KP := Lib.hid kp; have KX := Lib.hid kx; have KT := Lib.hid kt
    clear kv kp kx kt
    clear F hl hv hm
    go_enter Tryz.func26, Tryz.ntmps26
    go_wp2_with (first | (go_at_call 45; (with_reducible refine Calls.mono (KV.out _) ?_); rintro r w1 ⟨rfl, hb⟩; replace hB := hB.trans (hb.mono hB.size); have hz := hB.size; replace zb := C3.carry zb hb; have zz := zb; obtain ⟨x0, x1, x2, x3, x4, x5, x6⟩ := zz))
    obtain ⟨szb0, szb1, szb2⟩ := C3.since zb
    refine wp_region_since (by kernel_rfl) (by kernel_rfl) ?_
    repeat (quiet_step (first | (go_at_call 68; with_reducible exact Calls.since_of (KP.out _)) | (go_at_call 47; with_reducible exact Calls.since_of (KX.out _))))
    refine wpQuiet_nil ?_
    intro w_ hw_
    obtain ⟨⟨w1, hb⟩, hw2⟩ := hw_
    have hw3 : w1 = w_ := hw2.symm
    clear hw2
    subst hw3
    clear szb0 szb1 szb2
    replace hB := hB.trans (hb.mono hB.size)
    have hz := hb.size
    replace zb := C3.carry zb hb
    have zz := zb
    obtain ⟨x0, x1, x2, x3, x4, x5, x6⟩ := zz
    go_wp2_with (first | (go_at_call 48; (with_reducible refine Calls.mono (KT.out _) ?_); rintro r w1 ⟨rfl, hb⟩; replace hB := hB.trans (hb.mono hB.size); have hz := hB.size; replace zb := C3.carry zb hb; have zz := zb; obtain ⟨x0, x1, x2, x3, x4, x5, x6⟩ := zz))
    all_goals go_ret
    all_goals exact ⟨ret_strN (by first | rfl | exact hc), hB⟩
end Go.Proofs.YtamlnbciejnbdaaGreatDoor
